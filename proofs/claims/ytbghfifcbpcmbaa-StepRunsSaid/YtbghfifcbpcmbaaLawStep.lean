/-
  The laws on steps (layer 23): few, lives, StepRuns.
-/
import Derived.Test.YtbghfifcbpcmbaaStepDev
import Derived.Test.YtbghfifcbpcmbaaStepRef2
import Derived.Test.YtbghfifcbpcmbaaOpenStp
import Derived.Deep.RegionHeld3
namespace Go.Proofs.Ytbghfifcbpcmbaa
open Go.RowKit
set_option linter.unusedVariables false
set_option linter.unusedSimpArgs false

/-- An edit that is short and near. -/
def okE (x : Edt) : Bool := decide (x.o.size ≤ 600) && decide (x.n.size ≤ 600) && decide (x.p ≤ 10000) && decide (-10000 ≤ x.p)
theorem okE_iff (x : Edt) : okE x = true ↔ x.o.size ≤ 600 ∧ x.n.size ≤ 600 ∧ x.p ≤ 10000 ∧ -10000 ≤ x.p := by
  unfold okE
  simp only [Bool.and_eq_true, decide_eq_true_eq, and_assoc]
def fewE (l : List Edt) : Bool := decide (l.length ≤ 40) && l.all okE
theorem fewE_long {l : List Edt} (h : 40 < l.length) : fewE l = false := by unfold fewE; rw [decide_eq_false (by omega)]; rfl
theorem fewE_all {l : List Edt} (h : l.length ≤ 40) (ha : ∀ j, j < l.length → okE l[j]! = true) : fewE l = true := by
  unfold fewE
  rw [decide_eq_true h, Bool.true_and, List.all_eq_true]
  intro x hx
  obtain ⟨j, hj, rfl⟩ := List.mem_iff_getElem.1 hx
  rw [← eget hj]
  exact ha j hj
theorem fewE_not {l : List Edt} {k : Nat} (hk : k < l.length) (h : okE l[k]! = false) : fewE l = false := by
  cases hf : fewE l
  · rfl
  · unfold fewE at hf
    simp only [Bool.and_eq_true, List.all_eq_true] at hf
    rw [eget hk, hf.2 _ (List.getElem_mem hk)] at h
    cases h
theorem fewE_z {l : List Edt} (h : fewE l = true) : l.length ≤ 40 ∧ Edtz l 600 ∧ ∀ x ∈ l, -10000 ≤ x.p ∧ x.p ≤ 10000 := by
  unfold fewE at h
  simp only [Bool.and_eq_true, List.all_eq_true, decide_eq_true_eq] at h
  refine ⟨h.1, fun x hx => ?_, fun x hx => ?_⟩
  · have := (okE_iff x).1 (h.2 x hx); omega
  · have := (okE_iff x).1 (h.2 x hx); omega
theorem Edtz.mono {l : List Edt} {b d : Nat} (h : Edtz l b) (hb : b ≤ d) : Edtz l d := fun x hx => by have := h x hx; omega

set_option maxRecDepth 100000 in
set_option maxHeartbeats 1600000 in
theorem few23_any (a : Option Addr) (l : List Edt) (c : Nat) (w : World) (hr : Edts w (· < w.heap.size) a l) :
    Calls Try.prog 5 #[stpV a l.length c] w fun e w' => e = .returned (.bool (fewE l)) ∧ Below w.heap.size w w' := by
  have hst := Stp.new w a l c hr
  obtain ⟨n, hn⟩ : ∃ n, l.length = n := ⟨_, rfl⟩
  obtain ⟨wX, hwX⟩ : ∃ wX, w.alloc (.cells #[.slice a l.length c] 24) = wX := ⟨_, rfl⟩
  rw [hwX] at hst
  have HST := Lib.hid hst; have HN := Lib.hid hn
  have x0 := hst.cell
  rw [hn] at hwX x0 ⊢
  by_cases h40 : 40 < n
  · have h1 : (40 : Int) < (n : Int) := by omega
    rw [fewE_long (by omega)]
    clear hst hr hn
    go_enter Try.func5, Try.ntmps5
    go_wp2
    go_ret
    exact ⟨rfl, HST.out.below⟩
  obtain ⟨r, hfr⟩ : ∃ r, fewE l = r := ⟨_, rfl⟩
  rw [hfr]
  have HF := Lib.hid hfr
  have h1 : (n : Int) ≤ 40 := by omega
  clear hst hr hn hfr
  go_enter Try.func5, Try.ntmps5
  go_wp2
  clear hwX
  go_loopw [3] (fun i wr => ∃ k : Nat, k ≤ n ∧ i = .int .i64 k ∧ (∀ j, j < k → okE l[j]! = true) ∧ Below wX.heap.size wX wr) (fun i _ => n - (intOf i).toNat)
  case atStart => exact ⟨0, Nat.zero_le _, rfl, fun j hj => absurd hj (Nat.not_lt_zero _), Below.refl _ _⟩
  case round =>
    obtain ⟨k, hk, rfl, hall, hbel⟩ := hrel
    have y0 := (hbel.cell (p := ⟨w.heap.size, 0, none⟩) HST.out.size).trans x0
    have HB := Lib.hid (HST.out.below.trans (hbel.mono HST.out.below.size))
    by_cases hlt : k < n
    · have hkl : k < l.length := by rw [HN.out]; exact hlt
      obtain ⟨ad, rfl, hab, q0, q1, q2⟩ := (HST.out.row.below (fun _ h => h) hbel).at k hkl
      have hyes : okE l[k]! = true → ∀ j, j < k + 1 → okE l[j]! = true := fun h j hj => by
        rcases Nat.lt_or_ge j k with g | g
        · exact hall j g
        · obtain rfl : j = k := by omega
          exact h
      have hno := fewE_not hkl
      obtain ⟨x, hx⟩ : ∃ x, l[k]! = x := ⟨_, rfl⟩
      rw [hx] at q0 q1 q2 hyes hno
      have hok := okE_iff x
      obtain ⟨ok, hok0⟩ : ∃ ok, okE x = ok := ⟨_, rfl⟩
      rw [hok0] at hyes hno hok
      rw [HF.out] at hno
      obtain ⟨p, o, m⟩ := x
      simp only at q0 q1 q2 hok
      have b0 : (0 : Int) ≤ (k : Int) := by omega
      have b1 : (k : Int) < (n : Int) := by omega
      have HY := Lib.hid hyes; have HO := Lib.hid hok; have HNO := Lib.hid hno
      clear hall hx hab hyes hno hok hok0
      by_cases g1 : 600 < o.size
      · obtain rfl := HNO.out (by cases ok; rfl; exact absurd (HO.out.1 rfl) (by omega))
        have g2 : (600 : Int) < (o.size : Int) := by omega
        clear hbel HO HNO HY
        go_wp2
        go_ret
        exact ⟨rfl, HB.out⟩
      by_cases g2 : 600 < m.size
      · obtain rfl := HNO.out (by cases ok; rfl; exact absurd (HO.out.1 rfl) (by omega))
        have g3 : (600 : Int) < (m.size : Int) := by omega
        clear hbel HO HNO HY
        go_wp2
        go_ret
        exact ⟨rfl, HB.out⟩
      by_cases g3 : 10000 < p
      · obtain rfl := HNO.out (by cases ok; rfl; exact absurd (HO.out.1 rfl) (by omega))
        clear hbel HO HNO HY
        go_wp2
        go_ret
        exact ⟨rfl, HB.out⟩
      by_cases g4 : p < -10000
      · obtain rfl := HNO.out (by cases ok; rfl; exact absurd (HO.out.1 rfl) (by omega))
        clear hbel HO HNO HY
        go_wp2
        go_ret
        exact ⟨rfl, HB.out⟩
      have HYY := Lib.hid (HY.out (HO.out.2 (by omega)))
      clear HO HNO HY
      go_wp2
      go_roundw
      case rel => exact ⟨k + 1, by omega, by go_num, HYY.out, hbel⟩
      case measure => simp [intOf]; omega
    · obtain rfl : k = n := by omega
      have h0 : r = true := by
        rw [← HF.out]
        exact fewE_all (by rw [HN.out]; omega) (by rw [HN.out]; exact hall)
      subst h0
      clear hall hbel
      go_wp2
      go_ret
      exact ⟨rfl, HB.out⟩

theorem live_inv23 : invL [⟨0, ⟨#[]⟩, ⟨#[97]⟩⟩, ⟨1, ⟨#[]⟩, ⟨#[98]⟩⟩] = [⟨1, ⟨#[98]⟩, ⟨#[]⟩⟩, ⟨0, ⟨#[97]⟩, ⟨#[]⟩⟩] := rfl

set_option maxRecDepth 100000 in
set_option maxHeartbeats 800000 in
theorem lives23_any (w : World) : Calls Try.prog 6 #[] w fun e w' => e = .returned (.bool true) ∧ Below w.heap.size w w' := by
  have hp : Edts (w.alloc (.cells #[.int .i64 0, .string ⟨#[]⟩, .string ⟨#[97]⟩, .int .i64 1, .string ⟨#[]⟩, .string ⟨#[98]⟩] 34)) (· < (w.alloc (.cells #[.int .i64 0, .string ⟨#[]⟩, .string ⟨#[97]⟩, .int .i64 1, .string ⟨#[]⟩, .string ⟨#[98]⟩] 34)).heap.size) (some ⟨w.heap.size, 0, none⟩) [⟨0, ⟨#[]⟩, ⟨#[97]⟩⟩, ⟨1, ⟨#[]⟩, ⟨#[98]⟩⟩] :=
    fun k hk => by
      match k, hk with
      | 0, _ => exact ⟨_, rfl, by simp, by simp [Addr.add, World.cell?_alloc_new], by simp [Addr.add, World.cell?_alloc_new], by simp [Addr.add, World.cell?_alloc_new]⟩
      | 1, _ => exact ⟨_, rfl, by simp, by simp [Addr.add, World.cell?_alloc_new], by simp [Addr.add, World.cell?_alloc_new], by simp [Addr.add, World.cell?_alloc_new]⟩
  have ci := sinv_any _ _ 2 _ hp (by decide)
  rw [live_inv23] at ci
  have hb0 : Below w.heap.size w (w.alloc (.cells #[.int .i64 0, .string ⟨#[]⟩, .string ⟨#[97]⟩, .int .i64 1, .string ⟨#[]⟩, .string ⟨#[98]⟩] 34)) := (Below.refl w.heap.size w).alloc (Nat.le_refl _) _
  have CI := Lib.hid ci; have HB := Lib.hid hb0
  clear ci hp hb0
  go_enter Try.func6, Try.ntmps6
  go_wp2_with fail
  refine CI.out.mono ?_
  rintro e w1 ⟨a3, c3, rfl, hm, hb⟩
  have hb1 : Below w1.heap.size w1 (w1.alloc (.cells #[.slice a3 2 c3] 24)) := (Below.refl _ _).alloc (Nat.le_refl _) _
  obtain ⟨W, hW⟩ : ∃ W, w1.alloc (.cells #[.slice a3 2 c3] 24) = W := ⟨_, rfl⟩
  have B := Blk.new w1 #[.slice a3 2 c3] 24
  rw [hW] at hb1 B
  have hm := hm.below hb1
  obtain ⟨ad, e1, -, q0, q1, q2⟩ := hm.row 0 (Nat.lt_of_lt_of_le (by decide) (Nat.le_refl 2))
  obtain ⟨ad2, e2, -, r0, r1, r2⟩ := hm.row 1 (Nat.lt_of_lt_of_le (by decide) (Nat.le_refl 2))
  have e1 : a3 = some ad := e1
  have e2 : a3 = some ad2 := e2
  subst e1
  obtain rfl : ad = ad2 := by injection e2
  have HB1 := Lib.hid ((HB.out.trans (hb.mono HB.out.size)).trans (hb1.mono (Nat.le_trans HB.out.size hb.size)))
  have y0 := B.cell 0 _ rfl
  clear hm hb e2 hb1 B
  simp [Addr.add] at q0 q1 q2 r0 r1 r2
  have hW : w1.alloc (.cells #[.slice (some ad) 2 c3] 24) = W := hW
  go_wp2
  go_ret
  exact ⟨rfl, HB1.out⟩

theorem stp_on {w w1 w2 : World} {a : Option Addr} {l : List Edt} {c n : Nat} (h : Stp w a l c w1 ∧ w1.cell? ⟨w.heap.size, 0, none⟩ = some (.slice a n c)) (hb : Below w1.heap.size w1 w2) : Stp w a l c w2 ∧ w2.cell? ⟨w.heap.size, 0, none⟩ = some (.slice a n c) :=
  ⟨h.1.on hb, (hb.cell (p := ⟨w.heap.size, 0, none⟩) h.1.size).trans h.2⟩

set_option maxRecDepth 100000 in
set_option maxHeartbeats 1600000 in
theorem stepRuns_walk (t : ByteArray) (a : Option Addr) (l : List Edt) (c : Nat) (w : World) (ht : t.size ≤ maxLen) (fp : EPcs w ⟨a, l, c⟩) (fl : l.length ≤ c ∧ c ≤ maxLen) (ff : ∀ x ∈ l, x.fits) :
    Calls Try.prog 3 #[.string t, .agg #[.slice a l.length c]] w fun e w' => e = .returned (.bool true) ∧ Below w.heap.size w w' := by
  have hst := Stp.new w a l c fp.row
  have cf := fun W (h : Stp w a l c W) => few23_any a l c W h.row
  obtain ⟨wX, hwX⟩ : ∃ wX, w.alloc (.cells #[.slice a l.length c] 24) = wX := ⟨_, rfl⟩
  rw [hwX] at hst
  have x0 := hst.cell
  unfold maxLen at ht
  by_cases h1 : 1000 < t.size
  · have h2 : (1000 : Int) < (t.size : Int) := by omega
    obtain ⟨n, hn⟩ : ∃ n, l.length = n := ⟨_, rfl⟩
    rw [hn] at hwX x0 ⊢
    have HST := Lib.hid hst
    clear hst cf fp fl ff hn h1
    go_enter Try.func3, Try.ntmps3
    go_wp2_with fail
    refine (lives23_any _).mono ?_; rintro e w1 ⟨rfl, hb1⟩
    have HB := Lib.hid (HST.out.below.trans (hb1.mono HST.out.below.size)); clear hb1
    go_wp2
    go_ret
    exact ⟨rfl, HB.out⟩
  have h2 : (t.size : Int) ≤ 1000 := by omega
  cases hfe : fewE l
  · rw [hfe] at cf
    obtain ⟨n, hn⟩ : ∃ n, l.length = n := ⟨_, rfl⟩
    rw [hn] at hwX x0 cf ⊢
    have HST := Lib.hid hst; have CF := Lib.hid (cf wX hst)
    clear hst cf fp fl ff hn h1 hfe
    go_enter Try.func3, Try.ntmps3
    go_wp2_with fail
    refine CF.out.mono ?_; rintro e w0 ⟨rfl, hb0⟩
    have HB0 := Lib.hid (HST.out.below.trans (hb0.mono HST.out.below.size)); clear hb0
    go_wp2_with fail
    refine (lives23_any _).mono ?_; rintro e w1 ⟨rfl, hb1⟩
    have HB := Lib.hid (HB0.out.trans (hb1.mono HB0.out.size)); clear hb1
    go_wp2
    go_ret
    exact ⟨rfl, HB.out⟩
  rw [hfe] at cf
  obtain ⟨hl, hz, -⟩ := fewE_z hfe
  have hz := hz.mono (show 600 ≤ 4294967296 by decide)
  have c1 := fun W (h : Stp w a l c W) => srun_any t a l c W h.row (by omega) (by omega) hz
  have c2 := fun W (h : Stp w a l c W) => rrun23_any t a l c W h.row (by omega) (by omega) hz
  have c3 := fun W (h : Stp w a l c W) => sright_any t a l c W h.row (by omega) (by omega) hz
  have c4 := fun W (h : Stp w a l c W) => rright23_any t a l c W h.row (by omega) (by omega) hz
  have c5 := fun W (h : Stp w a l c W) => sinv_any a l c W h.row (by omega)
  have c6 := fun W (h : Stp w a l c W) => rinv23_any a l c W h.row (by omega)
  have hlen := invL_len l
  obtain ⟨L, hL⟩ : ∃ L, invL l = L := ⟨_, rfl⟩
  rw [hL] at c5 c6 hlen
  have c7 : ∀ a3 c3 a4 c4 W, ERow W 0 ⟨a3, L, c3⟩ → ERow W 0 ⟨a4, L, c4⟩ → Calls Try.prog 11 #[stpV a3 L.length c3, stpV a4 L.length c4] W fun e w' => e = .returned (.bool true) ∧ Below W.heap.size W w' := fun a3 c3 a4 c4 W h3 h4 => by
    have h := rsame23_any a3 a4 L L c3 c4 W h3.in.row h4.in.row (by omega) (by omega)
    rw [decide_eq_true rfl] at h
    exact h
  obtain ⟨⟨rt, re⟩, hR⟩ : ∃ R, runE t l = R := ⟨_, rfl⟩
  rw [hR] at c1 c2
  obtain ⟨r, hr⟩ : ∃ r, rightS t l = r := ⟨_, rfl⟩
  rw [hr] at c3 c4
  obtain ⟨n, hn⟩ : ∃ n, l.length = n := ⟨_, rfl⟩
  rw [hn] at hwX x0 cf c1 c2 c3 c4 c5 c6 ⊢
  obtain ⟨m, hm⟩ : ∃ m, L.length = m := ⟨_, rfl⟩
  have c5 : ∀ W, Stp w a l c W → Calls Try.prog 12 #[stpV a n c] W fun e w' => ∃ a3 c3, e = .returned (stpV a3 m c3) ∧ ERow w' W.heap.size ⟨a3, L, c3⟩ ∧ Below W.heap.size W w' := fun W h => by rw [← hm]; exact c5 W h
  have c6 : ∀ W, Stp w a l c W → Calls Try.prog 13 #[stpV a n c] W fun e w' => ∃ a3 c3, e = .returned (stpV a3 m c3) ∧ ERow w' W.heap.size ⟨a3, L, c3⟩ ∧ Below W.heap.size W w' := fun W h => by rw [← hm]; exact c6 W h
  rw [hm] at c7
  have HST := Lib.hid hst; have CF := Lib.hid cf; have C1 := Lib.hid c1; have C2 := Lib.hid c2; have C3 := Lib.hid c3; have C4 := Lib.hid c4; have C5 := Lib.hid c5; have C6 := Lib.hid c6; have C7 := Lib.hid c7
  clear hst cf fp fl ff hn h1 hfe hl hz c1 c2 c3 c4 c5 c6 c7 hlen hL hR hr hm
  go_enter Try.func3, Try.ntmps3
  go_wp2_with fail
  refine (CF.out _ HST.out).mono ?_; rintro e w0 ⟨rfl, hb0⟩
  have y0 := (hb0.cell (p := ⟨w.heap.size, 0, none⟩) HST.out.size).trans x0
  have HS0 := Lib.hid (HST.out.on hb0); clear hb0
  go_wp2_with fail
  refine (C1.out _ HS0.out).mono ?_; rintro e w1 ⟨rfl, hb1⟩
  have y1 := (hb1.cell (p := ⟨w.heap.size, 0, none⟩) HS0.out.size).trans y0
  have HS1 := Lib.hid (HS0.out.on hb1); clear hb1 y0
  go_wp2_with fail
  refine (C2.out _ HS1.out).mono ?_; rintro e w2 ⟨rfl, hb2⟩
  have y2 := (hb2.cell (p := ⟨w.heap.size, 0, none⟩) HS1.out.size).trans y1
  have HS2 := Lib.hid (HS1.out.on hb2); clear hb2 y1
  go_wp2_with fail
  go_region_held3 (fun w' => Stp w a l c w' ∧ w'.cell? ⟨w.heap.size, 0, none⟩ = some (.slice a n c))
    (first | exact ⟨HS2.out.drew, y2⟩ | exact stp_on (by assumption) hb1)
    (first
      | (go_at_call 9; refine (C3.out _ (show _ ∧ _ by assumption).1).mono ?_; rintro e w1 ⟨rfl, hb1⟩)
      | (go_at_call 10; refine (C4.out _ (show _ ∧ _ by assumption).1).mono ?_; rintro e w1 ⟨rfl, hb1⟩)
      | (go_at_call 12; refine (C5.out _ (show _ ∧ _ by assumption).1).mono ?_; rintro e w1 ⟨a3, c3, rfl, hr3, hb1⟩; have HR3 := Lib.hid (hr3.mono (Nat.zero_le _)); clear hr3)
      | (go_at_call 13; refine (C6.out _ (show _ ∧ _ by assumption).1).mono ?_; rintro e w1 ⟨a4, c4, rfl, hr4, hb1⟩; have HR4 := Lib.hid (hr4.mono (Nat.zero_le _)); have HR5 := Lib.hid (HR3.out.below hb1); clear hr4)
      | (go_at_call 11; refine (C7.out _ _ _ _ _ HR5.out HR4.out).mono ?_; rintro e w1 ⟨rfl, hb1⟩)
      | (go_at_call 6; refine (lives23_any _).mono ?_; rintro e w1 ⟨rfl, hb1⟩))
  go_wp2
  go_ret
  exact ⟨by simp, (show Stp w a l c _ ∧ _ by assumption).1.below⟩
end Go.Proofs.Ytbghfifcbpcmbaa
