/-
  The library's slices.Equal over rows of marks, of edits.
-/
import Derived.Test.YtbdfglalohgahaaDoorStaMem
import Derived.BigQuiet
import Derived.Deep.DeepCutAuto
import Derived.Deep.QuietTactic
namespace Go.Proofs.YtbdfglalohgahaaDoor
open Go.RowKit
set_option linter.unusedVariables false
set_option linter.unusedSimpArgs false

theorem ksame_more {a b : List Mrk} {k : Nat} (h : ∀ j, j < k → a[j]! = b[j]!) : a[k]! = b[k]! → ∀ j, j < k + 1 → a[j]! = b[j]! := fun e j hj => by
  rcases Nat.lt_or_ge j k with g | g
  · exact h j g
  · obtain rfl : j = k := by omega
    exact e
theorem ksame_all {a b : List Mrk} (hl : a.length = b.length) (h : ∀ j, j < a.length → a[j]! = b[j]!) : a = b := by
  refine List.ext_getElem hl fun j h1 h2 => ?_
  have := h j h1
  rwa [kget h1, kget h2] at this
theorem Mrks.at {w : World} {B : Nat → Prop} {a : Option Addr} {l : List Mrk} (h : Mrks w B a l) (k : Nat) (hk : k < l.length) : ∃ ad, a = some ad ∧ B ad.block ∧ w.cell? (ad.add (k * 2)) = some (.string (l[k]!).name) ∧ w.cell? ⟨(ad.add (k * 2)).block, (ad.add (k * 2)).off + 1, none⟩ = some (.int .i64 (l[k]!).p) := by
  rw [kget hk]
  exact h k hk

set_option maxRecDepth 100000 in
set_option maxHeartbeats 1600000 in
theorem kequal_any (a b : Option Addr) (la lb : List Mrk) (c d : Nat) (w : World) (ha : Mrks w (· < w.heap.size) a la) (hb : Mrks w (· < w.heap.size) b lb) (hl : la.length ≤ 1000000) (hl2 : lb.length ≤ 1000000) :
    Calls Tryd.prog 42 #[.slice a la.length c, .slice b lb.length d] w fun e w' => e = .returned (.bool (decide (la = lb))) ∧ Below w.heap.size w w' := by
  by_cases hne : la.length = lb.length
  case neg =>
    have h0 : decide (la = lb) = false := decide_eq_false fun e => hne (by rw [e])
    rw [h0]
    obtain ⟨n, hn⟩ : ∃ n, la.length = n := ⟨_, rfl⟩
    obtain ⟨m, hm⟩ : ∃ n, lb.length = n := ⟨_, rfl⟩
    rw [hn] at hl hne ⊢
    rw [hm] at hl2 hne ⊢
    clear hn hm ha hb
    have hne2 : ¬ (n : Int) = (m : Int) := by omega
    go_enter Tryd.func42, Tryd.ntmps42
    go_wp2
    go_ret
    exact ⟨rfl, Below.refl _ _⟩
  obtain ⟨n, hn⟩ : ∃ n, la.length = n := ⟨_, rfl⟩
  rw [← hne, hn]
  rw [hn] at hl
  have HN := Lib.hid hn; have HR := Lib.hid ha; have HS := Lib.hid hb; have HE := Lib.hid hne
  clear hn ha hb hl2 hne
  obtain ⟨r, hfr⟩ : ∃ r, decide (la = lb) = r := ⟨_, rfl⟩
  rw [hfr]
  have HF := Lib.hid hfr; clear hfr
  go_enter Tryd.func42, Tryd.ntmps42
  go_wp2
  go_loopw [13] (fun i wr => ∃ k : Nat, k ≤ n ∧ i = .int .i64 k ∧ (∀ j, j < k → la[j]! = lb[j]!) ∧ Below w.heap.size w wr) (fun i _ => n - (intOf i).toNat)
  case atStart => exact ⟨0, Nat.zero_le _, rfl, fun j hj => absurd hj (Nat.not_lt_zero _), Below.refl _ _⟩
  case round =>
    obtain ⟨k, hk, rfl, hall, hbel⟩ := hrel
    by_cases hlt : k < n
    · have hkl : k < la.length := by rw [HN.out]; exact hlt
      have hkl2 : k < lb.length := by rw [← HE.out]; exact hkl
      obtain ⟨ad, rfl, hab, q0, q1⟩ := (HR.out.below (fun _ h => h) hbel).at k hkl
      obtain ⟨bd, rfl, hbb, r0, r1⟩ := (HS.out.below (fun _ h => h) hbel).at k hkl2
      have hyes := ksame_more (a := la) (b := lb) hall
      have hno : ¬ la[k]! = lb[k]! → decide (la = lb) = false := fun h => decide_eq_false fun e => h (by rw [e])
      obtain ⟨x, hx⟩ : ∃ x, la[k]! = x := ⟨_, rfl⟩
      obtain ⟨y, hy⟩ : ∃ x, lb[k]! = x := ⟨_, rfl⟩
      rw [hx] at q0 q1 hyes hno
      rw [hy] at r0 r1 hyes hno
      have b0 : (0 : Int) ≤ (k : Int) := by omega
      have b1 : (k : Int) < (n : Int) := by omega
      clear hall hx hy hab hbb
      by_cases he : x = y
      · subst he
        have HY := Lib.hid (hyes rfl)
        obtain ⟨o, p⟩ := x
        simp only at q0 q1 r0 r1
        clear hyes hno
        go_wp2_with fail
        go_quiet (fail)
        have hb2 := drewN_below hbel nq
        clear hbel q0 q1 r0 r1
        generalize wr.drewN nq = wx at hb2 ⊢
        go_wp2
        go_roundw
        case rel => exact ⟨k + 1, by omega, by go_num, HY.out, hb2⟩
        case measure => simp [intOf]; omega
      · have h0 := hno he
        rw [HF.out] at h0
        subst h0
        have hp := mrk_ne he
        have HB := Lib.hid hbel
        obtain ⟨o, p⟩ := x
        obtain ⟨o2, p2⟩ := y
        simp only at q0 q1 r0 r1 hp
        clear hyes hno he hbel
        rcases hp with g | ⟨rfl, g⟩
        · have g1 := str_ne g
          clear g
          go_wp2_with fail
          go_quiet (fail)
          go_wp2
          go_ret
          exact ⟨rfl, drewN_below HB.out _⟩
        · have g1 : (p == p2) = false := beq_eq_false_iff_ne.2 g
          go_wp2_with fail
          go_quiet (fail)
          go_wp2
          go_ret
          exact ⟨rfl, drewN_below HB.out _⟩
    · obtain rfl : k = n := by omega
      have h0 : r = true := by
        rw [← HF.out]
        exact decide_eq_true (ksame_all (by rw [HE.out]) (by rw [HN.out]; exact hall))
      subst h0
      have HB := Lib.hid hbel
      clear hall hbel
      go_wp2
      go_ret
      exact ⟨rfl, HB.out⟩
set_option maxRecDepth 100000 in
set_option maxHeartbeats 1600000 in
theorem eequal_any (a b : Option Addr) (la lb : List Edt) (c d : Nat) (w : World) (ha : Edts w (· < w.heap.size) a la) (hb : Edts w (· < w.heap.size) b lb) (hl : la.length ≤ 1000000) (hl2 : lb.length ≤ 1000000) :
    Calls Tryd.prog 45 #[.slice a la.length c, .slice b lb.length d] w fun e w' => e = .returned (.bool (decide (la = lb))) ∧ Below w.heap.size w w' := by
  by_cases hne : la.length = lb.length
  case neg =>
    have h0 : decide (la = lb) = false := decide_eq_false fun e => hne (by rw [e])
    rw [h0]
    obtain ⟨n, hn⟩ : ∃ n, la.length = n := ⟨_, rfl⟩
    obtain ⟨m, hm⟩ : ∃ n, lb.length = n := ⟨_, rfl⟩
    rw [hn] at hl hne ⊢
    rw [hm] at hl2 hne ⊢
    clear hn hm ha hb
    have hne2 : ¬ (n : Int) = (m : Int) := by omega
    go_enter Tryd.func45, Tryd.ntmps45
    go_wp2
    go_ret
    exact ⟨rfl, Below.refl _ _⟩
  obtain ⟨n, hn⟩ : ∃ n, la.length = n := ⟨_, rfl⟩
  rw [← hne, hn]
  rw [hn] at hl
  have HN := Lib.hid hn; have HR := Lib.hid ha; have HS := Lib.hid hb; have HE := Lib.hid hne
  clear hn ha hb hl2 hne
  obtain ⟨r, hfr⟩ : ∃ r, decide (la = lb) = r := ⟨_, rfl⟩
  rw [hfr]
  have HF := Lib.hid hfr; clear hfr
  go_enter Tryd.func45, Tryd.ntmps45
  go_wp2
  go_loopw [13] (fun i wr => ∃ k : Nat, k ≤ n ∧ i = .int .i64 k ∧ (∀ j, j < k → la[j]! = lb[j]!) ∧ Below w.heap.size w wr) (fun i _ => n - (intOf i).toNat)
  case atStart => exact ⟨0, Nat.zero_le _, rfl, fun j hj => absurd hj (Nat.not_lt_zero _), Below.refl _ _⟩
  case round =>
    obtain ⟨k, hk, rfl, hall, hbel⟩ := hrel
    by_cases hlt : k < n
    · have hkl : k < la.length := by rw [HN.out]; exact hlt
      have hkl2 : k < lb.length := by rw [← HE.out]; exact hkl
      obtain ⟨ad, rfl, hab, q0, q1, q2⟩ := (HR.out.below (fun _ h => h) hbel).at k hkl
      obtain ⟨bd, rfl, hbb, r0, r1, r2⟩ := (HS.out.below (fun _ h => h) hbel).at k hkl2
      have hyes := esame_more (a := la) (b := lb) hall
      have hno : ¬ la[k]! = lb[k]! → decide (la = lb) = false := fun h => decide_eq_false fun e => h (by rw [e])
      obtain ⟨x, hx⟩ : ∃ x, la[k]! = x := ⟨_, rfl⟩
      obtain ⟨y, hy⟩ : ∃ x, lb[k]! = x := ⟨_, rfl⟩
      rw [hx] at q0 q1 q2 hyes hno
      rw [hy] at r0 r1 r2 hyes hno
      have b0 : (0 : Int) ≤ (k : Int) := by omega
      have b1 : (k : Int) < (n : Int) := by omega
      clear hall hx hy hab hbb
      by_cases he : x = y
      · subst he
        have HY := Lib.hid (hyes rfl)
        obtain ⟨p, o, m⟩ := x
        simp only at q0 q1 q2 r0 r1 r2
        clear hyes hno
        go_wp2_with fail
        go_quiet (fail)
        have hb2 := drewN_below hbel nq
        clear hbel q0 q1 q2 r0 r1 r2
        generalize wr.drewN nq = wx at hb2 ⊢
        go_wp2
        go_roundw
        case rel => exact ⟨k + 1, by omega, by go_num, HY.out, hb2⟩
        case measure => simp [intOf]; omega
      · have h0 := hno he
        rw [HF.out] at h0
        subst h0
        have hp := edt_ne he
        have HB := Lib.hid hbel
        obtain ⟨p, o, m⟩ := x
        obtain ⟨p2, o2, m2⟩ := y
        simp only at q0 q1 q2 r0 r1 r2 hp
        clear hyes hno he hbel
        rcases hp with g | ⟨rfl, g⟩ | ⟨rfl, rfl, g⟩
        · have g1 : (p == p2) = false := beq_eq_false_iff_ne.2 g
          go_wp2_with fail
          go_quiet (fail)
          go_wp2
          go_ret
          exact ⟨rfl, drewN_below HB.out _⟩
        · have g1 := str_ne g
          clear g
          go_wp2_with fail
          go_quiet (fail)
          go_wp2
          go_ret
          exact ⟨rfl, drewN_below HB.out _⟩
        · have g1 := str_ne g
          clear g
          go_wp2_with fail
          go_quiet (fail)
          go_wp2
          go_ret
          exact ⟨rfl, drewN_below HB.out _⟩
    · obtain rfl : k = n := by omega
      have h0 : r = true := by
        rw [← HF.out]
        exact decide_eq_true (esame_all (by rw [HE.out]) (by rw [HN.out]; exact hall))
      subst h0
      have HB := Lib.hid hbel
      clear hall hbel
      go_wp2
      go_ret
      exact ⟨rfl, HB.out⟩
end Go.Proofs.YtbdfglalohgahaaDoor
