/-
  The laws on stacks (layer 24): few, lives, StackGoes.
-/
import Derived.Test.YthboipmlkgmofaaStkDev5
import Derived.Test.YthboipmlkgmofaaStkRef
import Derived.Test.YthboipmlkgmofaaStkRef2
import Derived.Test.YthboipmlkgmofaaOpenStk
namespace Go.Proofs.Ythboipmlkgmofaa
open Go.RowKit
set_option linter.unusedVariables false
set_option linter.unusedSimpArgs false

/-- An edit, a step, a stack that is short. -/
def okT (x : Edt) : Bool := decide (x.o.size ≤ 300) && decide (x.n.size ≤ 300)
theorem okT_iff (x : Edt) : okT x = true ↔ x.o.size ≤ 300 ∧ x.n.size ≤ 300 := by
  unfold okT
  simp only [Bool.and_eq_true, decide_eq_true_eq]
def okS (x : EPc) : Bool := decide (x.l.length ≤ 40) && x.l.all okT
theorem okS_long {x : EPc} (h : 40 < x.l.length) : okS x = false := by unfold okS; rw [decide_eq_false (by omega)]; rfl
theorem okS_all {x : EPc} (h : x.l.length ≤ 40) (ha : ∀ j, j < x.l.length → okT (x.l[j]!) = true) : okS x = true := by
  unfold okS
  rw [decide_eq_true h, Bool.true_and, List.all_eq_true]
  intro y hy
  obtain ⟨j, hj, rfl⟩ := List.mem_iff_getElem.1 hy
  rw [← eget hj]
  exact ha j hj
theorem okS_not {x : EPc} {k : Nat} (hk : k < x.l.length) (h : okT (x.l[k]!) = false) : okS x = false := by
  cases hf : okS x
  · rfl
  · unfold okS at hf
    simp only [Bool.and_eq_true, List.all_eq_true] at hf
    rw [eget hk, hf.2 _ (List.getElem_mem hk)] at h
    cases h
def fewS (l : List EPc) : Bool := decide (l.length ≤ 20) && l.all okS
theorem fewS_long {l : List EPc} (h : 20 < l.length) : fewS l = false := by unfold fewS; rw [decide_eq_false (by omega)]; rfl
theorem fewS_all {l : List EPc} (h : l.length ≤ 20) (ha : ∀ j, j < l.length → okS (l[j]!) = true) : fewS l = true := by
  unfold fewS
  rw [decide_eq_true h, Bool.true_and, List.all_eq_true]
  intro y hy
  obtain ⟨j, hj, rfl⟩ := List.mem_iff_getElem.1 hy
  rw [← epget hj]
  exact ha j hj
theorem fewS_not {l : List EPc} {k : Nat} (hk : k < l.length) (h : okS (l[k]!) = false) : fewS l = false := by
  cases hf : fewS l
  · rfl
  · unfold fewS at hf
    simp only [Bool.and_eq_true, List.all_eq_true] at hf
    rw [epget hk, hf.2 _ (List.getElem_mem hk)] at h
    cases h
theorem fewS_z {l : List EPc} (h : fewS l = true) : l.length ≤ 20 ∧ ∀ x ∈ l, x.l.length ≤ 40 ∧ Edtz x.l 300 := by
  unfold fewS at h
  simp only [Bool.and_eq_true, List.all_eq_true, decide_eq_true_eq] at h
  refine ⟨h.1, fun x hx => ?_⟩
  have h2 := h.2 x hx
  unfold okS at h2
  simp only [Bool.and_eq_true, List.all_eq_true, decide_eq_true_eq] at h2
  exact ⟨h2.1, fun y hy => (okT_iff y).1 (h2.2 y hy)⟩

set_option maxRecDepth 100000 in
set_option maxHeartbeats 3200000 in
theorem few24_any (a : Option Addr) (l : List EPc) (c : Nat) (w : World) (hp : SPcs w ⟨a, l, c⟩) (hc : ∀ x ∈ l, x.l.length ≤ x.c ∧ x.c ≤ maxLen) :
    Calls Try.prog 5 #[.slice a l.length c] w fun e w' => e = .returned (.bool (fewS l)) ∧ Below w.heap.size w w' := by
  have hm1 : l.length ≤ maxLen := Nat.le_trans hp.le hp.cap
  unfold maxLen at hm1
  obtain ⟨n, hn⟩ : ∃ n, l.length = n := ⟨_, rfl⟩
  rw [hn] at hm1 ⊢
  by_cases h20 : 20 < n
  · have h1 : (20 : Int) < (n : Int) := by omega
    rw [fewS_long (by omega)]
    clear hn hp hc
    go_enter Try.func5, Try.ntmps5
    go_wp2
    go_ret
    exact ⟨rfl, Below.refl _ _⟩
  obtain ⟨r, hfr⟩ : ∃ r, fewS l = r := ⟨_, rfl⟩
  rw [hfr]
  have h1 : (n : Int) ≤ 20 := by omega
  have HP := Lib.hid hp; have HN := Lib.hid hn; have HF := Lib.hid hfr; have HC := Lib.hid hc
  clear hn hfr hp hc
  go_enter Try.func5, Try.ntmps5
  go_wp2
  go_loop [3] (fun i => ∃ k : Nat, k ≤ n ∧ i = .int .i64 k ∧ ∀ j, j < k → okS (l[j]!) = true) (fun i => n - (intOf i).toNat)
  case atStart => exact ⟨0, Nat.zero_le _, rfl, fun j hj => absurd hj (Nat.not_lt_zero _)⟩
  case round =>
    obtain ⟨k, hk, rfl, hall⟩ := hrel
    by_cases hlt : k < n
    · have hkl : k < l.length := by rw [HN.out]; exact hlt
      obtain ⟨ad, rfl, hab, q0⟩ := HP.out.row k hkl
      have hx1 := HP.out.all.at k hkl
      have hx2 := HC.out (l[k]!) (by rw [epget hkl]; exact List.getElem_mem hkl)
      have hyes : okS (l[k]!) = true → ∀ j, j < k + 1 → okS (l[j]!) = true := fun h j hj => by
        rcases Nat.lt_or_ge j k with g | g
        · exact hall j g
        · obtain rfl : j = k := by omega
          exact h
      have hno := fewS_not hkl
      obtain ⟨x, hx⟩ : ∃ x, l[k]! = x := ⟨_, rfl⟩
      simp only at q0
      rw [hx] at q0 hx1 hx2 hyes hno
      have hx4 := okS_long (x := x)
      have hx5 := okS_all (x := x)
      have hx6 := fun j (h : j < x.l.length) => okS_not (x := x) h
      obtain ⟨xa, xl, xc⟩ := x
      simp only [EPc.v] at q0 hx2 hx4 hx5 hx6
      obtain ⟨m, hm⟩ : ∃ m, xl.length = m := ⟨_, rfl⟩
      have hmm : m ≤ 9223372036854775807 := by have := hx2; unfold maxLen at this; omega
      rw [hm] at q0 hx4 hx5 hx6
      obtain ⟨ok, hok⟩ : ∃ ok, okS ⟨xa, xl, xc⟩ = ok := ⟨_, rfl⟩
      rw [hok] at hyes hno hx4 hx5 hx6
      rw [HF.out] at hno
      have b0 : (0 : Int) ≤ (k : Int) := by omega
      have b1 : (k : Int) < (n : Int) := by omega
      have HX1 := Lib.hid hx1; have HM := Lib.hid hm; have HY := Lib.hid hyes; have HNO := Lib.hid hno; have HX4 := Lib.hid hx4; have HX5 := Lib.hid hx5; have HX6 := Lib.hid hx6
      clear hall hx hx1 hx2 hyes hno hx4 hx5 hx6 hm hok hab
      by_cases h40 : 40 < m
      · obtain rfl := HX4.out h40
        obtain rfl := HNO.out rfl
        have g : (40 : Int) < (m : Int) := by omega
        go_wp2
        go_ret
        exact ⟨rfl, Below.refl _ _⟩
      have g40 : (m : Int) ≤ 40 := by omega
      go_wp2
      go_loop [4] (fun i => ∃ j : Nat, j ≤ m ∧ i = .int .i64 j ∧ ∀ q, q < j → okT (xl[q]!) = true) (fun i => m - (intOf i).toNat)
      case atStart => exact ⟨0, Nat.zero_le _, rfl, fun q hq => absurd hq (Nat.not_lt_zero _)⟩
      case round =>
        obtain ⟨j, hj, rfl, hall⟩ := hrel
        by_cases hjm : j < m
        · have hjl : j < xl.length := by rw [HM.out]; exact hjm
          obtain ⟨xd, rfl, hxb, p0, p1, p2⟩ := HX1.out.row.at j hjl
          have hyes : okT (xl[j]!) = true → ∀ q, q < j + 1 → okT (xl[q]!) = true := fun h q hq => by
            rcases Nat.lt_or_ge q j with g | g
            · exact hall q g
            · obtain rfl : q = j := by omega
              exact h
          have hn0 := HX6.out j hjm
          obtain ⟨y, hy⟩ : ∃ y, xl[j]! = y := ⟨_, rfl⟩
          simp only at p0 p1 p2
          rw [hy] at p0 p1 p2 hyes hn0
          have hoi := okT_iff y
          obtain ⟨o1, ho1⟩ : ∃ o1, okT y = o1 := ⟨_, rfl⟩
          rw [ho1] at hyes hn0 hoi
          obtain ⟨p, o, nn⟩ := y
          simp only at p0 p1 p2 hoi
          have d0 : (0 : Int) ≤ (j : Int) := by omega
          have d1 : (j : Int) < (m : Int) := by omega
          have HY1 := Lib.hid hyes; have HN1 := Lib.hid hn0; have HOI := Lib.hid hoi
          clear hall hyes hn0 hoi hy ho1 hxb
          by_cases g1 : 300 < o.size
          · obtain rfl : o1 = false := by cases o1; rfl; exact absurd (HOI.out.1 rfl) (by omega)
            obtain rfl := HN1.out rfl
            obtain rfl := HNO.out rfl
            have g2 : (300 : Int) < (o.size : Int) := by omega
            go_wp2
            go_ret
            exact ⟨rfl, Below.refl _ _⟩
          by_cases g2 : 300 < nn.size
          · obtain rfl : o1 = false := by cases o1; rfl; exact absurd (HOI.out.1 rfl) (by omega)
            obtain rfl := HN1.out rfl
            obtain rfl := HNO.out rfl
            have g3 : (300 : Int) < (nn.size : Int) := by omega
            go_wp2
            go_ret
            exact ⟨rfl, Below.refl _ _⟩
          have g3 : (o.size : Int) ≤ 300 := by omega
          have g4 : (nn.size : Int) ≤ 300 := by omega
          have HYY := Lib.hid (HY1.out (HOI.out.2 ⟨by omega, by omega⟩))
          go_wp2
          go_round
          case rel => exact ⟨j + 1, by omega, by go_num, HYY.out⟩
          case measure => simp [intOf]; omega
        · obtain rfl : j = m := by omega
          have HK := Lib.hid (HY.out (HX5.out (by omega) hall))
          clear hall
          go_wp2
          go_round
          case rel => exact ⟨k + 1, by omega, by go_num, HK.out⟩
          case measure => simp [intOf]; omega
    · obtain rfl : k = n := by omega
      have h0 : r = true := by
        rw [← HF.out]
        exact fewS_all (by rw [HN.out]; omega) (by rw [HN.out]; exact hall)
      subst h0
      clear hall
      go_wp2
      go_ret
      exact ⟨rfl, Below.refl _ _⟩
end Go.Proofs.Ythboipmlkgmofaa
