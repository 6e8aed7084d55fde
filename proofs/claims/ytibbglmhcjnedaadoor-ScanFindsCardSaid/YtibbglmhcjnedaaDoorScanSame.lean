/-
  The document's Same, of two lists that are the same.
-/
import Derived.Test.YtibbglmhcjnedaaDoorScanRef2
namespace Go.Proofs.YtibbglmhcjnedaaDoor
open Go.RowKit
set_option linter.unusedVariables false

theorem Frms.drewN {w : World} {B : Nat → Prop} {a : Option Addr} {L : List Frm} (h : Frms w B a L) (n : Nat) : Frms (w.drewN n) B a L := h
set_option maxRecDepth 100000 in
set_option maxHeartbeats 800000 in
theorem rsame_any (a1 a2 : Option Addr) (c1 c2 : Nat) (L : List Frm) (hL : L.length ≤ 4294967296) (B1 B2 : Nat → Prop) (w : World) (h1 : Frms w B1 a1 L) (h2 : Frms w B2 a2 L) :
    Calls Tryd.prog 11 #[.slice a1 L.length c1, .slice a2 L.length c2] w fun e w' => e = .returned (.bool true) ∧ Below w.heap.size w w' := by
  have H1 := Lib.hid h1; have H2 := Lib.hid h2
  clear h1 h2
  go_enter Tryd.func11, Tryd.ntmps11
  go_wp2
  go_loopw [5] (fun i wr => ∃ k n : Nat, k ≤ L.length ∧ i = .int .i64 k ∧ wr = w.drewN n) (fun i _ => L.length - (intOf i).toNat)
  case atStart => exact ⟨0, 0, Nat.zero_le _, rfl, rfl⟩
  case round =>
    obtain ⟨k, n, hk, rfl, hwr⟩ := hrel
    by_cases hlt : k < L.length
    · obtain ⟨ad1, rfl, -, p0, p1, p2⟩ := H1.out k hlt
      obtain ⟨ad2, rfl, -, q0, q1, q2⟩ := H2.out k hlt
      obtain ⟨⟨x, y, d⟩, hf⟩ : ∃ f, L[k] = f := ⟨_, rfl⟩
      rw [hf] at p0 p1 p2 q0 q1 q2
      have e : ∀ p, wr.cell? p = w.cell? p := fun p => by rw [hwr]; rfl
      rw [← e] at p0 p1 p2 q0 q1 q2
      have HW := Lib.hid hwr
      clear e hf hwr
      go_wp2
      go_quiet (fail)
      go_wp2
      go_roundw
      case rel => exact ⟨k + 1, n + nq, by omega, by go_num, by rw [HW.out]; simp [World.drewN, Nat.add_assoc]⟩
      case measure => simp [intOf]; omega
    · obtain rfl : k = L.length := by omega
      subst hwr
      go_wp2
      go_ret
      exact ⟨rfl, drewN_below (Below.refl _ _) n⟩
end Go.Proofs.YtibbglmhcjnedaaDoor
