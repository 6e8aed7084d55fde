/-
  What stands, in the law of layer 9.
-/
import Derived.Test.YtpcbfkcpefcnjaaLawFold
namespace Go.Proofs.Ytpcbfkcpefcnjaa
open Go.RowKit
set_option linter.unusedVariables false

theorem okL_now {M : Nat} {L : List (List Ent)} (h : okL M L) : (nowL L).length ≤ M := by
  rw [nowL_get L h.1]; exact h.2.2 _ (List.getElem_mem _)
theorem okL_kept {M : Nat} {L : List (List Ent)} (h : okL M L) : (keptL L).length ≤ M := by
  rw [keptL_get L h.1]; exact h.2.2 _ (List.getElem_mem _)
/-- The box of the folder's lists stands. -/
def Bx9 (w : World) (a : Option Addr) (n c : Nat) (w' : World) : Prop := Below w.heap.size w w' ∧ w.heap.size + 1 ≤ w'.heap.size ∧ w'.cell? ⟨w.heap.size, 0, none⟩ = some (.slice a n c)
theorem bx9_start (w : World) (a : Option Addr) (n c : Nat) (t : TypeId) : Bx9 w a n c (w.alloc (.cells #[.slice a n c] t)).drew := by
  refine ⟨((Below.refl _ _).alloc (Nat.le_refl _) _).drew, by show _ ≤ (w.alloc _).heap.size; simp, ?_⟩
  show (w.alloc _).cell? _ = _
  simp [World.cell?_alloc_at]
theorem bx9_on {w w' w1 : World} {a : Option Addr} {n c : Nat} (h : Bx9 w a n c w') (hb : Below w'.heap.size w' w1) : Bx9 w a n c w1 := by
  obtain ⟨h0, hz, h1⟩ := h
  exact ⟨h0.trans (hb.mono h0.size), Nat.le_trans hz hb.size, (hb.cell (by dsimp only; omega)).trans h1⟩

set_option maxRecDepth 100000 in
set_option maxHeartbeats 1600000 in
theorem stands9_any {w : World} {S : List Nat} {f : Addr} {L : List (List Ent)} (h : IsFold w S f L) (hL : okL 400 L) (a : Option Addr) (c : Nat) (P : Nat → Prop) (hP : ∀ b, P b → b < w.heap.size) (hl : LLs w P a L) :
    Calls Try.prog 13 #[.pointer (some f), fdV a L.length c] w fun e w' => e = .returned (.bool true) ∧ Below w.heap.size w w' := by
  have hL5 : okL 500 L := ⟨hL.1, by have := hL.2.1; omega, fun l hl => by have := hL.2.2 l hl; omega⟩
  have hLl := hL.2.1
  have hno := okL_now hL
  have hke := okL_kept hL
  have c1 := fun (W : World) (S : List Nat) (h : IsFold W S f L) => fonow_any h hL5
  have c2 := fun (W : World) (hP : ∀ b, P b → b < W.heap.size) (h : LLs W P a L) => rnow9_any a L c P W h hP hL.1 (by omega)
  have c3 := fun (W : World) (S : List Nat) (h : IsFold W S f L) => fokept_any h hL5
  have c4 := fun (W : World) (hP : ∀ b, P b → b < W.heap.size) (h : LLs W P a L) => rkept9_any a L c P W h hP hL.1 (by omega)
  have c5 := fun (W : World) (S : List Nat) (h : IsFold W S f L) => fowait_any h hL5
  have c6 := fun (W : World) (S : List Nat) (h : IsFold W S f L) => foids_any h hL5
  have c7 := fun (W : World) (hP : ∀ b, P b → b < W.heap.size) (h : LLs W P a L) => rids9_any a L c P W hP h (by omega) (fun l hl => by have := hL.2.2 l hl; omega)
  have hil := idsK_len L 900 (fun l hl => by have := hL.2.2 l hl; omega) L.length (Nat.le_refl _)
  rw [List.take_length] at hil
  obtain ⟨n, hn⟩ : ∃ n, L.length = n := ⟨_, rfl⟩
  obtain ⟨ln, hln⟩ : ∃ l, nowL L = l := ⟨_, rfl⟩
  obtain ⟨lk, hlk⟩ : ∃ l, keptL L = l := ⟨_, rfl⟩
  obtain ⟨li, hli⟩ : ∃ l, idsK L = l := ⟨_, rfl⟩
  simp only [hn, hln, hlk, hli] at c1 c2 c3 c4 c5 c6 c7
  rw [hn] at hLl hil ⊢
  rw [hln] at hno
  rw [hlk] at hke
  rw [hli] at hil
  have hpos : 0 < n := by have := List.length_pos_iff.2 hL.1; omega
  have hil2 : li.length ≤ 1000000 := by have : n * 900 ≤ 400 * 900 := Nat.mul_le_mul_right _ hLl; omega
  have C1 := Lib.hid c1; have C2 := Lib.hid c2; have C3 := Lib.hid c3; have C4 := Lib.hid c4; have C5 := Lib.hid c5; have C6 := Lib.hid c6; have C7 := Lib.hid c7
  have H := Lib.hid h; have HL := Lib.hid hl; have HP := Lib.hid hP
  clear c1 c2 c3 c4 c5 c6 c7 hn hln hlk hli h hl hP hL hL5 hil
  have n0 : (0 : Int) ≤ (n : Int) - 1 := by omega
  go_enter Try.func13, Try.ntmps13
  go_wp2_with fail
  have hw : IntKind.i64.wrap ((n : Int) - 1) = (n : Int) - 1 := IntWalk.i64_in _ (by omega)
  have b9 : li.length ≤ 1000000 ∧ ln.length ≤ 1000000 ∧ lk.length ≤ 1000000 := ⟨hil2, by omega, by omega⟩
  have B9 := Lib.hid b9
  clear hil2 b9
  go_region_held3 (fun w' => Below w.heap.size w w' ∧ w.heap.size + 1 ≤ w'.heap.size ∧ w'.cell? ⟨w.heap.size, 0, none⟩ = some (.slice a n c))
    (first | exact bx9_start _ _ _ _ _ | exact bx9_on (by assumption) hb1)
    (first
      | (go_at_call 21; refine (C1.out _ _ (H.out.below (show Bx9 w a n c _ by assumption).1)).mono ?_; rintro e w3 ⟨ai, ci, rfl, he, hb1⟩; have E1 := Lib.hid he; clear he)
      | (go_at_call 16; refine (C2.out _ (fun b hb => Nat.lt_of_lt_of_le (HP.out b hb) (show Bx9 w a n c _ by assumption).1.size) (HL.out.below HP.out (show Bx9 w a n c _ by assumption).1)).mono ?_; rintro e w4 ⟨ai2, ci2, rfl, he, hb1⟩; have E2 := Lib.hid he; have E1b := Lib.hid (E1.out.below (fun b hb => hb.2) hb1); clear he)
      | (go_at_call 36; refine (like9_same _ _ _ _ _ _ _ _ E3b.out E4.out B9.out.2.2).mono ?_; rintro e w8 ⟨rfl, hb1⟩)
      | (go_at_call 36; refine (like9_same _ _ _ _ _ _ _ _ E1b.out E2.out B9.out.2.1).mono ?_; rintro e w5 ⟨rfl, hb1⟩)
      | (go_at_call 22; refine (C3.out _ _ (H.out.below (show Bx9 w a n c _ by assumption).1)).mono ?_; rintro e w6 ⟨ai3, ci3, rfl, he, hb1⟩; have E3 := Lib.hid he; clear he)
      | (go_at_call 37; refine (C4.out _ (fun b hb => Nat.lt_of_lt_of_le (HP.out b hb) (show Bx9 w a n c _ by assumption).1.size) (HL.out.below HP.out (show Bx9 w a n c _ by assumption).1)).mono ?_; rintro e w7 ⟨ai4, ci4, rfl, he, hb1⟩; have E4 := Lib.hid he; have E3b := Lib.hid (E3.out.below (fun b hb => hb.2) hb1); clear he)
      | (go_at_call 19; refine (C5.out _ _ (H.out.below (show Bx9 w a n c _ by assumption).1)).mono ?_; rintro e w9 ⟨rfl, hb1⟩)
      | (go_at_call 23; refine (C6.out _ _ (H.out.below (show Bx9 w a n c _ by assumption).1)).mono ?_; rintro e w10 ⟨ai5, ci5, rfl, he, hb1⟩; have E5 := Lib.hid he; clear he)
      | (go_at_call 39; refine (C7.out _ (fun b hb => Nat.lt_of_lt_of_le (HP.out b hb) (show Bx9 w a n c _ by assumption).1.size) (HL.out.below HP.out (show Bx9 w a n c _ by assumption).1)).mono ?_; rintro e w11 ⟨ai6, ci6, rfl, he, hb1⟩; have E6 := Lib.hid he; have E5b := Lib.hid (E5.out.below hb1); clear he)
      | (go_at_call 38; refine (ints9_same _ _ _ _ _ _ _ _ E5b.out E6.out B9.out.1).mono ?_; rintro e w12 ⟨rfl, hb1⟩))
  clear hw
  go_wp2
  go_ret
  exact ⟨by simp, (show Bx9 w a n c _ by assumption).1⟩
end Go.Proofs.Ytpcbfkcpefcnjaa
