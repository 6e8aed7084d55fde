/-
  The law's lives: two frames, the first one filled up.
-/
import Derived.Test.YtibbglmhcjnedaaDoorScanSame
namespace Go.Proofs.YtibbglmhcjnedaaDoor
open Go.RowKit
set_option linter.unusedVariables false

/-- The two parts of lives. -/
def livP : List Part := [⟨⟨#[97]⟩, true⟩, ⟨⟨#[98]⟩, false⟩]
def livA : List UInt8 := frmL 1 0 [97]
def livB : List UInt8 := frmL 1 1 [98]
theorem livA_len : livA.length = 17 := by unfold livA; rw [frmL_length]; rfl
theorem livB_len : livB.length = 17 := by unfold livB; rw [frmL_length]; rfl
theorem liv_lay : layK livP 1 0 2 = livA ++ List.replicate 15 255 ++ livB := by
  rw [show layK livP 1 0 2 = addP (layK livP 1 0 1) 1 1 ⟨⟨#[98]⟩, false⟩ from layK_succ (l := livP) (k := 1) (by decide), show layK livP 1 0 1 = addP [] 1 0 ⟨⟨#[97]⟩, true⟩ from layK_succ (l := livP) (k := 0) (by decide)]
  unfold addP
  have e1 : ([] : List UInt8) ++ frmL 1 0 (⟨#[97]⟩ : ByteArray).data.toList = livA := rfl
  have e2 : frmL 1 1 (⟨#[98]⟩ : ByteArray).data.toList = livB := rfl
  simp only [e1, e2]
  have e3 : padL livA true = List.replicate 15 255 := by unfold padL; rw [if_pos (by rw [livA_len]; decide), livA_len]
  rw [e3]
  have e4 : padL (livA ++ List.replicate 15 255 ++ livB) false = [] := by unfold padL; rw [if_neg (fun h => by cases h.1)]
  rw [e4, List.append_nil]
theorem liv_len : (layK livP 1 0 2).length = 49 := by rw [liv_lay]; simp [livA_len, livB_len]
def livF : List Frm := [⟨1, 0, ⟨#[97]⟩⟩, ⟨1, 1, ⟨#[98]⟩⟩]
theorem liv_ran : Ran (layK livP 1 0 2) 1 0 0 livF 49 := by
  have h := found livP 1 0 (by omega) (by decide) (by decide) (layK livP 1 0 2) 2 (by decide) ⟨[], by simp⟩ [] 49 (by
    rw [liv_len]
    exact ends_at _ _ (b := []) (by rw [List.drop_eq_nil_of_le (by rw [liv_len]; exact Nat.le_refl _)]) (.inl rfl) (by rw [liv_len]; exact Nat.le_refl _))
  exact h
theorem nil_ran : Ran [] 0 0 0 [] 0 := ends_at _ _ (b := []) rfl (.inl rfl) (Nat.le_refl _)

set_option maxRecDepth 100000 in
set_option maxHeartbeats 800000 in
theorem lives13_any (w : World) (hF : First w) :
    Calls Tryd.prog 8 #[] w fun e w' => e = .returned (.bool true) ∧ Below w.heap.size w w' := by
  have c1 := rlay_any 1 0 ⟨#[97]⟩ (by decide)
  have c2 := rlay_any 1 1 ⟨#[98]⟩ (by decide)
  rw [show layE 1 0 (⟨#[97]⟩ : ByteArray).size = 0 by decide] at c1
  rw [show layE 1 1 (⟨#[98]⟩ : ByteArray).size = 0 by decide] at c2
  obtain ⟨A, hA⟩ : ∃ A, layS 1 0 ⟨#[97]⟩ = A := ⟨_, rfl⟩
  obtain ⟨B, hB⟩ : ∃ A, layS 1 1 ⟨#[98]⟩ = A := ⟨_, rfl⟩
  have a1 : A.data.toList = livA := by
    rw [← hA]
    show (layL 1 0 [97]).toArray.toList = livA
    exact (layS_ok (ep := 1) (sq := 0) [97] (by omega) (by decide)).2
  have b1 : B.data.toList = livB := by
    rw [← hB]
    show (layL 1 1 [98]).toArray.toList = livB
    exact (layS_ok (ep := 1) (sq := 1) [98] (by omega) (by decide)).2
  have a2 : A.size = 17 := by rw [← livA_len, ← a1]; simp
  have b2 : B.size = 17 := by rw [← livB_len, ← b1]; simp
  rw [hA] at c1
  rw [hB] at c2
  have c3 := rfill_any 15
  rw [show filN 15 = 15 by decide] at c3
  obtain ⟨P, hP⟩ : ∃ P, filS 15 = P := ⟨_, rfl⟩
  have p1 : P.data.toList = List.replicate 15 255 := by rw [← hP]; rfl
  have p2 : P.size = 15 := by rw [← hP, filS_size]
  rw [hP] at c3
  obtain ⟨S, hS⟩ : ∃ S, A ++ P ++ B = S := ⟨_, rfl⟩
  have s1 : S.data.toList = layK livP 1 0 2 := by rw [← hS, app_list, app_list, a1, p1, b1, liv_lay]
  have s2 : S.size = 49 := by rw [← hS, ByteArray.size_append, ByteArray.size_append, a2, p2, b2]
  have c4 := srun_any S (by omega) 1 0
  rw [s1] at c4
  have c4' : ∀ w, First w → Calls Tryd.prog 9 #[.string S, .int .i64 1, .int .i64 0] w fun e w' => ∃ a c, e = .returned (.tuple #[.slice a 2 c, .int .i64 49]) ∧ Frms w' (fun b => w.heap.size ≤ b ∧ b < w'.heap.size) a livF ∧ Below w.heap.size w w' := fun w hw => (c4 w hw).mono fun e w' ⟨L', en', a, c, h1, h2, h3, h4⟩ => by
    obtain ⟨rfl, rfl⟩ := liv_ran.same h1
    exact ⟨a, c, h2, h3, h4⟩
  have c5 := swhy_any S (by omega) 1 0 livF 49 (by rw [s1]; exact liv_ran)
  rw [show whyN S.data.toList 49 = 0 by unfold whyN; rw [if_pos (by rw [s1, liv_len])]] at c5
  have c6 := swhy_any ⟨#[]⟩ (by decide) 0 0 [] 0 nil_ran
  rw [show whyN (⟨#[]⟩ : ByteArray).data.toList 0 = 0 from if_pos rfl] at c6
  have C1 := Lib.hid c1; have C2 := Lib.hid c2; have C3 := Lib.hid c3; have C4 := Lib.hid c4'; have C5 := Lib.hid c5; have C6 := Lib.hid c6; have HF := Lib.hid hF
  clear c1 c2 c3 c4 c4' c5 c6 hA hB a1 b1 hP p1 s1 hF
  have F1 : ¬ (9223372036854775807 < A.size + P.size) := by omega
  have F2 : ¬ (9223372036854775807 < (A ++ P).size + B.size) := by rw [ByteArray.size_append]; omega
  have F2' : ¬ (9223372036854775807 < A.size + P.size + B.size) := by omega
  have HS := Lib.hid hS
  go_enter Tryd.func8, Tryd.ntmps8
  go_wp2_with fail
  refine (C1.out _).mono ?_; rintro e w1 ⟨rfl, hb1⟩
  go_wp2_with fail
  refine (C2.out _).mono ?_; rintro e w2 ⟨rfl, hb2⟩
  go_wp2_with fail
  refine (C3.out _).mono ?_; rintro e w3 ⟨rfl, rfl⟩
  go_wp2_with fail
  have HB2 := Lib.hid (hb1.trans (hb2.mono hb1.size))
  have HF2 := Lib.hid (HF.out.onto HB2.out)
  clear hb1 hb2
  refine (C4.out _ HF2.out).mono ?_; rintro e w3 ⟨a, c, rfl, hfr, hb3⟩
  obtain ⟨ad, rfl, -, q0, q1, q2⟩ := hfr 1 (by decide)
  have HB3 := Lib.hid (HB2.out.trans (hb3.mono HB2.out.size))
  have HF3 := Lib.hid (HF2.out.onto hb3)
  clear hb3 hfr
  have q3 : w3.cell? { block := ad.block, off := ad.off + 3 + 2 } = some (.string ⟨#[98]⟩) := by
    have q2 : w3.cell? { block := (ad.add (1 * 3)).block, off := (ad.add (1 * 3)).off + 2 } = some (.string ⟨#[98]⟩) := q2
    simpa [Addr.add] using q2
  clear q2
  clear q0 q1
  go_wp2_with fail
  refine (C5.out _ HF3.out).mono ?_; rintro e w4 ⟨rfl, hb4⟩
  have HF4 := Lib.hid (HF3.out.onto hb4)
  have HB4 := Lib.hid (HB3.out.trans (hb4.mono HB3.out.size))
  clear hb4 q3
  go_wp2_with fail
  refine (C6.out _ HF4.out).mono ?_; rintro e w5 ⟨rfl, hb5⟩
  go_wp2
  go_ret
  exact ⟨rfl, HB4.out.trans (hb5.mono HB4.out.size)⟩
end Go.Proofs.YtibbglmhcjnedaaDoor
