/-
  The library's slices.Grow, slices.Concat, slices.Clone over rows of api.Edit.
-/
import Derived.Test.YtbdfglalohgahaaDoorJMrk
import Derived.Test.YtbdfglalohgahaaDoorEditShelf
import Derived.Laws.OwnMore
import Derived.Laws.AppendOwnNone
namespace Go.Proofs.YtbdfglalohgahaaDoor
open Go.Shelf Go.RowKit
set_option linter.unusedVariables false

set_option maxHeartbeats 1000000 in
/-- A row copied. -/
theorem eclone_some (ad : Addr) (l : List Edt) (c : Nat) (w : World) (hr : Edts w (· < w.heap.size) (some ad) l) (hl : l.length ≤ 1000000) :
    Calls Tryd.prog 51 #[.slice (some ad) l.length c] w fun e w' => ∃ v, e = .returned v ∧ w'.ownsRow w.heap.size 36 3 v l.length (Edt.flat l) ∧ v ≠ .slice none 0 0 ∧ Below w.heap.size w w' := by
  obtain ⟨i0, hi, hz0, hz1, hz2⟩ := info_parts edt_info
  have q22 : ∀ (w : World) (a : Option Addr) (n c n' c' : Nat), (binOp .eql 24 (.slice a n c) (.slice none n' c')).run Tryd.prog w = .ok (.bool a.isNone) w := fun w a n c n' c' => Lib.run_eql_slice_nil w _ _ a n c n' c' Tryd.underlying24
  have HNW := Lib.hid (edts_news hr); have HFL := Lib.hid (Edt.flat_len l); have HOF := Lib.hid (eone_flat l)
  obtain ⟨n, hn⟩ : ∃ n, l.length = n := ⟨_, rfl⟩
  rw [hn] at hl HFL ⊢
  obtain ⟨F, hF⟩ : ∃ F, Edt.flat l = F := ⟨_, rfl⟩
  rw [hF] at HNW HFL HOF ⊢
  clear hr hn hF
  go_enter Tryd.func51, Tryd.ntmps51
  go_wp2_with (at_builtin; refine wpList_append_own _ rfl _ _ 24 rfl w.heap.size 36 i0 _ 3 40 Tryd.underlying24 hi hz0 hz1 hz2 rfl (by decide) _ _ _ rfl (World.ownsRow_made w #[] 0 (Nat.le_refl _) (Nat.zero_le _) (by simp)) ad n c F rfl HFL.out (fun j u hj => Lib.cell?_alloc_some _ (HNW.out j u hj)) HOF.out (by unfold maxLen; omega) (by omega) (by simp) ?_)
  intro v' w1 hown hgrow hnil
  go_wp2
  go_ret
  refine ⟨v', rfl, by simpa using hown, ?_, ?_⟩
  · exact hnil
  · exact ((Below.refl _ w).alloc (Nat.le_refl _) _).grown hgrow (by simp) (by intro k hk; simp [Value.ownBlock] at hk; omega)
theorem eclone_nil (w : World) : Calls Tryd.prog 51 #[.slice none 0 0] w fun e w' => e = .returned (.slice none 0 0) ∧ w' = w := by
  have h := AnyE.slices_Clone_nil Tryd.mkCloneE 0 0 w
  change Calls Tryd.prog 51 _ _ _ at h
  exact h
end Go.Proofs.YtbdfglalohgahaaDoor
