/-
  The library's slices.Grow, slices.Concat, slices.Clone over rows of api.Mark.
-/
import Derived.Test.YtbdfglalohgahaaDoorJMarkMath
import Derived.Test.YtbdfglalohgahaaDoorMrkShelf
import Derived.Laws.OwnMore
import Derived.Laws.AppendOwnNone
namespace Go.Proofs.YtbdfglalohgahaaDoor
open Go.Shelf Go.RowKit
set_option linter.unusedVariables false

set_option maxHeartbeats 1000000 in
/-- A row copied. -/
theorem kclone_some (ad : Addr) (l : List Mrk) (c : Nat) (w : World) (hr : Mrks w (· < w.heap.size) (some ad) l) (hl : l.length ≤ 1000000) :
    Calls Tryd.prog 49 #[.slice (some ad) l.length c] w fun e w' => ∃ v, e = .returned v ∧ w'.ownsRow w.heap.size 34 2 v l.length (Mrk.flat l) ∧ v ≠ .slice none 0 0 ∧ Below w.heap.size w w' := by
  obtain ⟨i0, hi, hz0, hz1, hz2⟩ := info_parts mrk_info
  have q22 : ∀ (w : World) (a : Option Addr) (n c n' c' : Nat), (binOp .eql 22 (.slice a n c) (.slice none n' c')).run Tryd.prog w = .ok (.bool a.isNone) w := fun w a n c n' c' => Lib.run_eql_slice_nil w _ _ a n c n' c' Tryd.underlying22
  have HNW := Lib.hid (kmrks_news hr); have HFL := Lib.hid (Mrk.flat_len l); have HOF := Lib.hid (kone_flat l)
  obtain ⟨n, hn⟩ : ∃ n, l.length = n := ⟨_, rfl⟩
  rw [hn] at hl HFL ⊢
  obtain ⟨F, hF⟩ : ∃ F, Mrk.flat l = F := ⟨_, rfl⟩
  rw [hF] at HNW HFL HOF ⊢
  clear hr hn hF
  go_enter Tryd.func49, Tryd.ntmps49
  go_wp2_with (at_builtin; refine wpList_append_own _ rfl _ _ 22 rfl w.heap.size 34 i0 _ 2 24 Tryd.underlying22 hi hz0 hz1 hz2 rfl (by decide) _ _ _ rfl (World.ownsRow_made w #[] 0 (Nat.le_refl _) (Nat.zero_le _) (by simp)) ad n c F rfl HFL.out (fun j u hj => Lib.cell?_alloc_some _ (HNW.out j u hj)) HOF.out (by unfold maxLen; omega) (by omega) (by simp) ?_)
  intro v' w1 hown hgrow hnil
  go_wp2
  go_ret
  refine ⟨v', rfl, by simpa using hown, ?_, ?_⟩
  · exact hnil
  · exact ((Below.refl _ w).alloc (Nat.le_refl _) _).grown hgrow (by simp) (by intro k hk; simp [Value.ownBlock] at hk; omega)
theorem kclone_nil (w : World) : Calls Tryd.prog 49 #[.slice none 0 0] w fun e w' => e = .returned (.slice none 0 0) ∧ w' = w := by
  have h := AnyE.slices_Clone_nil Tryd.mkCloneM 0 0 w
  change Calls Tryd.prog 49 _ _ _ at h
  exact h
end Go.Proofs.YtbdfglalohgahaaDoor
