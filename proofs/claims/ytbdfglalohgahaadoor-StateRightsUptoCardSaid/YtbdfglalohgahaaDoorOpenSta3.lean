/-
  What a bound on all values and letters of a state's reading says of its parts.
-/
import Derived.Test.YtbdfglalohgahaaDoorOpenSta
import Derived.Test.YtbdfglalohgahaaDoorLawSta3
namespace Go.Proofs.YtbdfglalohgahaaDoor
open Go.RowKit Go.ChangeShapes Go.WideShapes Go.Deep
set_option linter.unusedVariables false

section
variable {H : Type} {P : Program}
theorem bulk_one (d : DataW H) : 1 ≤ Rows.uptoBulk d := by
  cases d with
  | lit l => cases l <;> simp [Rows.uptoBulk]
  | nil => simp [Rows.uptoBulk]
  | ptr d => simp [Rows.uptoBulk]
  | slice elems spare => simp [Rows.uptoBulk]
  | agg parts => simp [Rows.uptoBulk]
  | iface t d => simp [Rows.uptoBulk]
  | map entries => simp [Rows.uptoBulk]
  | held h => simp [Rows.uptoBulk]
theorem bulk_part {d : DataW H} {l : List (DataW H)} (h : d ∈ l) : Rows.uptoBulk d ≤ Rows.uptoBulkAll l := by
  induction l with
  | nil => cases h
  | cons x r ih =>
    simp only [Rows.uptoBulkAll]
    rcases List.mem_cons.1 h with rfl | h
    · omega
    · have := ih h; omega
theorem bulk_len (l : List (DataW H)) : l.length ≤ Rows.uptoBulkAll l := by
  induction l with
  | nil => simp [Rows.uptoBulkAll]
  | cons x r ih => have := bulk_one x; simp only [Rows.uptoBulkAll, List.length_cons]; omega
def BkQ (t : TypeId) (d : DataW H) : Prop := Rows.uptoBulk d ≤ 1048576
theorem her_bulk : Her (H := H) P BkQ where
  agg t fs ys ht hq j f y hj hy := by
    unfold BkQ at hq ⊢
    simp only [Rows.uptoBulk] at hq
    have := bulk_part (List.mem_of_getElem? hy)
    omega
  slice t e es sp ht hq y hy := by
    unfold BkQ at hq ⊢
    simp only [Rows.uptoBulk] at hq
    have := bulk_part hy
    omega
theorem bulk_get {t : TypeId} {ds : List (DataW H)} (h : Rows.uptoSmall H ds = true) (j : Nat) {d : DataW H} (hd : ds[j]? = some d) : BkQ t d := by
  unfold BkQ
  have h1 : Rows.uptoBulkAll ds ≤ 1048576 := of_decide_eq_true h
  have := bulk_part (List.mem_of_getElem? hd)
  omega
theorem bulk_str {s : ByteArray} {t : TypeId} (h : BkQ (H := H) t (litS s)) : s.size ≤ 1048576 := by
  unfold BkQ litS at h
  simp only [Rows.uptoBulk] at h
  have : s.data.toList.length = s.size := list_size s
  omega
end
theorem staL_ofB {H : Type} {w : World} {s : Sta} (hi : StaIn w s) (hq : StaQ (H := H) BkQ s) : StaL s := by
  refine ⟨hq.t, hq.ml, Nat.le_trans hi.u.le hi.u.cap, Nat.le_trans hi.r.le hi.r.cap, Nat.le_trans hq.g.1.1 hq.g.1.2, fun x hx => ?_⟩
  have hs : StpQ (H := H) BkQ x := by
    rcases List.mem_append.1 hx with h | h
    · exact hq.u x h
    · exact hq.r x h
  rcases hs.2.2 with h | ⟨es, sp, he, h⟩
  · omega
  · unfold BkQ at h
    simp only [Rows.uptoBulk] at h
    have := bulk_len es
    omega
theorem staB_of {H : Type} {s : Sta} (hq : StaQ (H := H) BkQ s) : StaB s := by
  refine ⟨bulk_str hq.tq, fun x hx => ⟨bulk_str (hq.m x hx).2, (hq.m x hx).1.2⟩, fun x hx y hy => ?_⟩
  have hs : StpQ (H := H) BkQ x := by
    unfold Sta.rows at hx
    simp only [List.mem_append, List.mem_singleton] at hx
    rcases hx with (h | h) | rfl
    · exact hq.u x h
    · exact hq.r x h
    · exact hq.g
  have := (hs.2.1 y hy).2
  exact ⟨bulk_str this.1, bulk_str this.2⟩
end Go.Proofs.YtbdfglalohgahaaDoor
