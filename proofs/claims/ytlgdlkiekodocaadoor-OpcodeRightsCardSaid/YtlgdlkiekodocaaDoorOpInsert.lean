/-
  A text put into a row of one or two texts of the call's own (slices.Insert).
-/
import Derived.Test.YtlgdlkiekodocaaDoorOpHas
import Derived.Test.YtlgdlkiekodocaaDoorOpIns
import Derived.Lib.BufferOwn
import Derived.Deep.Onto
namespace Go.Proofs.YtlgdlkiekodocaaDoor
open Go.RowKit

/-- A row of texts that the call has to itself. -/
def Words (w : World) (base : Nat) (v : Value) (ws : List ByteArray) : Prop := w.ownsRow base 9 1 v ws.length (ws.map Value.string)
/-- A call that answers such a row, having written to the row that it was given at most. -/
def TellR (base : Nat) (ws : List ByteArray) (v : Value) (w : World) (e : Ending) (w' : World) : Prop :=
  ∃ v', e = .returned v' ∧ Words w' base v' ws ∧ w.grownBy w' v.ownBlock
theorem grown_of_below {w w' : World} {row : Option Nat} (h : Below w.heap.size w w') : w.grownBy w' row := ⟨h.os, h.tape, h.output, h.size, fun k hk _ => h.block k hk⟩
theorem words_mk {w : World} {base g cap : Nat} {cur : Array Value} {ws : List ByteArray} (hb : base ≤ g) (hB : Blk w g cur 9) (hn : ws.length ≤ cap) (hm : cap ≤ maxLen) (hs : cur.size = cap) (ht : cur.toList.take ws.length = ws.map Value.string) :
    Words w base (.slice (some ⟨g, 0, none⟩) ws.length cap) ws :=
  ⟨by simp, .inr ⟨g, cap, cur, rfl, hb, hB, hn, hm, by rw [hs, Nat.mul_one], by rw [Nat.mul_one]; exact ht⟩⟩
theorem words_open {w : World} {base : Nat} {v : Value} {ws : List ByteArray} (h : Words w base v ws) (h1 : 0 < ws.length) :
    ∃ g cap cur, v = .slice (some ⟨g, 0, none⟩) ws.length cap ∧ base ≤ g ∧ Blk w g cur 9 ∧ ws.length ≤ cap ∧ cap ≤ maxLen ∧ cur.size = cap ∧ cur.toList.take ws.length = ws.map Value.string := by
  rcases h.2 with ⟨-, h0⟩ | ⟨g, cap, cur, rfl, hb, hB, hn, hm, hs, ht⟩
  · omega
  · rw [Nat.mul_one] at hs ht
    exact ⟨g, cap, cur, rfl, hb, hB, hn, hm, hs, ht⟩
theorem Blk.shape {w : World} {b : Nat} {cs : Array Value} {t : TypeId} (h : Blk w b cs t) : w.shape? b = some (t, cs.size) := by unfold Blk at h; simp [World.shape?, h]

section
variable {w : World} {base g cap vb : Nat} {cur : Array Value} {p q x : ByteArray}

theorem cur_one (h : cur.toList.take 1 = [Value.string p]) : ∃ r, cur = (Value.string p :: r).toArray := by
  obtain ⟨l⟩ := cur
  match l, h with
  | a :: r, h => simp at h; subst h; exact ⟨r, rfl⟩
theorem cur_two (h : cur.toList.take 2 = [Value.string p, Value.string q]) : ∃ r, cur = (Value.string p :: Value.string q :: r).toArray := by
  obtain ⟨l⟩ := cur
  match l, h with
  | a :: b :: r, h => simp at h; obtain ⟨rfl, rfl⟩ := h; exact ⟨r, rfl⟩
  | [a], h => simp at h

/-- At the end of one text. -/
theorem ins_one (v : Value) (hw : Words w base v [p]) (hx : Blk w vb #[.string x] 9) (hbw : base ≤ w.heap.size) :
    Calls Tryd.prog 24 #[v, .int .i64 1, .slice (some ⟨vb, 0, none⟩) 1 1] w (TellR base [p, x] v w) := by
  obtain ⟨g, cap, cur, rfl, hb, hB, hn, hm, hs, ht⟩ := words_open hw (by simp)
  obtain ⟨r, rfl⟩ := cur_one ht
  have hvs : ∀ (j : Nat) u, [Value.string x][j]? = some u → w.cell? ⟨vb, 0 + j, none⟩ = some u := fun j u hj => by
    match j, hj with
    | 0, hj => simp at hj; subst hj; exact hx.cell 0 _ rfl
  have h1v : ∀ u ∈ [Value.string x], u.oneCell' = true := fun u hu => by simp at hu; subst hu; rfl
  have hsz : r.length + 1 = cap := by simpa using hs
  have hn1 : 1 ≤ cap := hn
  have hm2 : cap ≤ 9223372036854775807 := by unfold maxLen at hm; omega
  by_cases hroom : 1 + 1 ≤ cap
  · refine (Any2.slices_Insert_string_end_room Tryd.opIns g 0 1 cap vb 0 1 1 [.string x] w (by decide) hroom hm2 rfl (fun j hj => ?_) (fun j hj => ?_) hvs h1v).mono ?_
    · obtain rfl : j = 0 := by omega
      match r, hsz with
      | a :: r, _ => rw [hB.cell 1 a rfl]; rfl
      | [], hsz => simp at hsz; omega
    · exact hB.free _
    · rintro e w' ⟨rfl, rfl⟩
      refine ⟨_, rfl, words_mk (ws := [p, x]) hb (hB.set 1 (.string x)) hroom hm (by simpa using hsz) ?_, Lib.grownBy_setB (World.grownBy.refl w _) _ _⟩
      match r, hsz with
      | a :: r, _ => simp
      | [], hsz => simp at hsz; omega
  · refine (Any2.slices_Insert_string_end_grow Tryd.opIns (some ⟨g, 0, none⟩) 1 cap vb 0 1 1 [.string p] [.string x] w (by decide) hn (by omega) (by decide) rfl rfl (fun h => by cases h) (fun a ha j u hj => ?_) hvs h1v).mono ?_
    · cases ha
      match j, hj with
      | 0, hj => simp at hj; subst hj; simpa [Addr.add] using hB.cell 0 _ rfl
    · rintro e w' ⟨rfl, rfl⟩
      have hc := grownCap_ge w 2 cap 9
      refine ⟨_, rfl, words_mk (ws := [p, x]) hbw (Blk.new w.drew _ _) hc (grownCap_le_maxLen w 2 cap 9 (by unfold maxLen; decide)) ?_ ?_, grown_of_below ((Below.refl _ _).drew.alloc (Nat.le_refl _) _)⟩
      · simp only [Array.size_append, size_zeroCells]
        show 2 + (grownCap w 2 cap 9 - 2) * 1 = grownCap w 2 cap 9
        omega
      · simp
/-- Between two texts. -/
theorem ins_two (v : Value) (hw : Words w base v [p, q]) (hx : Blk w vb #[.string x] 9) (hne : v.ownBlock ≠ some vb) (hbw : base ≤ w.heap.size) :
    Calls Tryd.prog 24 #[v, .int .i64 1, .slice (some ⟨vb, 0, none⟩) 1 1] w (TellR base [p, x, q] v w) := by
  obtain ⟨g, cap, cur, rfl, hb, hB, hn, hm, hs, ht⟩ := words_open hw (by simp)
  obtain ⟨r, rfl⟩ := cur_two ht
  have hvs : ∀ (j : Nat) u, [Value.string x][j]? = some u → w.cell? ⟨vb, 0 + j, none⟩ = some u := fun j u hj => by
    match j, hj with
    | 0, hj => simp at hj; subst hj; exact hx.cell 0 _ rfl
  have h1v : ∀ u ∈ [Value.string x], u.oneCell' = true := fun u hu => by simp at hu; subst hu; rfl
  have hcs : ∀ (j : Nat) u, [Value.string p, Value.string q][j]? = some u → w.cell? ⟨g, 0 + j, none⟩ = some u := fun j u hj => by
    match j, hj with
    | 0, hj => simp at hj; subst hj; exact hB.cell 0 _ rfl
    | 1, hj => simp at hj; subst hj; exact hB.cell 1 _ rfl
  have h1c : ∀ u ∈ [Value.string p, Value.string q], u.oneCell' = true := fun u hu => by
    simp at hu; rcases hu with rfl | rfl <;> rfl
  have hsz : r.length + 1 + 1 = cap := by simpa using hs
  have hn1 : 2 ≤ cap := hn
  have hm2 : cap ≤ 9223372036854775807 := by unfold maxLen at hm; omega
  have hvb : vb ≠ g := fun h => hne (by subst h; rfl)
  by_cases hroom : 2 + 1 ≤ cap
  · refine (Any2.slices_Insert_string_shift Tryd.opIns g 0 2 cap 1 vb 0 1 1 [.string p, .string q] [.string x] w (by decide) (by decide) hroom hm2 hvb rfl rfl hcs (fun j hj => ?_) (fun j hj => hB.free _) hvs h1c h1v _ _ _ _ hx.shape hB.shape (by simp) (hx.free _) (hx.free _)).mono ?_
    · match r, hsz with
      | a :: r, _ =>
        match j, hj with
        | 0, _ => rw [hB.cell 0 _ rfl]; rfl
        | 1, _ => rw [hB.cell 1 _ rfl]; rfl
        | 2, _ => rw [hB.cell 2 a rfl]; rfl
      | [], hsz => simp at hsz; omega
    · rintro e w' ⟨rfl, rfl⟩
      have hd : w.grownBy w.drew (some g) := ⟨rfl, rfl, rfl, Nat.le_refl _, fun _ _ _ => rfl⟩
      refine ⟨_, rfl, words_mk (ws := [p, x, q]) hb (((hB.drewN 1).set 2 (.string q)).set 1 (.string x)) hroom hm (by simpa using hsz) ?_, Lib.grownBy_setB (Lib.grownBy_setB hd _ _) _ _⟩
      match r, hsz with
      | a :: r, _ => simp
      | [], hsz => simp at hsz; omega
  · refine (Any2.slices_Insert_string_grow Tryd.opIns g 0 2 cap 1 vb 0 1 1 [.string p, .string q] [.string x] w (by decide) (by decide) hn (by omega) (by decide) rfl rfl hcs hvs h1c h1v).mono ?_
    rintro e w' ⟨rfl, rfl⟩
    have hc := grownCap_ge w 3 cap 9
    have hB2 := ((((Blk.new w (([Value.string p, Value.string q].take 1).toArray ++ Builtin.zeroCells (Value.string ⟨#[]⟩).cells (2 + 1 - 1) ++ Builtin.zeroCells (Value.string ⟨#[]⟩).cells (grownCap w (2 + 1) cap 9 - (2 + 1))) 9).drewN 1).set 1 (.string x)).drewN 1).set 2 (.string q)
    refine ⟨_, rfl, words_mk (ws := [p, x, q]) hbw hB2 hc (grownCap_le_maxLen w 3 cap 9 (by unfold maxLen; decide)) ?_ ?_, grown_of_below ?_⟩
    · simp only [Array.set!_eq_setIfInBounds, Array.size_setIfInBounds, Array.size_append, size_zeroCells]
      show 1 + 2 * 1 + (grownCap w 3 cap 9 - 3) * 1 = grownCap w 3 cap 9
      omega
    · have e : Builtin.zeroCells (Value.string ⟨#[]⟩).cells (2 + 1 - 1) = #[Value.string ⟨#[]⟩, Value.string ⟨#[]⟩] := by kernel_rfl
      rw [e]
      simp
    · exact (((((Below.refl _ _).alloc (Nat.le_refl _) _).drew).setCell (Nat.le_refl _) _).drew).setCell (Nat.le_refl _) _
end
end Go.Proofs.YtlgdlkiekodocaaDoor
