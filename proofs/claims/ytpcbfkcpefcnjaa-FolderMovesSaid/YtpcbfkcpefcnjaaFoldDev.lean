/-
  Contracts of the program's folder (layer 9), joined: what a folder is in memory (L is what lasts, then what it is behind each change that waits), and what each call makes of it.
-/
import Derived.Test.YtpcbfkcpefcnjaaFoldDev7
namespace Go.Proofs.Ytpcbfkcpefcnjaa
open Go.RowKit
set_option linter.unusedVariables false

def IsFold (w : World) (S : List Nat) (a : Addr) (L : List (List Ent)) : Prop :=
  ∃ ab bn bk v cs l, a = ⟨ab, 0, none⟩ ∧ S = foS ab bn bk v ∧ L = hist l cs ∧ Fold w ab bn bk v cs l
theorem IsFold.lt {w : World} {S : List Nat} {a : Addr} {L : List (List Ent)} (h : IsFold w S a L) : ∀ b ∈ S, b < w.heap.size := by
  obtain ⟨ab, bn, bk, v, cs, l, rfl, rfl, rfl, h⟩ := h
  exact h.lt
theorem IsFold.kept {w w' : World} {S S' : List Nat} {a : Addr} {L : List (List Ent)} (h : IsFold w S a L) (ha : Apart S' w w') (hs : ∀ b ∈ S, b ∉ S') : IsFold w' S a L := by
  obtain ⟨ab, bn, bk, v, cs, l, rfl, rfl, rfl, h⟩ := h
  exact ⟨ab, bn, bk, v, cs, l, rfl, rfl, rfl, h.apart ha hs⟩
/-- A call of a folder: it answers v, the folder is L' then, and nothing but its own blocks has turned. -/
def UpdO (w : World) (S : List Nat) (a : Addr) (L' : List (List Ent)) (v : Value) (e : Ending) (w' : World) : Prop :=
  e = .returned v ∧ ∃ S', IsFold w' S' a L' ∧ Apart S w w' ∧ ∀ b ∈ S', b ∈ S ∨ w.heap.size ≤ b
/-- A call that answers a folder of its own. -/
def NewO (w : World) (L : List (List Ent)) (e : Ending) (w' : World) : Prop :=
  ∃ a S, e = .returned (.pointer (some a)) ∧ IsFold w' S a L ∧ (∀ b ∈ S, w.heap.size ≤ b) ∧ Below w.heap.size w w'
/-- How much there may be. -/
def okL (M : Nat) (L : List (List Ent)) : Prop := L ≠ [] ∧ L.length ≤ M ∧ ∀ l ∈ L, l.length ≤ M
theorem okL_hist {l : List Ent} {cs : List Chg} (h : okL 500 (hist l cs)) : cs.length ≤ 1000000 ∧ (allE l cs).length ≤ 1000000 ∧ l.length ≤ 1000000 ∧ ∀ k ≤ cs.length, (allE l (cs.take k)).length ≤ 1000000 := by
  obtain ⟨_, h1, h2⟩ := h
  rw [hist_len] at h1
  have h3 : ∀ k ≤ cs.length, (allE l (cs.take k)).length ≤ 1000000 := fun k hk => by
    have hlt : k < (hist l cs).length := by rw [hist_len]; omega
    have := h2 _ (List.getElem_mem hlt)
    have e := hist_get cs l k hk
    rw [List.getD_eq_getElem?_getD, List.getElem?_eq_getElem hlt] at e
    rw [← e]
    show ((hist l cs)[k]'hlt).length ≤ 1000000
    omega
  refine ⟨by omega, ?_, h3 0 (Nat.zero_le _), h3⟩
  have := h3 cs.length (Nat.le_refl _)
  rwa [List.take_length] at this
theorem upd_more {ab bn bk : Nat} {v v' : Value} {w : World} (h : ∀ q, v'.ownBlock = some q → v.ownBlock = some q ∨ w.heap.size ≤ q) : ∀ b ∈ foS ab bn bk v', b ∈ foS ab bn bk v ∨ w.heap.size ≤ b := fun b hb => by
  rcases (foS_mem b).1 hb with g | g | g | g
  · exact .inl ((foS_mem b).2 (.inl g))
  · exact .inl ((foS_mem b).2 (.inr (.inl g)))
  · exact .inl ((foS_mem b).2 (.inr (.inr (.inl g))))
  · rcases h b g with g | g
    · exact .inl ((foS_mem b).2 (.inr (.inr (.inr g))))
    · exact .inr g
theorem fonew_any (w : World) : Calls Try.prog 7 #[] w (NewO w [[]]) := by
  refine (fonew_f w).mono ?_
  rintro e w' ⟨rfl, h, hb⟩
  refine ⟨_, _, rfl, ⟨_, _, _, _, [], [], rfl, rfl, rfl, h⟩, fun b hb' => ?_, hb⟩
  rcases (foS_mem b).1 hb' with rfl | rfl | rfl | g
  · omega
  · omega
  · omega
  · cases g
theorem foput_any {w : World} {S : List Nat} {a : Addr} {L : List (List Ent)} (h : IsFold w S a L) (hL : okL 500 L) (s : ByteArray) (hs : s.size ≤ maxLen) (n : Int) (h0 : -9223372036854775808 ≤ n) (h1 : n ≤ 9223372036854775807) :
    Calls Try.prog 10 #[.pointer (some a), .string s, .int .i64 n] w (UpdO w S a (putF L s n) (.bool (!(findE (nowL L) s).isSome))) := by
  obtain ⟨ab, bn, bk, v, cs, l, rfl, rfl, rfl, h⟩ := h
  obtain ⟨m1, m2, m3, m4⟩ := okL_hist hL
  refine (foput_f h m2 m1 s hs n h0 h1).mono ?_
  unfold putF
  rw [hist_now]
  rintro e w' ⟨rfl, ⟨hf, rfl⟩ | ⟨hf, v', hF, hA, hg⟩⟩
  · rw [if_pos hf]
    exact ⟨rfl, _, ⟨ab, bn, bk, v, cs, l, rfl, rfl, rfl, h⟩, Apart.refl _ _, fun b hb => .inl hb⟩
  · rw [if_neg (by rw [hf]; simp)]
    exact ⟨rfl, _, ⟨ab, bn, bk, v', _, l, rfl, rfl, by rw [hist_snoc]; rfl, hF⟩, hA, upd_more hg⟩
theorem fodrop_any {w : World} {S : List Nat} {a : Addr} {L : List (List Ent)} (h : IsFold w S a L) (hL : okL 500 L) (s : ByteArray) (hs : s.size ≤ maxLen) :
    Calls Try.prog 20 #[.pointer (some a), .string s] w (UpdO w S a (dropF L s) (.bool (findE (nowL L) s).isSome)) := by
  obtain ⟨ab, bn, bk, v, cs, l, rfl, rfl, rfl, h⟩ := h
  obtain ⟨m1, m2, m3, m4⟩ := okL_hist hL
  refine (fodrop_f h m2 m1 s hs).mono ?_
  unfold dropF
  rw [hist_now]
  rintro e w' ⟨rfl, ⟨hf, rfl⟩ | ⟨hf, v', hF, hA, hg⟩⟩
  · rw [if_neg (by rw [hf]; simp)]
    exact ⟨rfl, _, ⟨ab, bn, bk, v, cs, l, rfl, rfl, rfl, h⟩, Apart.refl _ _, fun b hb => .inl hb⟩
  · rw [if_pos hf]
    exact ⟨rfl, _, ⟨ab, bn, bk, v', _, l, rfl, rfl, by rw [hist_snoc]; rfl, hF⟩, hA, upd_more hg⟩
theorem fomove_any {w : World} {S : List Nat} {a : Addr} {L : List (List Ent)} (h : IsFold w S a L) (hL : okL 500 L) (s t : ByteArray) (hs : s.size ≤ maxLen) (ht : t.size ≤ maxLen) :
    Calls Try.prog 17 #[.pointer (some a), .string s, .string t] w (UpdO w S a (moveF L s t) (.bool (findE (nowL L) s).isSome)) := by
  obtain ⟨ab, bn, bk, v, cs, l, rfl, rfl, rfl, h⟩ := h
  obtain ⟨m1, m2, m3, m4⟩ := okL_hist hL
  refine (fomove_f h m2 m1 s t hs ht).mono ?_
  unfold moveF
  rw [hist_now]
  rintro e w' ⟨rfl, ⟨hf, rfl⟩ | ⟨hf, hne, v', hF, hA, hg⟩⟩
  · refine ⟨rfl, _, ⟨ab, bn, bk, v, cs, l, rfl, rfl, ?_, h⟩, Apart.refl _ _, fun b hb => .inl hb⟩
    cases hq : findE (allE l cs) s with
    | none => rfl
    | some m =>
      rcases hf with hf | hf
      · rw [hq] at hf; cases hf
      · show (if s = t then _ else _) = _
        rw [if_pos hf]
  · refine ⟨rfl, _, ⟨ab, bn, bk, v', _, l, rfl, rfl, ?_, hF⟩, hA, upd_more hg⟩
    obtain ⟨m, hm⟩ := Option.isSome_iff_exists.1 hf
    rw [hm, hist_snoc]
    show (if s = t then _ else _) = _
    rw [if_neg hne]
    have e : chgE (allE l cs) ⟨2, s, t, 0⟩ = withE (withoutE (withoutE (allE l cs) s) t) ⟨t, m⟩ := by
      show withE (withoutE (withoutE (allE l cs) s) t) ⟨t, (findE (allE l cs) s).getD 0⟩ = _
      rw [hm]
      rfl
    rw [e]
theorem fosync_any {w : World} {S : List Nat} {a : Addr} {L : List (List Ent)} (h : IsFold w S a L) (hL : okL 500 L) :
    Calls Try.prog 11 #[.pointer (some a)] w (UpdO w S a [nowL L] (.tuple #[])) := by
  obtain ⟨ab, bn, bk, v, cs, l, rfl, rfl, rfl, h⟩ := h
  obtain ⟨m1, m2, m3, m4⟩ := okL_hist hL
  refine (fosync_f h m4 m1).mono ?_
  rintro e w' ⟨rfl, hF, hA⟩
  exact ⟨rfl, _, ⟨ab, bn, bk, _, _, _, rfl, rfl, by rw [hist_now]; rfl, hF⟩, hA, upd_more (fun q hq => by cases hq)⟩
theorem focrash_any {w : World} {S : List Nat} {a : Addr} {L : List (List Ent)} (h : IsFold w S a L) (hL : okL 500 L) (n : Int) (h0 : -9223372036854775808 ≤ n) (h1 : n ≤ 9223372036854775807) :
    Calls Try.prog 18 #[.pointer (some a), .int .i64 n] w (UpdO w S a [L.getD (pickN n L.length) []] (.int .i64 (pickN n L.length))) := by
  obtain ⟨ab, bn, bk, v, cs, l, rfl, rfl, rfl, h⟩ := h
  obtain ⟨m1, m2, m3, m4⟩ := okL_hist hL
  have hp := pickN_lt n (cs.length + 1) (by omega)
  rw [hist_len, hist_get cs l _ (by omega)]
  refine (focrash_f h m4 m1 n h0 h1).mono ?_
  rintro e w' ⟨rfl, b, hb, hF, hA⟩
  refine ⟨rfl, _, ⟨ab, b, bk, _, _, _, rfl, rfl, rfl, hF⟩, hA, fun x hx => ?_⟩
  rcases (foS_mem x).1 hx with g | g | g | g
  · exact .inl ((foS_mem x).2 (.inl g))
  · exact .inr (by rw [g]; exact hb)
  · exact .inl ((foS_mem x).2 (.inr (.inr (.inl g))))
  · cases g
theorem fofind_any {w : World} {S : List Nat} {a : Addr} {L : List (List Ent)} (h : IsFold w S a L) (hL : okL 500 L) (s : ByteArray) (hs : s.size ≤ maxLen) :
    Calls Try.prog 14 #[.pointer (some a), .string s] w fun e w' => e = .returned (.tuple #[.int .i64 ((findE (nowL L) s).getD 0), .bool (findE (nowL L) s).isSome]) ∧ Below w.heap.size w w' := by
  obtain ⟨ab, bn, bk, v, cs, l, rfl, rfl, rfl, h⟩ := h
  rw [hist_now]
  refine (fofind_f h hs).mono ?_
  rintro e w' ⟨rfl, rfl⟩
  exact ⟨rfl, Below.refl _ _⟩
theorem fonow_any {w : World} {S : List Nat} {a : Addr} {L : List (List Ent)} (h : IsFold w S a L) (hL : okL 500 L) :
    Calls Try.prog 21 #[.pointer (some a)] w (RetEnts w (nowL L)) := by
  obtain ⟨ab, bn, bk, v, cs, l, rfl, rfl, rfl, h⟩ := h
  rw [hist_now]
  exact fonow_f h (okL_hist hL).2.1
theorem fokept_any {w : World} {S : List Nat} {a : Addr} {L : List (List Ent)} (h : IsFold w S a L) (hL : okL 500 L) :
    Calls Try.prog 22 #[.pointer (some a)] w (RetEnts w (keptL L)) := by
  obtain ⟨ab, bn, bk, v, cs, l, rfl, rfl, rfl, h⟩ := h
  rw [hist_kept]
  exact fokept_f h (okL_hist hL).2.2.1
theorem fowait_any {w : World} {S : List Nat} {a : Addr} {L : List (List Ent)} (h : IsFold w S a L) (hL : okL 500 L) :
    Calls Try.prog 19 #[.pointer (some a)] w fun e w' => e = .returned (.int .i64 ((L.length : Int) - 1)) ∧ Below w.heap.size w w' := by
  obtain ⟨ab, bn, bk, v, cs, l, rfl, rfl, rfl, h⟩ := h
  refine (fowait_f h).mono ?_
  rintro e w' ⟨rfl, rfl⟩
  rw [hist_len]
  exact ⟨ret_int (by omega), Below.refl _ _⟩
theorem foids_any {w : World} {S : List Nat} {a : Addr} {L : List (List Ent)} (h : IsFold w S a L) (hL : okL 500 L) :
    Calls Try.prog 23 #[.pointer (some a)] w (RetInts w (idsK L)) := by
  obtain ⟨ab, bn, bk, v, cs, l, rfl, rfl, rfl, h⟩ := h
  exact foids_f h (okL_hist hL).2.2.1 (okL_hist hL).1
theorem focopy_any {w : World} {S : List Nat} {a : Addr} {L : List (List Ent)} (h : IsFold w S a L) (hL : okL 500 L) :
    Calls Try.prog 9 #[.pointer (some a)] w (NewO w L) := by
  obtain ⟨ab, bn, bk, v, cs, l, rfl, rfl, rfl, h⟩ := h
  refine (focopy_f h (okL_hist hL).1).mono ?_
  rintro e w' ⟨a', nn, nk, v', rfl, hF, hS, hb⟩
  exact ⟨_, _, rfl, ⟨a', nn, nk, v', cs, l, rfl, rfl, rfl, hF⟩, hS, hb⟩
theorem IsFold.below {w w' : World} {S : List Nat} {a : Addr} {L : List (List Ent)} (h : IsFold w S a L) (hb : Below w.heap.size w w') : IsFold w' S a L :=
  h.kept (.of_below (S := []) hb) (by simp)
end Go.Proofs.Ytpcbfkcpefcnjaa
