/-
  Joined: DiskLoad.
-/
import Derived.Test.YtfgecjlccngddaaGreatJDiskRefC
import Derived.Test.YtfgecjlccngddaaGreatJEnt
import Derived.Test.YtfgecjlccngddaaGreatJFoldHist
namespace Go.Proofs.YtfgecjlccngddaaGreat
set_option linter.unusedSimpArgs false
set_option linter.unusedVariables false
open Go.RowKit
set_option linter.unusedVariables false

def Dsk.putFile (D : Dsk) (f : Fil) : Dsk := { D with tp := D.tp ++ [⟨f.data, f.data⟩], L := putF D.L f.name (D.tp.length + 1 : Nat) }
/-- One file more, or what is wrong of it; what was wrong stays. -/
def loadS (r : Dsk × Int) (f : Fil) : Dsk × Int :=
  if r.2 = 0 then (if mayB f.name.data.toList = false then (r.1, 7) else if (findE (nowL r.1.L) f.name).isSome = true then (r.1, 17) else (r.1.putFile f, 0)) else r
def loadK (sec : Int) (l : List Fil) (k : Nat) : Dsk × Int := (l.take k).foldl loadS (Dsk.new sec, 0)
def Dsk.load (sec : Int) (l : List Fil) : Dsk × Int :=
  if sec < 1 ∨ 4096 < sec then (Dsk.zero, 2) else if 64 < l.length then (Dsk.zero, 9) else if (loadK sec l l.length).2 = 0 then
    (if (loadK sec l l.length).1.free < 0 then (Dsk.zero, 12) else ({ (loadK sec l l.length).1 with L := [nowL (loadK sec l l.length).1.L] }, 0)) else (Dsk.zero, (loadK sec l l.length).2)
theorem loadK_succ (sec : Int) (l : List Fil) (k : Nat) (h : k < l.length) : loadK sec l (k + 1) = loadS (loadK sec l k) l[k] := by
  unfold loadK
  rw [take_get l k h, List.foldl_append]
  rfl
theorem loadS_bad (l : List Fil) : ∀ (r : Dsk × Int), r.2 ≠ 0 → l.foldl loadS r = r := by
  induction l with
  | nil => intro r _; rfl
  | cons f t ih =>
    intro r h
    show t.foldl loadS (loadS r f) = r
    have e : loadS r f = r := by unfold loadS; rw [if_neg h]
    rw [e]
    exact ih r h
/-- What was wrong of the first files is wrong of all. -/
theorem loadK_bad (sec : Int) (l : List Fil) (k : Nat) (h : (loadK sec l k).2 ≠ 0) : (loadK sec l l.length) = loadK sec l k := by
  have e : loadK sec l l.length = (l.drop k).foldl loadS (loadK sec l k) := by
    unfold loadK
    rw [List.take_of_length_le (Nat.le_refl _), ← List.foldl_append, List.take_append_drop]
  rw [e, loadS_bad _ _ h]
theorem nowL_snoc (L : List (List Ent)) (x : List Ent) : nowL (L ++ [x]) = x := by
  rw [nowL_get (L ++ [x]) (by simp)]
  simp
theorem Dsk.putFile_ok {M : Nat} {D : Dsk} (h : D.ok M) (f : Fil) (hf : f.data.size ≤ 200) : Dsk.ok (M + 1) (D.putFile f) := by
  obtain ⟨g1, g2, ⟨g3, g4, g5⟩, g6, g7, g8, g9, g10⟩ := h
  obtain ⟨p1, p2, p3, p4⟩ := putF_ok (M := M) f.name (D.tp.length + 1 : Nat) D.tp.length g3 g4 g5 g7 (by omega)
  refine Dsk.ok_of ⟨g1, g2, ⟨g3, g4, g5⟩, g6, g7, g8, g9, g10⟩ (by simp; omega) p1 p2 p3 (fun t ht => ?_) (fun l hl e he => ?_) g8 g9 (by omega)
  · rcases List.mem_append.1 ht with ht | ht
    · exact size_up (g6 t ht)
    · rw [List.mem_singleton.1 ht]; simp only; omega
  · have := p4 l hl e he
    simp only [List.length_append, List.length_singleton]
    omega
theorem Dsk.new_okL {sec : Int} (h1 : 1 ≤ sec) (h2 : sec ≤ 4096) : Dsk.ok 0 (Dsk.new sec) :=
  ⟨⟨h1, h2⟩, Nat.le_refl _, ⟨by simp [Dsk.new], by simp [Dsk.new], fun l hl => by simp [Dsk.new] at hl; subst hl; simp⟩, fun t ht => by simp [Dsk.new] at ht, fun l hl e he => by simp [Dsk.new] at hl; subst hl; simp at he, Fus.new_ok, by simp [Dsk.new]⟩
/-- What stands after k files of which nothing is wrong. -/
structure LdK (sec : Int) (l : List Fil) (k : Nat) (D : Dsk) : Prop where
  ok : D.ok k
  len : D.tp.length = k
  ids : idsK [nowL D.L] = idsK D.L
  fu : D.fu = Fus.new
  calls : D.calls = 0
  sec : D.sec = sec
theorem idsNow_put {L : List (List Ent)} (h : L ≠ []) (s : ByteArray) (n : Int) (hi : idsK [nowL L] = idsK L) : idsK [nowL (putF L s n)] = idsK (putF L s n) := by
  unfold putF
  split
  · exact hi
  · rw [nowL_snoc]
    refine rise_eq (rise_idsK _) (rise_idsK _) fun m => ?_
    rw [mem_idsK, mem_idsK]
    constructor
    · rintro ⟨l, hl, e, he, rfl⟩
      rw [List.mem_singleton.1 hl] at he
      exact ⟨withE (nowL L) ⟨s, n⟩, by simp, e, he, rfl⟩
    · rintro ⟨l, hl, e, he, rfl⟩
      rcases List.mem_append.1 hl with hl | hl
      · have : e.id ∈ idsK [nowL L] := by rw [hi]; exact (mem_idsK _ _).2 ⟨l, hl, e, he, rfl⟩
        obtain ⟨l2, hl2, e2, he2, h2⟩ := (mem_idsK _ _).1 this
        rw [List.mem_singleton.1 hl2] at he2
        exact ⟨withE (nowL L) ⟨s, n⟩, by simp, e2, (mem_withE _ _ _).2 (.inr he2), h2⟩
      · rw [List.mem_singleton.1 hl] at he
        exact ⟨withE (nowL L) ⟨s, n⟩, by simp, e, he, rfl⟩
theorem loadK_is {sec : Int} {l : List Fil} (h1 : 1 ≤ sec) (h2 : sec ≤ 4096) (hl : ∀ f ∈ l, f.data.size ≤ 200) : ∀ k, k ≤ l.length → (loadK sec l k).2 = 0 → LdK sec l k (loadK sec l k).1 := by
  intro k
  induction k with
  | zero => intro _ _; exact ⟨Dsk.new_okL h1 h2, rfl, rfl, rfl, rfl, rfl⟩
  | succ k ih =>
    intro hk hz
    have hkl : k < l.length := by omega
    rw [loadK_succ sec l k hkl] at hz ⊢
    have h0 : (loadK sec l k).2 = 0 := by
      by_cases g : (loadK sec l k).2 = 0
      · exact g
      · unfold loadS at hz; rw [if_neg g] at hz; exact absurd hz g
    have hi := ih (by omega) h0
    unfold loadS at hz ⊢
    rw [if_pos h0] at hz ⊢
    split at hz
    · cases hz
    · next g1 =>
      rw [if_neg g1]
      split at hz
      · cases hz
      · next g2 =>
        rw [if_neg g2]
        refine ⟨Dsk.putFile_ok hi.ok _ (hl _ (List.getElem_mem hkl)), by unfold Dsk.putFile; simp [hi.len], ?_, hi.fu, hi.calls, hi.sec⟩
        exact idsNow_put hi.ok.2.2.1.1 _ _ hi.ids
theorem rise_len {n : Nat} : ∀ (l : List Int) (lo : Int), riseI l → (∀ i ∈ l, lo < i ∧ i ≤ n) → (l.length : Int) ≤ max (n - lo) 0 := by
  intro l
  induction l with
  | nil => intro lo _ _; simp; omega
  | cons a r ih =>
    intro lo hr h
    obtain ⟨h1, h2⟩ := List.pairwise_cons.1 hr
    have ha := h a (by simp)
    have := ih a h2 fun i hi => ⟨h1 i hi, (h i (by simp [hi])).2⟩
    rw [List.length_cons]
    omega
theorem ids_count {M : Nat} {D : Dsk} (h : D.ok M) : (idsK D.L).length ≤ D.tp.length := by
  have := rise_len (n := D.tp.length) (idsK D.L) 0 (rise_idsK D.L) (fun i hi => by
    obtain ⟨l, hl, e, he, rfl⟩ := (mem_idsK D.L i).1 hi
    have := h.2.2.2.2.1 l hl e he
    omega)
  omega
end Go.Proofs.YtfgecjlccngddaaGreat
