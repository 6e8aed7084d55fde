/-
  Joined: DiskKeep, DiskLoad2.
-/
import Derived.Test.YtfgecjlccngddaaGreatJDiskRefC
import Derived.Test.YtfgecjlccngddaaGreatJDiskLoad
namespace Go.Proofs.YtfgecjlccngddaaGreat
set_option linter.unusedSimpArgs false
set_option linter.unusedVariables false
open Go.RowKit
set_option linter.unusedVariables false

theorem kslL_pre (o m : List UInt8) (k : Nat) (h : 32 * (k + 1) ≤ o.length) : slL (o ++ m) k = slL o k := by
  unfold slL
  rw [List.drop_append_of_le_length (by omega), List.take_append_of_le_length (by rw [List.length_drop]; omega)]
theorem kmixK_pre (o m c : List UInt8) (q : Nat) (hq : o.length = 32 * q) (k : Nat) (hk : k ≤ q) : (mixK o (o ++ m) c k).1 = o.take (32 * k) := by
  induction k with
  | zero => simp [mixK]
  | succ k ih =>
    refine mix_on o _ _ k (ih (by omega)) ?_
    unfold pk
    rw [if_pos (kslL_pre o m k (by omega)).symm]
theorem kmixK_on (o m c : List UInt8) (q : Nat) (hq : o.length = 32 * q) (j : Nat) : ∃ r, (mixK o (o ++ m) c (q + j)).1 = o ++ r := by
  induction j with
  | zero => exact ⟨[], by rw [Nat.add_zero, kmixK_pre o m c q hq q (Nat.le_refl _), List.take_of_length_le (by omega), List.append_nil]⟩
  | succ j ih =>
    obtain ⟨r, hr⟩ := ih
    show ∃ r, (if pk o (o ++ m) c (q + j) (mixK o (o ++ m) c (q + j)).2 = [] then (mixK o (o ++ m) c (q + j)).1 else (mixK o (o ++ m) c (q + j)).1 ++ List.replicate (32 * (q + j) - (mixK o (o ++ m) c (q + j)).1.length) 0 ++ pk o (o ++ m) c (q + j) (mixK o (o ++ m) c (q + j)).2) = o ++ r
    rw [hr]
    split
    · exact ⟨r, rfl⟩
    · exact ⟨r ++ List.replicate (32 * (q + j) - (o ++ r).length) 0 ++ pk o (o ++ m) c (q + j) (mixK o (o ++ m) c (q + j)).2, by simp only [List.append_assoc]⟩
theorem kmixL_on (o m c : List UInt8) (q : Nat) (hq : o.length = 32 * q) : ∃ r, (mixL o (o ++ m) c).1 = o ++ r := by
  unfold mixL
  obtain ⟨j, hj⟩ : ∃ j, mixM o (o ++ m) = q + j := ⟨mixM o (o ++ m) - q, by unfold mixM cntN; omega⟩
  rw [hj]
  exact kmixK_on o m c q hq j
theorem kmix_list (o n c : ByteArray) : (mixOf o n c).data.toList = (mixL o.data.toList n.data.toList c.data.toList).1 := rfl
theorem mixOf_head (o m c : ByteArray) (q : Nat) (hq : o.size = 32 * q) : ∃ r : ByteArray, mixOf o (o ++ m) c = o ++ r := by
  obtain ⟨r, hr⟩ := kmixL_on o.data.toList m.data.toList c.data.toList q (by simpa using hq)
  refine ⟨⟨r.toArray⟩, str_ext ?_⟩
  rw [app_list, kmix_list, app_list, hr]
theorem kmix_same (z c : ByteArray) : mixOf z z c = z := by
  refine str_ext ?_
  rw [kmix_list, mixL_same]
def kKept : ByteArray := ⟨#[107, 101, 112, 116]⟩
def kB : ByteArray := ⟨#[98]⟩
/-- What holds of a disk that keeps s under that name. -/
structure Kp (s : ByteArray) (D : Dsk) : Prop where
  fu : D.fu = Fus.new
  ne : D.L ≠ []
  find : ∀ l ∈ D.L, findE l kKept = some 1
  tp : ∃ x r, D.tp = ⟨s, s ++ x⟩ :: r
theorem Kp.ask {s : ByteArray} {D : Dsk} (h : Kp s D) (b : Bool) : D.ask b = (⟨D.sec, D.tp, D.L, Fus.new, D.calls + 1⟩, 0) := by
  unfold Dsk.ask
  rw [h.fu]
  cases b <;> rfl
theorem tp_set {s x b : ByteArray} {r : List Tp} {tp : List Tp} (h : tp = ⟨s, s ++ x⟩ :: r) (i : Nat) : ∃ x2 r2, tp.set i ⟨(tp.getD i Tp.none).k, (tp.getD i Tp.none).n ++ b⟩ = ⟨s, s ++ x2⟩ :: r2 := by
  subst h
  cases i with
  | zero => exact ⟨x ++ b, r, by simp [ByteArray.append_assoc]⟩
  | succ i => exact ⟨x, _, rfl⟩
theorem Kp.append {s : ByteArray} {D : Dsk} (h : Kp s D) (nm b : ByteArray) : Kp s (D.append nm b).1 := by
  unfold Dsk.append
  split; · exact h
  split; · exact h
  split; · exact h
  rw [h.ask]
  unfold Dsk.then
  rw [if_pos rfl]
  obtain ⟨x, r, e⟩ := h.tp
  exact ⟨rfl, h.ne, h.find, tp_set e _⟩
theorem Kp.create {s : ByteArray} {D : Dsk} (h : Kp s D) {nm : ByteArray} (hn : nm ≠ kKept) : Kp s (D.create nm).1 := by
  unfold Dsk.create
  split; · exact h
  split; · exact h
  split; · exact h
  split; · exact h
  rw [h.ask]
  unfold Dsk.then
  rw [if_pos rfl]
  obtain ⟨x, r, e⟩ := h.tp
  refine ⟨rfl, ?_, fun l hl => ?_, x, r ++ [Tp.none], by show D.tp ++ [Tp.none] = _; rw [e]; rfl⟩
  · show putF D.L nm _ ≠ []
    unfold putF
    split
    · exact h.ne
    · simp
  · have hl : l ∈ putF D.L nm (D.tp.length + 1 : Nat) := hl
    unfold putF at hl
    split at hl
    · exact h.find l hl
    · next g =>
      rcases List.mem_append.1 hl with hl | hl
      · exact h.find l hl
      · rw [List.mem_singleton.1 hl, findE_withE (findE_no (by simpa using g)), if_neg hn]
        exact h.find _ (nowL_mem h.ne)
theorem Kp.remove {s : ByteArray} {D : Dsk} (h : Kp s D) {nm : ByteArray} (hn : nm ≠ kKept) : Kp s (D.remove nm).1 := by
  unfold Dsk.remove
  split; · exact h
  split; · exact h
  rw [h.ask]
  unfold Dsk.then
  rw [if_pos rfl]
  refine ⟨rfl, ?_, fun l hl => ?_, h.tp⟩
  · show dropF D.L nm ≠ []
    unfold dropF
    split
    · simp
    · exact h.ne
  · have hl : l ∈ dropF D.L nm := hl
    unfold dropF at hl
    split at hl
    · rcases List.mem_append.1 hl with hl | hl
      · exact h.find l hl
      · rw [List.mem_singleton.1 hl, findE_withoutE, if_neg hn]
        exact h.find _ (nowL_mem h.ne)
    · exact h.find l hl
theorem Kp.rename {s : ByteArray} {D : Dsk} (h : Kp s D) {nm d : ByteArray} (hn : nm ≠ kKept) (hd : d ≠ kKept) : Kp s (D.rename nm d).1 := by
  unfold Dsk.rename
  split; · exact h
  split; · exact h
  split; · exact h
  rw [h.ask]
  unfold Dsk.then
  rw [if_pos rfl]
  have key : moveF D.L nm d ≠ [] ∧ ∀ l ∈ moveF D.L nm d, findE l kKept = some 1 := by
    unfold moveF
    cases hf : findE (nowL D.L) nm with
    | none => exact ⟨h.ne, h.find⟩
    | some i =>
      show (if nm = d then D.L else _) ≠ [] ∧ ∀ l ∈ (if nm = d then D.L else _), _
      split
      · exact ⟨h.ne, h.find⟩
      · refine ⟨by simp, fun l hl => ?_⟩
        rcases List.mem_append.1 hl with hl | hl
        · exact h.find l hl
        · rw [List.mem_singleton.1 hl, findE_withE (fun e he g => ?_), if_neg hd, findE_withoutE, if_neg hd, findE_withoutE, if_neg hn]
          · exact h.find _ (nowL_mem h.ne)
          · have h2 := (List.mem_filter.1 he).2
            have h3 : e.name = d := g
            simp [nmB, h3] at h2
  exact ⟨rfl, key.1, key.2, h.tp⟩
/-- What a crash leaves of the first tape begins with s. -/
theorem crash_head {s : ByteArray} {q : Nat} (hq : s.size = 32 * q) (c : ByteArray) (l : List Int) {tp : List Tp} {x : ByteArray} {r : List Tp} (h : tp = ⟨s, s ++ x⟩ :: r) (k : Nat) (hk : k ≤ l.length) :
    ∃ y r2, (crashK c l tp k).1 = ⟨s, s ++ y⟩ :: r2 ∨ (crashK c l tp k).1 = ⟨s ++ y, s ++ y⟩ :: r2 := by
  induction k with
  | zero => exact ⟨x, r, .inl h⟩
  | succ k ih =>
    obtain ⟨y, r2, ih⟩ := ih (by omega)
    rw [crashK_succ c l tp k (by omega) _ rfl]
    obtain ⟨j, hj⟩ : ∃ j, (l[k] - 1).toNat = j := ⟨_, rfl⟩
    rw [hj]
    obtain ⟨u, hu⟩ : ∃ u, (crashK c l tp k).2 = u := ⟨_, rfl⟩
    rw [hu]
    rcases ih with ih | ih
    · rw [ih]
      cases j with
      | zero =>
        obtain ⟨z, hz⟩ := mixOf_head s y (c.extract u c.size) q hq
        exact ⟨z, r2, .inr (by show (⟨mixOf s (s ++ y) (c.extract u c.size), mixOf s (s ++ y) (c.extract u c.size)⟩ : Tp) :: r2 = _; rw [hz])⟩
      | succ j => exact ⟨y, _, .inl rfl⟩
    · rw [ih]
      cases j with
      | zero => exact ⟨y, r2, .inr (by show (⟨mixOf (s ++ y) (s ++ y) (c.extract u c.size), mixOf (s ++ y) (s ++ y) (c.extract u c.size)⟩ : Tp) :: r2 = _; rw [kmix_same])⟩
      | succ j => exact ⟨y, _, .inr rfl⟩
theorem Kp.read {s : ByteArray} {q : Nat} (hq : s.size = 32 * q) {D : Dsk} (h : Kp s D) (c : ByteArray) : ∃ y : ByteArray, (D.crash c).1.read kKept = (y, 0) ∧ s.size ≤ y.size ∧ y.extract 0 s.size = s := by
  obtain ⟨x, r, e⟩ := h.tp
  obtain ⟨y, r2, hc⟩ := crash_head hq c (idsK D.L) e (idsK D.L).length (Nat.le_refl _)
  have hid : (D.crash c).1.id kKept = 1 := by
    show (findE (D.L.getD (pickN (firstB c) D.L.length) []) kKept).getD 0 = 1
    rw [h.find _ (pick_mem h.ne _)]
    rfl
  refine ⟨s ++ y, ?_, by simp, str_ext (by rw [extract_list, app_list]; simp)⟩
  unfold Dsk.read
  rw [if_neg (show ¬ (D.crash c).1.fu.off = true from fun g => by cases g), hid, if_neg (by decide)]
  show (((crashK c (idsK D.L) D.tp (idsK D.L).length).1.getD 0 Tp.none).n, (0 : Int)) = _
  rcases hc with hc | hc <;> rw [hc] <;> rfl
theorem kp1 : Dsk.create (Dsk.new 200) kKept = (⟨200, [Tp.none], [[], [⟨kKept, 1⟩]], Fus.new, 1⟩, 0) := by rfl
theorem kp2 (s : ByteArray) (hs : s.size ≤ 200) : Dsk.append ⟨200, [Tp.none], [[], [⟨kKept, 1⟩]], Fus.new, 1⟩ kKept s = (⟨200, [⟨ByteArray.empty, s⟩], [[], [⟨kKept, 1⟩]], Fus.new, 2⟩, 0) := by
  have e : ByteArray.empty ++ s = s := by simp
  obtain ⟨D, hD⟩ : ∃ D : Dsk, D = ⟨200, [Tp.none], [[], [⟨kKept, 1⟩]], Fus.new, 1⟩ := ⟨_, rfl⟩
  have h0 : D.fu.off = false := by rw [hD]; rfl
  have h1 : D.id kKept = 1 := by rw [hD]; rfl
  have h2 : D.t 1 = Tp.none := by rw [hD]; rfl
  have hf : ¬ (D.set 1 ⟨ByteArray.empty, s⟩).free < 0 := by
    have : (D.set 1 ⟨ByteArray.empty, s⟩).free = 200 - ((cntN (max ByteArray.empty.size s.size) : Nat) : Int) := by rw [hD]; rfl
    rw [this]
    show ¬ (200 - ((cntN (max 0 s.size) : Nat) : Int)) < 0
    unfold cntN
    omega
  rw [← hD]
  unfold Dsk.append
  rw [if_neg (by rw [h0]; simp), h1, if_neg (by decide), h2, show Tp.none.k = ByteArray.empty from rfl, show Tp.none.n = ByteArray.empty from rfl, e, if_neg hf, hD]
  rfl
theorem kp3 (s : ByteArray) : Dsk.sync ⟨200, [⟨ByteArray.empty, s⟩], [[], [⟨kKept, 1⟩]], Fus.new, 2⟩ kKept = (⟨200, [⟨s, s⟩], [[], [⟨kKept, 1⟩]], Fus.new, 3⟩, 0) := by rfl
theorem kp4 (s : ByteArray) : Dsk.syncAll ⟨200, [⟨s, s⟩], [[], [⟨kKept, 1⟩]], Fus.new, 3⟩ = (⟨200, [⟨s, s⟩], [[⟨kKept, 1⟩]], Fus.new, 4⟩, 0) := by rfl
theorem kp_start (s : ByteArray) : Kp s ⟨200, [⟨s, s⟩], [[⟨kKept, 1⟩]], Fus.new, 4⟩ :=
  ⟨rfl, by simp, fun l hl => by rw [List.mem_singleton.1 hl]; rfl, ByteArray.empty, [], by simp⟩
end Go.Proofs.YtfgecjlccngddaaGreat
namespace Go.Proofs.YtfgecjlccngddaaGreat
set_option linter.unusedSimpArgs false
set_option linter.unusedVariables false
open Go.RowKit
set_option linter.unusedVariables false

theorem crashK_still (c : ByteArray) (l : List Int) {tp : List Tp} (h : ∀ t ∈ tp, t.n = t.k) (k : Nat) (hk : k ≤ l.length) : (crashK c l tp k).1 = tp := by
  induction k with
  | zero => rfl
  | succ k ih =>
    have ih := ih (by omega)
    rw [crashK_succ c l tp k (by omega) _ rfl, ih]
    obtain ⟨j, hj⟩ : ∃ j, (l[k] - 1).toNat = j := ⟨_, rfl⟩
    rw [hj]
    show tp.set j _ = tp
    by_cases hlt : j < tp.length
    · have e : tp.getD j Tp.none = tp[j] := by rw [List.getD_eq_getElem?_getD, List.getElem?_eq_getElem hlt]; rfl
      have hs := h _ (List.getElem_mem hlt)
      rw [e, hs, kmix_same]
      have e2 : (⟨tp[j].k, tp[j].k⟩ : Tp) = tp[j] := by
        conv => rhs; rw [show tp[j] = (⟨tp[j].k, tp[j].n⟩ : Tp) from rfl, hs]
      rw [e2, List.set_getElem_self]
    · rw [List.set_eq_of_length_le (by omega)]
theorem crash_still {D : Dsk} {x : List Ent} (hL : D.L = [x]) (hf : D.fu = Fus.new) (h : ∀ t ∈ D.tp, t.n = t.k) (c : ByteArray) : (D.crash c).1 = D := by
  unfold Dsk.crash
  simp only
  rw [crashK_still c _ h _ (Nat.le_refl _), hL]
  have e : pickN (firstB c) ([x] : List (List Ent)).length = 0 := by unfold pickN; show (firstB c % ((1 : Nat) : Int)).toNat = 0; omega
  rw [e, ← hf]
  obtain ⟨sec, tp, L, fu, calls⟩ := D
  simp only at hL ⊢
  rw [hL]
  rfl
theorem loadK_even {sec : Int} {l : List Fil} : ∀ k, k ≤ l.length → ∀ t ∈ (loadK sec l k).1.tp, t.n = t.k := by
  intro k
  induction k with
  | zero => intro _ t ht; exact absurd ht (by simp [loadK, Dsk.new])
  | succ k ih =>
    intro hk
    have ih := ih (by omega)
    rw [loadK_succ sec l k (by omega)]
    unfold loadS
    split
    · split
      · exact ih
      · split
        · exact ih
        · intro t ht
          rcases List.mem_append.1 ht with ht | ht
          · exact ih t ht
          · rw [List.mem_singleton.1 ht]
    · exact ih
/-- A disk that was laid: what holds of it. -/
theorem load_facts {sec : Int} {l : List Fil} (hl : ∀ f ∈ l, f.data.size ≤ 200) (h : (Dsk.load sec l).2 = 0) : l.length ≤ 64 ∧ Dsk.ok 64 (Dsk.load sec l).1 ∧ ∀ c, ((Dsk.load sec l).1.crash c).1 = (Dsk.load sec l).1 := by
  unfold Dsk.load at h ⊢
  split at h
  · cases h
  · next h1 =>
    rw [if_neg h1]
    split at h
    · cases h
    · next h2 =>
      rw [if_neg h2]
      split at h
      · next h3 =>
        rw [if_pos h3]
        split at h
        · cases h
        · next h4 =>
          rw [if_neg h4]
          have hi := loadK_is (sec := sec) (l := l) (by omega) (by omega) hl l.length (Nat.le_refl _) h3
          have hok := Dsk.ok_more (N := 64) hi.ok (by omega)
          refine ⟨by omega, ?_, fun c => crash_still (D := { (loadK sec l l.length).1 with L := [nowL (loadK sec l l.length).1.L] }) (x := nowL (loadK sec l l.length).1.L) rfl hi.fu (loadK_even l.length (Nat.le_refl _)) c⟩
          obtain ⟨g1, g2, ⟨g3, g4, g5⟩, g6, g7, g8, g9⟩ := hok
          have hm := nowL_mem g3
          exact ⟨g1, g2, ⟨by simp, by simp, fun x hx => by rw [List.mem_singleton.1 hx]; exact g5 _ hm⟩, g6, fun x hx e he => by rw [List.mem_singleton.1 hx] at he; exact g7 _ hm e he, g8, g9⟩
      · next h3 => exact absurd h h3
end Go.Proofs.YtfgecjlccngddaaGreat
