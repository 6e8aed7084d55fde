/-
  Joined: DiskMath.
-/
import Derived.Test.YtfgecjlccngddaaGreatJFoldRef
import Derived.Test.YtfgecjlccngddaaGreatJFuseRef
import Derived.Test.YtfgecjlccngddaaGreatJTape
import Derived.Test.YtfgecjlccngddaaGreatJTapeRef
import Derived.Test.YtfgecjlccngddaaGreatJTitleRef
namespace Go.Proofs.YtfgecjlccngddaaGreat
set_option linter.unusedSimpArgs false
set_option linter.unusedVariables false
open Go.RowKit
set_option linter.unusedVariables false

structure Dsk where
  sec : Int
  tp : List Tp
  L : List (List Ent)
  fu : Fus
  calls : Int
def Tp.none : Tp := ⟨ByteArray.empty, ByteArray.empty⟩
/-- A file's number; 0: there is none. -/
def Dsk.id (D : Dsk) (s : ByteArray) : Int := (findE (nowL D.L) s).getD 0
def Dsk.t (D : Dsk) (id : Int) : Tp := D.tp.getD (id - 1).toNat Tp.none
def Tp.sec (t : Tp) : Nat := cntN (max t.k.size t.n.size)
/-- Sectors that are left behind the first k numbers. -/
def Dsk.leftK (D : Dsk) (k : Nat) : Int := ((idsK D.L).take k).foldl (fun n i => n - ((D.t i).sec : Int)) D.sec
def Dsk.free (D : Dsk) : Int := D.leftK (idsK D.L).length
def Dsk.set (D : Dsk) (id : Int) (t : Tp) : Dsk := { D with tp := D.tp.set (id - 1).toNat t }
def Dsk.ask (D : Dsk) (sync : Bool) : Dsk × Int := ({ D with fu := (D.fu.call sync).1, calls := D.calls + 1 }, (D.fu.call sync).2)
def Dsk.new (sec : Int) : Dsk := ⟨sec, [], [[]], Fus.new, 0⟩
def Dsk.zero : Dsk := ⟨0, [], [], ⟨0, 0, 0, false⟩, 0⟩
/-- Behind the fuse: what is done if it has no error. -/
def Dsk.then (r : Dsk × Int) (f : Dsk → Dsk) : Dsk × Int := if r.2 = 0 then (f r.1, 0) else r
def Dsk.create (D : Dsk) (s : ByteArray) : Dsk × Int :=
  if D.fu.off = true then (D, 14) else if mayB s.data.toList = false then (D, 7) else if 0 < D.id s then (D, 17) else if 64 ≤ (idsK D.L).length then (D, 9)
  else Dsk.then (D.ask false) fun E => { E with tp := E.tp ++ [Tp.none], L := putF E.L s (E.tp.length + 1 : Nat) }
def Dsk.append (D : Dsk) (s b : ByteArray) : Dsk × Int :=
  if D.fu.off = true then (D, 14) else if D.id s = 0 then (D, 8)
  else if (D.set (D.id s) ⟨(D.t (D.id s)).k, (D.t (D.id s)).n ++ b⟩).free < 0 then (D, 12)
  else Dsk.then (D.ask false) fun E => E.set (D.id s) ⟨(D.t (D.id s)).k, (D.t (D.id s)).n ++ b⟩
def Dsk.cut (D : Dsk) (s : ByteArray) (n : Int) : Dsk × Int :=
  if D.fu.off = true then (D, 14) else if D.id s = 0 then (D, 8) else if n < 0 ∨ ((D.t (D.id s)).n.size : Int) < n then (D, 3)
  else Dsk.then (D.ask false) fun E => E.set (D.id s) ⟨(D.t (D.id s)).k, (D.t (D.id s)).n.extract 0 n.toNat⟩
def Dsk.sync (D : Dsk) (s : ByteArray) : Dsk × Int :=
  if D.fu.off = true then (D, 14) else if D.id s = 0 then (D, 8)
  else Dsk.then (D.ask true) fun E => E.set (D.id s) ⟨(D.t (D.id s)).n, (D.t (D.id s)).n⟩
def Dsk.syncAll (D : Dsk) : Dsk × Int :=
  if D.fu.off = true then (D, 14) else Dsk.then (D.ask true) fun E => { E with L := [nowL E.L] }
def Dsk.rename (D : Dsk) (s d : ByteArray) : Dsk × Int :=
  if D.fu.off = true then (D, 14) else if D.id s = 0 then (D, 8) else if mayB d.data.toList = false then (D, 7)
  else Dsk.then (D.ask false) fun E => { E with L := moveF E.L s d }
def Dsk.remove (D : Dsk) (s : ByteArray) : Dsk × Int :=
  if D.fu.off = true then (D, 14) else if D.id s = 0 then (D, 8)
  else Dsk.then (D.ask false) fun E => { E with L := dropF E.L s }
def Dsk.read (D : Dsk) (s : ByteArray) : ByteArray × Int :=
  if D.fu.off = true then (ByteArray.empty, 14) else if D.id s = 0 then (ByteArray.empty, 8) else ((D.t (D.id s)).n, 0)
def Dsk.fault (D : Dsk) (k n : Int) : Dsk × Int :=
  if D.fu.off = true then (D, 14) else if (D.fu.arm k n).2 = false then (D, 2) else ({ D with fu := (D.fu.arm k n).1 }, 0)
/-- What a crash makes of the tapes with the first k numbers of l, and how many choices were used. -/
def crashK (c : ByteArray) (l : List Int) (tp : List Tp) (k : Nat) : List Tp × Nat :=
  (l.take k).foldl (fun r i => (r.1.set (i - 1).toNat ⟨mixOf (r.1.getD (i - 1).toNat Tp.none).k (r.1.getD (i - 1).toNat Tp.none).n (c.extract r.2 c.size), mixOf (r.1.getD (i - 1).toNat Tp.none).k (r.1.getD (i - 1).toNat Tp.none).n (c.extract r.2 c.size)⟩,
    r.2 + mixUs (r.1.getD (i - 1).toNat Tp.none).k (r.1.getD (i - 1).toNat Tp.none).n (c.extract r.2 c.size))) (tp, 1)
def firstB (c : ByteArray) : Int := if c.size = 0 then 0 else (bt c.data.toList 0 : Nat)
def Dsk.crash (D : Dsk) (c : ByteArray) : Dsk × Nat :=
  (⟨D.sec, (crashK c (idsK D.L) D.tp (idsK D.L).length).1, [D.L.getD (pickN (firstB c) D.L.length) []], Fus.new, D.calls⟩, (crashK c (idsK D.L) D.tp (idsK D.L).length).2)
def Dsk.files (D : Dsk) : List (ByteArray × ByteArray) := (nowL D.L).map fun e => (e.name, (D.t e.id).n)
def Dsk.names (D : Dsk) : List ByteArray := (nowL D.L).map (·.name)

/-- What a disk's parts may be. -/
def Dsk.ok (M : Nat) (D : Dsk) : Prop :=
  (1 ≤ D.sec ∧ D.sec ≤ 4096) ∧ D.tp.length ≤ M ∧ (D.L ≠ [] ∧ D.L.length ≤ M + 1 ∧ ∀ l ∈ D.L, l.length ≤ M) ∧ (∀ t ∈ D.tp, t.k.size ≤ 200 * M ∧ t.n.size ≤ 200 * M) ∧
  (∀ l ∈ D.L, ∀ e ∈ l, 1 ≤ e.id ∧ e.id ≤ D.tp.length) ∧ D.fu.ok ∧ (0 ≤ D.calls ∧ D.calls ≤ M)
theorem Dsk.ok_more {M N : Nat} {D : Dsk} (h : D.ok M) (hN : M ≤ N) : D.ok N := by
  obtain ⟨h1, h2, ⟨h3, h4, h5⟩, h6, h7, h8, h9, h10⟩ := h
  exact ⟨h1, by omega, ⟨h3, by omega, fun l hl => by have := h5 l hl; omega⟩, fun t ht => by have := h6 t ht; omega, h7, h8, h9, by omega⟩
theorem nowL_mem {L : List (List Ent)} (h : L ≠ []) : nowL L ∈ L := by rw [nowL_get L h]; exact List.getElem_mem _
theorem findE_mem {l : List Ent} {s : ByteArray} {i : Int} (h : findE l s = some i) : ∃ e ∈ l, e.id = i ∧ e.name = s := by
  unfold findE at h
  obtain ⟨e, he, rfl⟩ := Option.map_eq_some_iff.1 h
  exact ⟨e, List.mem_of_find?_eq_some he, rfl, by have := List.find?_some he; simpa [nmB] using this⟩
theorem Dsk.id_is {M : Nat} {D : Dsk} (h : D.ok M) (s : ByteArray) : (D.id s = 0 ∧ findE (nowL D.L) s = none) ∨ (1 ≤ D.id s ∧ D.id s ≤ D.tp.length ∧ findE (nowL D.L) s = some (D.id s)) := by
  unfold Dsk.id
  cases hf : findE (nowL D.L) s with
  | none => exact .inl ⟨rfl, rfl⟩
  | some i =>
    obtain ⟨e, he, rfl, _⟩ := findE_mem hf
    obtain ⟨q0, q1⟩ := h.2.2.2.2.1 _ (nowL_mem h.2.2.1.1) e he
    exact .inr ⟨q0, q1, rfl⟩
/-- Numbers in a rising list. -/
theorem addS_mem (n : Int) (l : List Int) : ∀ k, k ≤ l.length → ∀ x, x ∈ (addK l n k).1 → x = n ∨ x ∈ l := by
  intro k
  induction k with
  | zero => intro _ x hx; simp [addK] at hx
  | succ k ih =>
    intro hk x hx
    rw [addK_succ l n k (by omega)] at hx
    have hl : l[k]'(by omega) ∈ l := List.getElem_mem _
    unfold addS at hx
    split at hx
    · simp at hx
      rcases hx with hx | hx | hx
      · exact ih (by omega) x hx
      · exact .inl hx
      · exact .inr (hx ▸ hl)
    · simp at hx
      rcases hx with hx | hx
      · exact ih (by omega) x hx
      · exact .inr (hx ▸ hl)
theorem addI_mem (l : List Int) (n x : Int) (h : x ∈ addI l n) : x = n ∨ x ∈ l := by
  unfold addI at h
  split at h
  · exact .inr h
  · split at h
    · exact addS_mem n l _ (Nat.le_refl _) x h
    · rw [List.mem_append] at h
      rcases h with h | h
      · exact addS_mem n l _ (Nat.le_refl _) x h
      · simp at h; exact .inl h
theorem idsIn_mem (l : List Ent) : ∀ (o : List Int) (x : Int), x ∈ idsIn o l → x ∈ o ∨ ∃ e ∈ l, e.id = x := by
  unfold idsIn
  induction l with
  | nil => intro o x h; exact .inl h
  | cons e r ih =>
    intro o x h
    rcases ih _ x h with h | ⟨y, hy, rfl⟩
    · rcases addI_mem _ _ _ h with rfl | h
      · exact .inr ⟨e, by simp, rfl⟩
      · exact .inl h
    · exact .inr ⟨y, by simp [hy], rfl⟩
theorem idsK_memK (L : List (List Ent)) : ∀ k, k ≤ L.length → ∀ x, x ∈ idsK (L.take k) → ∃ l ∈ L, ∃ e ∈ l, e.id = x := by
  intro k
  induction k with
  | zero => intro _ x h; simp [idsK] at h
  | succ k ih =>
    intro hk x h
    rw [idsK_succ L k (by omega)] at h
    rcases idsIn_mem _ _ x h with h | ⟨e, he, rfl⟩
    · exact ih (by omega) x h
    · exact ⟨L[k]'(by omega), List.getElem_mem _, e, he, rfl⟩
theorem idsK_mem (L : List (List Ent)) (x : Int) (h : x ∈ idsK L) : ∃ l ∈ L, ∃ e ∈ l, e.id = x := by
  refine idsK_memK L L.length (Nat.le_refl _) x ?_
  rw [List.take_of_length_le (Nat.le_refl _)]; exact h
theorem Dsk.ids_is {M : Nat} {D : Dsk} (h : D.ok M) (k : Nat) (hk : k < (idsK D.L).length) : 1 ≤ (idsK D.L)[k] ∧ (idsK D.L)[k] ≤ D.tp.length := by
  obtain ⟨l, hl, e, he, hx⟩ := idsK_mem D.L _ (List.getElem_mem hk)
  rw [← hx]
  exact h.2.2.2.2.1 l hl e he
theorem Dsk.ids_len {M : Nat} {D : Dsk} (h : D.ok M) : (idsK D.L).length ≤ (M + 1) * M := by
  have h1 := idsK_len D.L M h.2.2.1.2.2 D.L.length (Nat.le_refl _)
  rw [List.take_of_length_le (Nat.le_refl _)] at h1
  exact Nat.le_trans h1 (Nat.mul_le_mul_right _ h.2.2.1.2.1)
theorem Dsk.t_mem {M : Nat} {D : Dsk} (h : D.ok M) (i : Int) (h1 : 1 ≤ i) (h2 : i ≤ D.tp.length) : ∃ hk : (i - 1).toNat < D.tp.length, D.t i = D.tp[(i - 1).toNat]'hk := by
  have hk : (i - 1).toNat < D.tp.length := by omega
  refine ⟨hk, ?_⟩
  unfold Dsk.t
  rw [List.getD_eq_getElem?_getD, List.getElem?_eq_getElem hk]
  rfl
theorem Dsk.t_size {M : Nat} {D : Dsk} (h : D.ok M) (i : Int) (h1 : 1 ≤ i) (h2 : i ≤ D.tp.length) : (D.t i).k.size ≤ 200 * M ∧ (D.t i).n.size ≤ 200 * M := by
  obtain ⟨hk, e⟩ := D.t_mem h i h1 h2
  rw [e]
  exact h.2.2.2.1 _ (List.getElem_mem hk)
theorem Dsk.leftK_succ (D : Dsk) (k : Nat) (h : k < (idsK D.L).length) : D.leftK (k + 1) = D.leftK k - ((D.t ((idsK D.L)[k])).sec : Int) := by
  unfold Dsk.leftK
  rw [take_get _ k h, List.foldl_append]
  rfl
theorem cntN_le (n : Nat) : cntN n ≤ n := by unfold cntN; omega
theorem Dsk.leftK_is {M : Nat} {D : Dsk} (h : D.ok M) (k : Nat) (hk : k ≤ (idsK D.L).length) : D.sec - 200 * M * k ≤ D.leftK k ∧ D.leftK k ≤ D.sec := by
  induction k with
  | zero => simp [Dsk.leftK]
  | succ k ih =>
    have h1 := ih (by omega)
    obtain ⟨q0, q1⟩ := D.ids_is h k (by omega)
    have h2 := D.t_size h _ q0 q1
    have h3 := cntN_le (max (D.t ((idsK D.L)[k]'(by omega))).k.size (D.t ((idsK D.L)[k]'(by omega))).n.size)
    rw [D.leftK_succ k (by omega)]
    unfold Tp.sec
    have h4 : (200 : Int) * M * ((k + 1 : Nat) : Int) = 200 * M * k + 200 * M := by show (200 : Int) * M * ((k : Int) + 1) = _; rw [Int.mul_add, Int.mul_one]
    rw [h4]
    omega
theorem Dsk.ask_ok {M : Nat} {D : Dsk} (h : D.ok M) {sync : Bool} {F : Fus} {v : Int} (hF : D.fu.call sync = (F, v)) : Dsk.ok (M + 1) ⟨D.sec, D.tp, D.L, F, D.calls + 1⟩ := by
  obtain ⟨h1, h2, ⟨h3, h4, h5⟩, h6, h7, h8, h9, h10⟩ := h
  have hf : F.ok := by have := D.fu.call_ok sync h8; rw [hF] at this; exact this
  exact ⟨h1, Nat.le_succ_of_le h2, ⟨h3, by show D.L.length ≤ _; omega, fun l hl => by have := h5 l hl; omega⟩, fun t ht => by have := h6 t ht; omega, h7, hf, by show 0 ≤ D.calls + 1; omega, by show D.calls + 1 ≤ _; omega⟩
theorem Dsk.set_ok {M : Nat} {D : Dsk} (h : D.ok M) (i : Int) (t : Tp) (hk : t.k.size ≤ 200 * (M + 1)) (hn : t.n.size ≤ 200 * (M + 1)) : Dsk.ok (M + 1) (D.set i t) := by
  obtain ⟨h1, h2, ⟨h3, h4, h5⟩, h6, h7, h8, h9, h10⟩ := h
  have hl : (D.set i t).tp.length = D.tp.length := List.length_set
  refine ⟨h1, by rw [hl]; omega, ⟨h3, by show D.L.length ≤ _; omega, fun l hl => by have := h5 l hl; omega⟩, fun x hx => ?_, fun l hl' e he => by rw [hl]; exact h7 l hl' e he, h8, h9, by show D.calls ≤ _; omega⟩
  rcases List.mem_or_eq_of_mem_set hx with hx | rfl
  · have := h6 x hx; omega
  · exact ⟨hk, hn⟩
end Go.Proofs.YtfgecjlccngddaaGreat
