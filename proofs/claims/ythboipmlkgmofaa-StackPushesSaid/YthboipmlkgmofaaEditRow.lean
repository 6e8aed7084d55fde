/-
  Rows of api.Edit, as they come in and as they are appended.
-/
import Derived.Test.YthboipmlkgmofaaOpenEd
import Derived.Test.YthboipmlkgmofaaCommon
import Derived.Test.YthboipmlkgmofaaConv
namespace Go.Proofs.Ythboipmlkgmofaa
open Go.RowKit
set_option linter.unusedVariables false

instance : Inhabited Edt := ⟨⟨0, ByteArray.empty, ByteArray.empty⟩⟩
/-- A piece: where it lies, what it has, its room. -/
structure EPc where
  a : Option Addr
  l : List Edt
  c : Nat
instance : Inhabited EPc := ⟨⟨none, [], 0⟩⟩
def EPc.v (x : EPc) : Value := .slice x.a x.l.length x.c
/-- Such a slice of these. -/
structure EPcs (w : World) (x : EPc) : Prop where
  row : Edts w (· < w.heap.size) x.a x.l
  nil : x.a = none → x.c = 0
theorem EPcs.len {w : World} {x : EPc} (h : EPcs w x) (hn : x.a = none) : x.l = [] := by
  cases hl : x.l with
  | nil => rfl
  | cons y r =>
    obtain ⟨ad, e, -⟩ := h.row 0 (by rw [hl]; simp)
    rw [hn] at e
    cases e
theorem eget {l : List Edt} {k : Nat} (h : k < l.length) : l[k]! = l[k] := getElem!_pos l k h
theorem eadd_next (ad : Addr) (k i : Nat) (h : 0 < i) : (⟨(ad.add (k * 3)).block, (ad.add (k * 3)).off + i, none⟩ : Addr) = ad.add (k * 3 + i) := by
  unfold Addr.add
  by_cases hk : k * 3 = 0
  · rw [if_pos hk, if_neg (by omega), hk, Nat.zero_add]
  · rw [if_neg hk, if_neg (by omega)]
    show (⟨ad.block, ad.off + k * 3 + i, none⟩ : Addr) = ⟨ad.block, ad.off + (k * 3 + i), none⟩
    rw [Nat.add_assoc]
/-- The cells of a row, to be appended. -/
theorem edts_news {w : World} {B : Nat → Prop} {ad : Addr} {l : List Edt} (h : Edts w B (some ad) l) : ∀ j u, (Edt.flat l)[j]? = some u → w.cell? (ad.add j) = some u := fun j u hj => by
  have hlt : j < l.length * 3 := by
    rcases Nat.lt_or_ge j (l.length * 3) with g | g
    · exact g
    · rw [List.getElem?_eq_none (by rw [Edt.flat_len]; exact g)] at hj
      cases hj
  obtain ⟨ad', e, -, q0, q1, q2⟩ := h (j / 3) (by omega)
  obtain rfl : ad = ad' := by injection e
  obtain ⟨g0, g1, g2⟩ := Edt.flat_get l (j / 3) (by omega)
  rcases (show j = j / 3 * 3 ∨ j = j / 3 * 3 + 1 ∨ j = j / 3 * 3 + 2 by omega) with g | g | g
  · rw [g] at hj ⊢
    rw [g0] at hj
    rw [q0]
    exact hj
  · rw [g] at hj ⊢
    rw [g1] at hj
    rw [← eadd_next _ _ _ (by decide), q1]
    exact hj
  · rw [g] at hj ⊢
    rw [g2] at hj
    rw [← eadd_next _ _ _ (by decide), q2]
    exact hj
theorem eone_flat (l : List Edt) : ∀ u ∈ Edt.flat l, u.oneCell' = true := fun u hu => by
  unfold Edt.flat at hu
  obtain ⟨x, -, hx⟩ := List.mem_flatMap.1 hu
  exact one_edt _ _ _ u hx

/-- A row that a call made: where it lies, and its room. -/
structure ERow (w : World) (base : Nat) (x : EPc) : Prop where
  row : Edts w (fun b => base ≤ b ∧ b < w.heap.size) x.a x.l
  nil : x.a = none → x.c = 0
  le : x.l.length ≤ x.c
  cap : x.c ≤ maxLen
theorem own_erow {w : World} {base : Nat} {t : TypeId} {v : Value} {l : List Edt} (h : w.ownsRow base t 3 v l.length (Edt.flat l)) : ∃ a c, v = .slice a l.length c ∧ ERow w base ⟨a, l, c⟩ := by
  obtain ⟨a, c, e, hr⟩ := own_edts h
  refine ⟨a, c, e, hr, ?_, ?_, ?_⟩
  · intro hn
    have hn : a = none := hn
    rcases h.2 with ⟨rfl, h0⟩ | ⟨g, cap, cur, rfl, -⟩
    · injection e with _ _ e3; exact e3.symm
    · injection e with e1; rw [hn] at e1; cases e1
  · show l.length ≤ c
    rcases h.2 with ⟨rfl, h0⟩ | ⟨g, cap, cur, rfl, _, _, hnc, _⟩
    · injection e with _ e2 e3; omega
    · injection e with _ _ e3; omega
  · show c ≤ maxLen
    rcases h.2 with ⟨rfl, h0⟩ | ⟨g, cap, cur, rfl, _, _, hnc, hcm, _⟩
    · injection e with _ e2 e3; unfold maxLen; omega
    · injection e with _ _ e3; omega
theorem ERow.in {w : World} {base : Nat} {x : EPc} (h : ERow w base x) : EPcs w x := ⟨h.row.more fun _ hb => hb.2, h.nil⟩
theorem ERow.below {w W : World} {base : Nat} {x : EPc} (h : ERow w base x) (hb : Below w.heap.size w W) : ERow W base x :=
  ⟨(h.row.below (fun _ h => h.2) hb).more fun _ hb2 => ⟨hb2.1, Nat.lt_of_lt_of_le hb2.2 hb.size⟩, h.nil, h.le, h.cap⟩
theorem ERow.mono {w : World} {base b2 : Nat} {x : EPc} (h : ERow w base x) (hb : b2 ≤ base) : ERow w b2 x := ⟨h.row.more fun _ hb2 => ⟨Nat.le_trans hb hb2.1, hb2.2⟩, h.nil, h.le, h.cap⟩
def RetERow (w : World) (l : List Edt) (e : Ending) (w' : World) : Prop := ∃ a c, e = .returned (.slice a l.length c) ∧ ERow w' w.heap.size ⟨a, l, c⟩ ∧ Below w.heap.size w w'
theorem EPcs.later {w W : World} {x : EPc} (h : EPcs w x) (hb : Below w.heap.size w W) : EPcs W x := ⟨(h.row.below (fun _ h => h) hb).more fun b hb2 => Nat.lt_of_lt_of_le hb2 hb.size, h.nil⟩
theorem EPcs.none (w : World) (a : Addr) (c : Nat) : EPcs w ⟨some a, [], c⟩ := ⟨fun k hk => absurd hk (by simp), fun e => by cases e⟩
theorem EPcs.empty (w : World) : EPcs w ⟨.none, [], 0⟩ := ⟨fun k hk => absurd hk (by simp), fun _ => rfl⟩

/-- How many all pieces have. -/
def esumP (ps : List EPc) : Nat := (ps.map fun x => x.l.length).sum
def ecatP (ps : List EPc) : List Edt := ps.flatMap fun x => x.l
theorem epget {ps : List EPc} {k : Nat} (h : k < ps.length) : ps[k]! = ps[k] := getElem!_pos ps k h
theorem eptake (ps : List EPc) (k : Nat) (h : k < ps.length) : ps.take (k + 1) = ps.take k ++ [ps[k]!] := by
  rw [List.take_succ_eq_append_getElem h, epget h]
theorem esumP_more (ps : List EPc) (k : Nat) (h : k < ps.length) : esumP (ps.take (k + 1)) = esumP (ps.take k) + (ps[k]!).l.length := by
  unfold esumP
  rw [eptake ps k h, List.map_append, List.sum_append]
  simp
theorem ecatP_more (ps : List EPc) (k : Nat) (h : k < ps.length) : ecatP (ps.take (k + 1)) = ecatP (ps.take k) ++ (ps[k]!).l := by
  unfold ecatP
  rw [eptake ps k h, List.flatMap_append]
  simp
theorem ecatP_len (ps : List EPc) : (ecatP ps).length = esumP ps := by
  unfold ecatP esumP
  rw [List.length_flatMap]
theorem esumP_le (ps : List EPc) (k : Nat) : esumP (ps.take k) ≤ esumP ps := by
  have e := congrArg esumP (List.take_append_drop k ps)
  unfold esumP at e ⊢
  rw [List.map_append, List.sum_append] at e
  omega
end Go.Proofs.Ythboipmlkgmofaa
