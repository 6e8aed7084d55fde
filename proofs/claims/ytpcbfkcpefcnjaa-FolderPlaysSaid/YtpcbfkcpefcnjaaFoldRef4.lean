/-
  Contracts of the document's folder (layer 9), fourth part: lists of lists.
-/
import Derived.Test.YtpcbfkcpefcnjaaFoldRef3
namespace Go.Proofs.Ytpcbfkcpefcnjaa
open Go.RowKit
set_option linter.unusedVariables false

theorem add_block (a : Addr) (k : Nat) : (a.add k).block = a.block := by unfold Addr.add; split <;> rfl
/-- A slice of slices that reads as these lists; all of it lies below B. -/
def LLs (w : World) (B : Nat → Prop) (a : Option Addr) (L : List (List Ent)) : Prop :=
  ∀ (k : Nat) (h : k < L.length), ∃ ad, a = some ad ∧ B ad.block ∧ ∃ ai ci, w.cell? (ad.add k) = some (.slice ai (L[k]).length ci) ∧ Ents w B ai L[k]
theorem LLs.keep {w w' : World} {B : Nat → Prop} {a : Option Addr} {L : List (List Ent)} (h : LLs w B a L) (hk : ∀ p : Addr, B p.block → w'.cell? p = w.cell? p) : LLs w' B a L := fun k hl => by
  obtain ⟨ad, e, hlt, ai, ci, h1, h2⟩ := h k hl
  exact ⟨ad, e, hlt, ai, ci, (hk _ (by rw [add_block]; exact hlt)).trans h1, h2.keep hk⟩
theorem LLs.below {w w' : World} {B : Nat → Prop} {N : Nat} {a : Option Addr} {L : List (List Ent)} (h : LLs w B a L) (hN : ∀ b, B b → b < N) (hb : Below N w w') : LLs w' B a L := h.keep fun _ hp => hb.cell (hN _ hp)
theorem LLs.more {w : World} {B B' : Nat → Prop} {a : Option Addr} {L : List (List Ent)} (h : LLs w B a L) (hB : ∀ b, B b → B' b) : LLs w B' a L := fun k hl => by
  obtain ⟨ad, e, hb, ai, ci, h1, h2⟩ := h k hl
  exact ⟨ad, e, hB _ hb, ai, ci, h1, h2.more hB⟩
/-- Those that were there, and what came since. -/
def Grow (P : Nat → Prop) (n m : Nat) : Nat → Prop := fun b => P b ∨ (n ≤ b ∧ b < m)
/-- The folder's value. -/
abbrev fdV (a : Option Addr) (n c : Nat) : Value := .agg #[.slice a n c]
def nowL (L : List (List Ent)) : List Ent := L.getLastD []
def keptL (L : List (List Ent)) : List Ent := L.headD []
theorem nowL_get (L : List (List Ent)) (h : L ≠ []) : nowL L = L[L.length - 1]'(by have := List.length_pos_iff.2 h; omega) := by
  unfold nowL
  rw [List.getLastD_eq_getLast?, List.getLast?_eq_getElem?, List.getElem?_eq_getElem (by have := List.length_pos_iff.2 h; omega)]
  rfl
theorem keptL_get (L : List (List Ent)) (h : L ≠ []) : keptL L = L[0]'(List.length_pos_iff.2 h) := by
  cases L with
  | nil => exact absurd rfl h
  | cons a r => rfl

def RetEntsB (w : World) (B : Nat → Prop) (l : List Ent) (e : Ending) (w' : World) : Prop := ∃ a c, e = .returned (.slice a l.length c) ∧ Ents w' B a l ∧ Below w.heap.size w w'
set_option maxRecDepth 100000 in
set_option maxHeartbeats 400000 in
theorem rnow9_any (a : Option Addr) (L : List (List Ent)) (c : Nat) (B : Nat → Prop) (w : World) (h : LLs w B a L) (hB : ∀ b, B b → b < w.heap.size) (hL : L ≠ []) (hn : L.length ≤ 1000000) :
    Calls Try.prog 16 #[fdV a L.length c] w (RetEntsB w B (nowL L)) := by
  have hpos := List.length_pos_iff.2 hL
  rw [nowL_get L hL]
  obtain ⟨ad, rfl, hab, ai, ci, h1, h2⟩ := h (L.length - 1) (by omega)
  obtain ⟨x, hx⟩ : ∃ x, L[L.length - 1]'(by omega) = x := ⟨_, rfl⟩
  rw [hx] at h1 h2 ⊢
  obtain ⟨n, hnn⟩ : ∃ n, L.length = n + 1 := ⟨L.length - 1, by omega⟩
  rw [hnn] at h1 hn ⊢
  rw [show n + 1 - 1 = n by omega] at h1
  have hb := (Below.refl w.heap.size w).alloc (Nat.le_refl _) (.cells #[.slice (some ad) (n + 1) c] 28)
  have c1 := (hb.cell (by rw [add_block]; exact hB _ hab)).trans h1
  have HB := Lib.hid hb; have H2 := Lib.hid h2
  clear hx hnn h1 h2 hb h hpos
  have b0 : (0 : Int) ≤ (n : Int) + 1 - 1 := by omega
  have b1 : (n : Int) + 1 - 1 < ((n : Int) + 1) := by omega
  go_enter Try.func16, Try.ntmps16
  go_wp2
  go_ret
  exact ⟨ai, ci, rfl, H2.out.below hB HB.out, HB.out⟩
set_option maxRecDepth 100000 in
set_option maxHeartbeats 400000 in
theorem rkept9_any (a : Option Addr) (L : List (List Ent)) (c : Nat) (B : Nat → Prop) (w : World) (h : LLs w B a L) (hB : ∀ b, B b → b < w.heap.size) (hL : L ≠ []) (hn : L.length ≤ 1000000) :
    Calls Try.prog 37 #[fdV a L.length c] w (RetEntsB w B (keptL L)) := by
  have hpos := List.length_pos_iff.2 hL
  rw [keptL_get L hL]
  obtain ⟨ad, rfl, hab, ai, ci, h1, h2⟩ := h 0 (by omega)
  obtain ⟨x, hx⟩ : ∃ x, L[0]'(by omega) = x := ⟨_, rfl⟩
  rw [hx] at h1 h2 ⊢
  have hb := (Below.refl w.heap.size w).alloc (Nat.le_refl _) (.cells #[.slice (some ad) L.length c] 28)
  rw [show ad.add 0 = ad from if_pos rfl] at h1
  have c1 := (hb.cell (hB _ hab)).trans h1
  have HB := Lib.hid hb; have H2 := Lib.hid h2
  clear hx h1 h2 hb h
  go_enter Try.func37, Try.ntmps37
  go_wp2
  go_ret
  exact ⟨ai, ci, rfl, H2.out.below hB HB.out, HB.out⟩
/-- A folder made by the call: its row is one of the call's own. -/
def RetFdN (w : World) (P : Nat → Prop) (L : List (List Ent)) (e : Ending) (w' : World) : Prop := ∃ ad c, e = .returned (fdV (some ad) L.length c) ∧ w.heap.size ≤ ad.block ∧ LLs w' (Grow P w.heap.size w'.heap.size) (some ad) L ∧ Below w.heap.size w w'
def RetFd (w : World) (P : Nat → Prop) (L : List (List Ent)) (e : Ending) (w' : World) : Prop := ∃ a c, e = .returned (fdV a L.length c) ∧ LLs w' (Grow P w.heap.size w'.heap.size) a L ∧ Below w.heap.size w w'
def RetFdV (w : World) (P : Nat → Prop) (L : List (List Ent)) (v : Value) (e : Ending) (w' : World) : Prop := ∃ a c, e = .returned (.tuple #[fdV a L.length c, v]) ∧ LLs w' (Grow P w.heap.size w'.heap.size) a L ∧ Below w.heap.size w w'
theorem lls_one {w : World} {B : Nat → Prop} {ai : Option Addr} {ci : Nat} {l : List Ent} {ad : Addr} (hB : B ad.block) (h : w.cell? (ad.add 0) = some (.slice ai l.length ci)) (he : Ents w B ai l) : LLs w B (some ad) [l] := fun k hk => by
  obtain rfl : k = 0 := by simpa using hk
  exact ⟨ad, rfl, hB, ai, ci, h, he⟩
set_option maxRecDepth 100000 in
set_option maxHeartbeats 400000 in
theorem rnew9_any (w : World) : Calls Try.prog 8 #[] w (RetFd w (fun _ => False) [[]]) := by
  go_enter Try.func8, Try.ntmps8
  go_wp2
  refine bodyPost_ret (v := fdV (some ⟨w.heap.size + 1, 0, none⟩) 1 1) (by simp [results, Try.results8, go_sem]) rfl ⟨_, _, rfl, ?_, ((Below.refl _ _).alloc (Nat.le_refl _) _).alloc (by simp) _⟩
  refine lls_one (ai := none) (ci := 0) (.inr (by simp)) ?_ (fun k hk => absurd hk (by simp))
  simp [Addr.add, World.cell?_alloc_at]
theorem entry_info : (Try.prog.info? 39).map (fun i => (i.zero, i.size, i.bytes)) = some (some (.slice none 0 0), 1, 24) := by kernel_rfl
/-- Values that are such slices. -/
def SlV (w : World) (B : Nat → Prop) (xs : List Value) (L : List (List Ent)) : Prop :=
  xs.length = L.length ∧ ∀ (k : Nat) (h : k < L.length), ∃ ai ci, xs[k]? = some (.slice ai (L[k]).length ci) ∧ Ents w B ai L[k]
theorem SlV.below {w w' : World} {B : Nat → Prop} {N : Nat} {xs : List Value} {L : List (List Ent)} (h : SlV w B xs L) (hN : ∀ b, B b → b < N) (hb : Below N w w') : SlV w' B xs L :=
  ⟨h.1, fun k hk => by obtain ⟨ai, ci, h1, h2⟩ := h.2 k hk; exact ⟨ai, ci, h1, h2.below hN hb⟩⟩
theorem SlV.more {w : World} {B B' : Nat → Prop} {xs : List Value} {L : List (List Ent)} (h : SlV w B xs L) (hB : ∀ b, B b → B' b) : SlV w B' xs L :=
  ⟨h.1, fun k hk => by obtain ⟨ai, ci, h1, h2⟩ := h.2 k hk; exact ⟨ai, ci, h1, h2.more hB⟩⟩
theorem SlV.app {w : World} {B : Nat → Prop} {xs : List Value} {L : List (List Ent)} (h : SlV w B xs L) {ai : Option Addr} {l : List Ent} {ci : Nat} (hl : Ents w B ai l) : SlV w B (xs ++ [.slice ai l.length ci]) (L ++ [l]) := by
  refine ⟨by simp [h.1], fun k hk => ?_⟩
  by_cases hkl : k < L.length
  · obtain ⟨a, c, h1, h2⟩ := h.2 k hkl
    refine ⟨a, c, ?_, ?_⟩
    · rw [List.getElem?_append_left (by rw [h.1]; exact hkl), h1, List.getElem_append_left hkl]
    · rw [List.getElem_append_left hkl]; exact h2
  · have e : k = L.length := by simp at hk; omega
    subst e
    refine ⟨ai, ci, ?_, ?_⟩
    · rw [List.getElem?_append_right (by rw [h.1]; exact Nat.le_refl _), h.1]; simp
    · simpa using hl
theorem slv_of {w : World} {B : Nat → Prop} {ad : Addr} {L : List (List Ent)} (h : LLs w B (some ad) L) : ∃ xs, SlV w B xs L ∧ (∀ j u, xs[j]? = some u → w.cell? (ad.add j) = some u) ∧ (∀ u ∈ xs, u.oneCell' = true) ∧ (L ≠ [] → B ad.block) := by
  refine ⟨(List.range L.length).map (fun k => (w.cell? (ad.add k)).getD undef), ⟨by simp, fun k hk => ?_⟩, fun j u hu => ?_, fun u hu => ?_, fun hne => ?_⟩
  · obtain ⟨ad', e, hb, ai, ci, h1, h2⟩ := h k hk
    obtain rfl : ad = ad' := by simpa using e
    exact ⟨ai, ci, by simp [hk, h1], h2⟩
  · have hj : j < L.length := by
      have := (List.getElem?_eq_some_iff.1 hu).1
      simpa using this
    obtain ⟨ad', e, hb, ai, ci, h1, h2⟩ := h j hj
    obtain rfl : ad = ad' := by simpa using e
    simp [hj, h1] at hu
    rw [h1, hu]
  · obtain ⟨j, hj, rfl⟩ := List.mem_map.1 hu
    obtain ⟨ad', e, hb, ai, ci, h1, h2⟩ := h j (List.mem_range.1 hj)
    obtain rfl : ad = ad' := by simpa using e
    rw [h1]; rfl
  · obtain ⟨ad', e, hb, _⟩ := h 0 (List.length_pos_iff.2 hne)
    obtain rfl : ad = ad' := by simpa using e
    exact hb
theorem lls_own_at {w : World} {base : Nat} {t : TypeId} {v : Value} {xs : List Value} {L : List (List Ent)} (h : w.ownsRow base t 1 v L.length xs) : ∀ b, v.ownBlock = some b → base ≤ b := own_block h
theorem lls_own {w : World} {base : Nat} {t : TypeId} {v : Value} {xs : List Value} {L : List (List Ent)} {P : Nat → Prop} (h : w.ownsRow base t 1 v L.length xs) (hs : SlV w P xs L) (hP : ∀ b, base ≤ b ∧ b < w.heap.size → P b) : ∃ a c, v = .slice a L.length c ∧ LLs w P a L := by
  rcases h.2 with ⟨rfl, h0⟩ | ⟨g, cap, cur, rfl, hgb, hg, _⟩
  · exact ⟨none, 0, by rw [h0], fun k hk => absurd hk (by omega)⟩
  · refine ⟨_, _, rfl, fun k hk => ?_⟩
    obtain ⟨ai, ci, h1, h2⟩ := hs.2 k hk
    exact ⟨_, rfl, hP _ ⟨hgb, (h.lt g rfl).2⟩, ai, ci, h.cells (g := g) rfl k _ h1, h2⟩
theorem own_slice {w : World} {base n sz : Nat} {t : TypeId} {v : Value} {xs : List Value} (h : w.ownsRow base t (sz + 1) v n xs) : ∃ a c, v = .slice a n c := by
  rcases h.2 with ⟨rfl, h0⟩ | ⟨g, cap, cur, rfl, _⟩
  · have := h.1
    rw [h0] at this
    have hn : n = 0 := by
      rcases Nat.eq_zero_or_pos n with h | h
      · exact h
      · have := Nat.mul_pos h (Nat.succ_pos sz); simp at *; omega
    subst hn
    exact ⟨none, 0, rfl⟩
  · exact ⟨_, _, rfl⟩
theorem news_one (w : World) (v : Value) (t : TypeId) : ∀ j u, ([v] : List Value)[j]? = some u → (w.alloc (.cells #[v] t)).cell? ((⟨w.heap.size, 0, none⟩ : Addr).add j) = some u := by
  intro j u hj
  match j, hj with
  | 0, hj => simp at hj; subst hj; simp [Addr.add]
set_option maxRecDepth 100000 in
set_option maxHeartbeats 800000 in
theorem rthen9_any (a : Option Addr) (L : List (List Ent)) (c : Nat) (P : Nat → Prop) (w : World) (hP : ∀ b, P b → b < w.heap.size) (h : LLs w P a L) (hL : L ≠ []) (hn : L.length ≤ 1000000) (ai : Option Addr) (l : List Ent) (ci : Nat) (hl : Ents w P ai l) :
    Calls Try.prog 48 #[fdV a L.length c, .slice ai l.length ci] w (RetFdN w P (L ++ [l])) := by
  obtain ⟨i0, hi, hz0, hz1, hz2⟩ := info_parts entry_info
  obtain ⟨ad, rfl⟩ : ∃ ad, a = some ad := by obtain ⟨ad, e, _⟩ := h 0 (List.length_pos_iff.2 hL); exact ⟨ad, e⟩
  obtain ⟨xs, hsl, hnews, hone, hab0⟩ := slv_of h
  have hab := hP _ (hab0 hL)
  have hX : Below w.heap.size w ((w.alloc (.cells #[.slice (some ad) L.length c] 28)).alloc (.cells #[.slice none 0 0] 28)) := ((Below.refl _ _).alloc (Nat.le_refl _) _).alloc (by simp) _
  have r0 : ((w.alloc (.cells #[.slice (some ad) L.length c] 28)).alloc (.cells #[.slice none 0 0] 28)).cell? ⟨w.heap.size + 1, 0, none⟩ = some (.slice none 0 0) := by simp [World.cell?_alloc_at]
  have r1 : ((w.alloc (.cells #[.slice (some ad) L.length c] 28)).alloc (.cells #[.slice none 0 0] 28)).frozen? ⟨w.heap.size + 1, 0, none⟩ = false := World.frozen?_alloc_at _ _ _ _ (by simp)
  obtain ⟨X, hXe⟩ : ∃ X, (w.alloc (.cells #[.slice (some ad) L.length c] 28)).alloc (.cells #[.slice none 0 0] 28) = X := ⟨_, rfl⟩
  have sX : X.heap.size = w.heap.size + 1 + 1 := by rw [← hXe]; simp
  obtain ⟨n, hnn⟩ : ∃ n, L.length = n := ⟨_, rfl⟩
  have hxn : xs.length = n * 1 := by rw [hsl.1, hnn]; omega
  have hlit := World.ownsRow_lit (base := w.heap.size + 1 + 1) (e := 39) (size := 1) X #[] 0 (by omega) (Nat.zero_le _) rfl
  have hadX : ∀ j u, xs[j]? = some u → (X.alloc (.cells #[] 39)).cell? (ad.add j) = some u := fun j u hj => by
    rw [((Below.refl X.heap.size X).alloc (Nat.le_refl _) (.cells #[] 39)).cell (by rw [add_block, sX]; omega)]
    rw [← hXe]
    exact (((Below.refl w.heap.size w).alloc (Nat.le_refl _) _).alloc (by simp) _ |>.cell (p := ad.add j) (by rw [add_block]; exact hab)).trans (hnews j u hj)
  rw [hXe] at hX r0 r1
  rw [hnn] at hn hXe ⊢
  have SL := Lib.hid hsl; have NW := Lib.hid hadX; have ON := Lib.hid hone; have HX := Lib.hid hX; have HN := Lib.hid hnn; have HXE := Lib.hid hXe; have SX := Lib.hid sX; have XN := Lib.hid hxn; have LIT := Lib.hid hlit; have R0 := Lib.hid r0; have R1 := Lib.hid r1; have HL := Lib.hid hl
  clear hsl hadX hone hX hnn hXe sX hxn hlit r0 r1 hl h hnews hab0 hab
  go_enter Try.func48, Try.ntmps48
  have tok1 : True := trivial
  go_wp2_with (first
    | (at_builtin; have _t := tok1; rw [HXE.out]; rw [show w.heap.size + 1 + 1 = X.heap.size from SX.out.symm]; refine wpList_append_own _ rfl _ _ 26 rfl (w.heap.size + 1 + 1) 39 i0 _ 1 24 Try.underlying26 hi hz0 hz1 hz2 rfl (by decide) _ 0 [] rfl LIT.out ad n c xs rfl XN.out NW.out ON.out (by unfold maxLen; omega) (by omega) (by have := SX.out; simp; omega) ?_; intro v1 w1 ho1 hg1 _; have hb1 : Below (w.heap.size + 1 + 1) X w1 := ((Below.refl _ _).alloc (by have := SX.out; omega) _).grown hg1 (by have := SX.out; simp; omega) (own_block LIT.out); have HO1 := Lib.hid ho1; have HB1 := Lib.hid hb1; clear ho1 hg1 hb1 tok1)
    | (at_builtin; refine wpList_append_own _ rfl _ _ 26 rfl (w.heap.size + 1 + 1) 39 i0 _ 1 24 Try.underlying26 hi hz0 hz1 hz2 rfl (by decide) _ (0 + n) ([] ++ xs) rfl (HO1.out.alloc _) ⟨w1.heap.size, 0, none⟩ 1 1 [.slice ai l.length ci] rfl rfl (news_one _ _ _) (by intro u hu; simp at hu; subst hu; rfl) (by unfold maxLen; omega) (by omega) (by have := HB1.out.size; have := SX.out; simp; omega) ?_; intro v2 w2 ho2 hg2 _; obtain ⟨av, cv, rfl⟩ := own_slice (sz := 0) ho2; have hb2 : Below (w.heap.size + 1 + 1) X w2 := (HB1.out.alloc (by have := HB1.out.size; have := SX.out; omega) _).grown hg2 (by have := HB1.out.size; have := SX.out; simp; omega) (own_block HO1.out); have c0 := (hb2.cell (p := ⟨w.heap.size + 1, 0, none⟩) (by simp)).trans R0.out; have c1 := (hb2.frozen (p := ⟨w.heap.size + 1, 0, none⟩) (by simp)).trans R1.out; have HO2 := Lib.hid ho2; have HB2 := Lib.hid hb2; clear ho2 hg2 hb2))
  have hB : Below w.heap.size w (w2.setCell ⟨w.heap.size + 1, 0, none⟩ (.slice av (n + 1) cv)) := (HX.out.trans (HB2.out.mono (by omega))).setCell (by simp) _
  have ho3 : (w2.setCell ⟨w.heap.size + 1, 0, none⟩ (.slice av (n + 1) cv)).ownsRow (w.heap.size + 1 + 1) 39 1 (.slice av (n + 1) cv) (L ++ [l]).length (xs ++ [.slice ai l.length ci]) := by
    have := ownsRow_setCell_below HO2.out (a := ⟨w.heap.size + 1, 0, none⟩) (by simp) (.slice av (n + 1) cv)
    rw [List.length_append, HN.out]
    simpa using this
  have hs3 := (SL.out.below hP hB).app (ci := ci) (HL.out.below hP hB)
  obtain ⟨w3, hw3⟩ : ∃ w3, w2.setCell ⟨w.heap.size + 1, 0, none⟩ (.slice av (n + 1) cv) = w3 := ⟨_, rfl⟩
  rw [hw3] at hB ho3 hs3
  have hs4 : SlV w3 (Grow P w.heap.size w3.heap.size) (xs ++ [.slice ai l.length ci]) (L ++ [l]) := hs3.more (fun b hb => .inl hb)
  obtain ⟨av', cv', he, hlls⟩ := lls_own ho3 hs4 (fun b hb => .inr ⟨by omega, hb.2⟩)
  have hav : av = av' ∧ cv = cv' := by
    have h3 : av = av' ∧ n = L.length ∧ cv = cv' := by simpa using he
    exact ⟨h3.1, h3.2.2⟩
  obtain ⟨rfl, rfl⟩ := hav
  obtain ⟨ad2, rfl⟩ : ∃ ad2, av = some ad2 := by obtain ⟨ad2, e, _⟩ := hlls 0 (by simp); exact ⟨ad2, e⟩
  have hbk : w.heap.size ≤ ad2.block := by have := own_block ho3 ad2.block rfl; omega
  have LLS := Lib.hid hlls; have HB := Lib.hid hB; have W3 := Lib.hid hw3
  have e1 : n + 1 = (L ++ [l]).length := by rw [List.length_append, HN.out]; simp
  have r3 : w3.cell? ⟨w.heap.size + 1, 0, none⟩ = some (.slice (some ad2) (n + 1) cv) := by rw [← hw3]; simp [go_sem, c0]
  have E1 := Lib.hid e1
  clear hlls hB ho3 hs3 hs4 HO2 he hw3 e1
  rw [W3.out]
  refine bodyPost_ret (v := fdV (some ad2) (n + 1) cv) (by simp [results, Try.results48, go_sem, r3]) rfl ⟨ad2, cv, by rw [E1.out], hbk, LLS.out, HB.out⟩
/-- A cell that holds a slice is written: the lists stand, if their row lies elsewhere. -/
theorem LLs.set {w : World} {B : Nat → Prop} {ad : Addr} {L : List (List Ent)} (h : LLs w B (some ad) L) {p : Addr} {x : Option Addr} {y z : Nat} (hc : w.cell? p = some (.slice x y z)) (hp : p.block ≠ ad.block) (u : Value) : LLs (w.setCell p u) B (some ad) L := fun k hk => by
  obtain ⟨ad', e, hb, ai, ci, h1, h2⟩ := h k hk
  obtain rfl : ad = ad' := by simpa using e
  exact ⟨ad, rfl, hb, ai, ci, (World.cell?_setCell_other _ _ _ _ (fun e => hp (by rw [e, add_block]))).trans h1, h2.set hc u⟩
theorem LLs.some {w : World} {B : Nat → Prop} {a : Option Addr} {L : List (List Ent)} (h : LLs w B a L) (hL : L ≠ []) : ∃ ad, a = some ad ∧ B ad.block := by
  obtain ⟨ad, e, hb, _⟩ := h 0 (List.length_pos_iff.2 hL)
  exact ⟨ad, e, hb⟩
end Go.Proofs.Ytpcbfkcpefcnjaa
