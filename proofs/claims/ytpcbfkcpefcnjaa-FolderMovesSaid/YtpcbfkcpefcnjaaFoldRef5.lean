/-
  Contracts of the document's folder (layer 9), fifth part: Sync, Crash, Put, Drop, Move.
-/
import Derived.Test.YtpcbfkcpefcnjaaFoldRef4
import Derived.Deep.RegionHeld3
namespace Go.Proofs.Ytpcbfkcpefcnjaa
open Go.RowKit
set_option linter.unusedVariables false

/-- The box of the folder, and the result's block, stand. -/
def Fr9 (w : World) (a : Option Addr) (n c : Nat) (w' : World) : Prop :=
  Below w.heap.size w w' ∧ w.heap.size + 2 ≤ w'.heap.size ∧ w'.cell? ⟨w.heap.size, 0, none⟩ = some (.slice a n c) ∧ w'.cell? ⟨w.heap.size + 1, 0, none⟩ = some (.slice none 0 0) ∧ w'.frozen? ⟨w.heap.size + 1, 0, none⟩ = false
theorem fr9_start (w : World) (a : Option Addr) (n c : Nat) : Fr9 w a n c ((w.alloc (.cells #[.slice a n c] 28)).alloc (.cells #[.slice none 0 0] 28)) := by
  refine ⟨((Below.refl _ _).alloc (Nat.le_refl _) _).alloc (by simp) _, by simp, ?_, ?_, World.frozen?_alloc_at _ _ _ _ (by simp)⟩
  · simp [World.cell?_alloc_past, World.cell?_alloc_at]
  · simp [World.cell?_alloc_at]
theorem fr9_on {w w' w1 : World} {a : Option Addr} {n c : Nat} (h : Fr9 w a n c w') (hb : Below w'.heap.size w' w1) : Fr9 w a n c w1 := by
  obtain ⟨h0, hz, h1, h2, h3⟩ := h
  exact ⟨h0.trans (hb.mono h0.size), Nat.le_trans hz hb.size, (hb.cell (by dsimp only; omega)).trans h1, (hb.cell (by dsimp only; omega)).trans h2, (hb.frozen (by dsimp only; omega)).trans h3⟩
set_option maxRecDepth 100000 in
set_option maxHeartbeats 400000 in
theorem rsync9_any (a : Option Addr) (L : List (List Ent)) (c : Nat) (P : Nat → Prop) (w : World) (hP : ∀ b, P b → b < w.heap.size) (h : LLs w P a L) (hL : L ≠ []) (hn : L.length ≤ 1000000) :
    Calls Try.prog 34 #[fdV a L.length c] w (RetFd w P [nowL L]) := by
  have c1 := fun (W : World) (h : LLs W P a L) (hB : ∀ b, P b → b < W.heap.size) => rnow9_any a L c P W h hB hL hn
  obtain ⟨n, hnn⟩ : ∃ n, L.length = n := ⟨_, rfl⟩
  obtain ⟨l, hl⟩ : ∃ l, nowL L = l := ⟨_, rfl⟩
  simp only [hnn, hl] at c1
  rw [hnn, hl]
  have hf := fr9_start w a n c
  have hX := h.below hP hf.1
  have C1 := Lib.hid c1; have HF := Lib.hid hf; have HX := Lib.hid hX
  clear c1 hf hX hnn hl h
  go_enter Try.func34, Try.ntmps34
  go_wp2_with fail
  refine (C1.out _ HX.out (fun b hb => Nat.lt_of_lt_of_le (hP b hb) HF.out.1.size)).mono ?_
  rintro e w1 ⟨ai, ci, rfl, he, hb1⟩
  have hf1 := fr9_on HF.out hb1
  obtain ⟨p0, p1, p2, p3, p4⟩ := hf1
  have HE := Lib.hid he; have P0 := Lib.hid p0
  clear he p0 hb1
  have hba := (Below.refl w1.heap.size w1).alloc (Nat.le_refl _) (.cells #[.slice ai l.length ci] 39)
  have c0 := (hba.cell (p := ⟨w.heap.size + 1, 0, none⟩) (by dsimp only; omega)).trans p3
  have c2 := (hba.frozen (p := ⟨w.heap.size + 1, 0, none⟩) (by dsimp only; omega)).trans p4
  have HBA := Lib.hid hba
  clear hba
  go_wp2
  have hB : Below w.heap.size w ((w1.alloc (.cells #[.slice ai l.length ci] 39)).setCell ⟨w.heap.size + 1, 0, none⟩ (.slice (some ⟨w1.heap.size, 0, none⟩) 1 1)) := (P0.out.trans (HBA.out.mono (by omega))).setCell (by simp) _
  refine bodyPost_ret (v := fdV (some ⟨w1.heap.size, 0, none⟩) 1 1) (by simp [results, Try.results34, go_sem, c0]) rfl ⟨_, _, rfl, ?_, hB⟩
  have hne : w.heap.size + 1 ≠ w1.heap.size := by omega
  have e1 : (w1.alloc (.cells #[.slice ai l.length ci] 39)).cell? ((⟨w1.heap.size, 0, none⟩ : Addr).add 0) = some (.slice ai l.length ci) := by simp [Addr.add, World.cell?_alloc_at]
  have hz := P0.out.size
  have hr := lls_one (w := w1.alloc (.cells #[.slice ai l.length ci] 39)) (B := Grow P w.heap.size (w1.alloc (.cells #[.slice ai l.length ci] 39)).heap.size) (.inr ⟨hz, by simp⟩) e1 ((HE.out.below (fun b hb => Nat.lt_of_lt_of_le (hP b hb) hz) HBA.out).more (fun b hb => .inl hb))
  have := hr.set c0 hne (.slice (some ⟨w1.heap.size, 0, none⟩) 1 1)
  simpa using this
theorem tmod_bounds (c : Int) (n : Nat) (hn : 0 < n) : -(n : Int) < c.tmod n ∧ c.tmod n < n := by
  have h := Int.tmod_lt_of_pos c (show (0 : Int) < n by omega)
  have h2 := Int.tmod_lt_of_pos (-c) (show (0 : Int) < n by omega)
  rw [Int.neg_tmod] at h2
  omega
/-- The same, before and behind the store of the result. -/
def Gr9 (w : World) (a : Option Addr) (n c : Nat) (w' : World) : Prop :=
  Below w.heap.size w w' ∧ w.heap.size + 2 ≤ w'.heap.size ∧ w'.cell? ⟨w.heap.size, 0, none⟩ = some (.slice a n c) ∧ (w'.cell? ⟨w.heap.size + 1, 0, none⟩).isSome = true ∧ w'.frozen? ⟨w.heap.size + 1, 0, none⟩ = false
theorem gr9_of {w w' : World} {a : Option Addr} {n c : Nat} (h : Fr9 w a n c w') : Gr9 w a n c w' := ⟨h.1, h.2.1, h.2.2.1, by rw [h.2.2.2.1]; rfl, h.2.2.2.2⟩
theorem gr9_on {w w' w1 : World} {a : Option Addr} {n c : Nat} (h : Gr9 w a n c w') (hb : Below w'.heap.size w' w1) : Gr9 w a n c w1 := by
  obtain ⟨h0, hz, h1, h2, h3⟩ := h
  exact ⟨h0.trans (hb.mono h0.size), Nat.le_trans hz hb.size, (hb.cell (by dsimp only; omega)).trans h1, by rw [hb.cell (by dsimp only; omega)]; exact h2, (hb.frozen (by dsimp only; omega)).trans h3⟩
theorem gr9_put {w w' : World} {a : Option Addr} {n c : Nat} (h : Gr9 w a n c w') (u : Value) : Gr9 w a n c (w'.setCell ⟨w.heap.size + 1, 0, none⟩ u) := by
  obtain ⟨h0, hz, h1, h2, h3⟩ := h
  refine ⟨h0.setCell (by simp) _, by simpa using hz, (World.cell?_setCell_other _ _ _ _ (by simp)).trans h1, ?_, ?_⟩
  · rw [World.cell?_setCell_same' _ _ _ h2]; rfl
  · rw [World.frozen?_setCell]; exact h3
/-- The end of a call that answers a new folder. -/
theorem fd_end {w w4 w5 : World} {P : Nat → Prop} {a : Option Addr} {n c c5 : Nat} {ad5 : Addr} {L : List (List Ent)} {l : List Ent}
    (hl : LLs w5 (Grow (Grow P w.heap.size w4.heap.size) w4.heap.size w5.heap.size) (some ad5) (L ++ [l])) (hk : w4.heap.size ≤ ad5.block) (h4 : Fr9 w a n c w4) (h5 : Fr9 w a n c w5) (hs : w4.heap.size ≤ w5.heap.size) :
    RetFdV w P (L ++ [l]) (.bool true) (.returned (.tuple #[fdV (some ad5) (L.length + 1) c5, .bool true])) (w5.setCell ⟨w.heap.size + 1, 0, none⟩ (.slice (some ad5) (L.length + 1) c5)) := by
  have z4 := h4.2.1
  refine ⟨some ad5, c5, by simp, ?_, h5.1.setCell (by simp) _⟩
  have := (hl.set h5.2.2.2.1 (show w.heap.size + 1 ≠ ad5.block by omega) (.slice (some ad5) (L.length + 1) c5)).more (B' := Grow P w.heap.size w5.heap.size) (fun b hb => by
    rcases hb with (hb | hb) | hb
    · exact .inl hb
    · exact .inr ⟨hb.1, by omega⟩
    · exact .inr ⟨by omega, hb.2⟩)
  simpa using this
/-- A list and a new row, under one predicate. -/
theorem grow_both {w w' : World} {P : Nat → Prop} {x : Nat} {a ai : Option Addr} {L : List (List Ent)} {l : List Ent} (hP : ∀ b, P b → b < w.heap.size) (hb : Below w.heap.size w w') (h : LLs w P a L) (hx : w.heap.size ≤ x) (he : Ents w' (fun b => x ≤ b ∧ b < w'.heap.size) ai l) :
    (∀ b, Grow P w.heap.size w'.heap.size b → b < w'.heap.size) ∧ LLs w' (Grow P w.heap.size w'.heap.size) a L ∧ Ents w' (Grow P w.heap.size w'.heap.size) ai l :=
  ⟨fun b hg => by rcases hg with hg | hg
                  · have := hP b hg; have := hb.size; omega
                  · exact hg.2, (h.below hP hb).more (fun b hb => .inl hb), he.more (fun b hb => .inr ⟨by omega, hb.2⟩)⟩
/-- Which of so many it is. -/
def pickN (c : Int) (n : Nat) : Nat := (c % (n : Int)).toNat
theorem pickN_lt (c : Int) (n : Nat) (hn : 0 < n) : pickN c n < n := by
  have h1 := Int.emod_nonneg c (show (n : Int) ≠ 0 by omega)
  have h2 := Int.emod_lt_of_pos c (show (0 : Int) < n by omega)
  unfold pickN; omega
theorem pickN_eq (c : Int) (n : Nat) (hn : 0 < n) : (c.tmod n + n).tmod n = (pickN c n : Nat) := by
  obtain ⟨h1, h2⟩ := tmod_bounds c n hn
  have h3 := Int.emod_nonneg c (show (n : Int) ≠ 0 by omega)
  rw [Int.tmod_eq_emod_of_nonneg (by omega), Int.add_emod_right]
  have h4 : (c.tmod n) % (n : Int) = c % n := by
    have := Int.tmod_add_mul_tdiv c n
    conv => rhs; rw [← this]
    rw [Int.add_mul_emod_self_left]
  rw [h4]
  unfold pickN; omega
set_option maxRecDepth 100000 in
set_option maxHeartbeats 400000 in
theorem rcrash9_any (a : Option Addr) (L : List (List Ent)) (c : Nat) (ch : Int) (P : Nat → Prop) (w : World) (hP : ∀ b, P b → b < w.heap.size) (h : LLs w P a L) (hL : L ≠ []) (hn : L.length ≤ 1000000) (h0 : -9223372036854775808 ≤ ch) (h1 : ch ≤ 9223372036854775807) :
    Calls Try.prog 35 #[fdV a L.length c, .int .i64 ch] w (RetFdV w P [L.getD (pickN ch L.length) []] (.int .i64 (pickN ch L.length))) := by
  have hpos := List.length_pos_iff.2 hL
  obtain ⟨n, hnn⟩ : ∃ n, L.length = n := ⟨_, rfl⟩
  rw [hnn] at hpos hn ⊢
  have hlt := pickN_lt ch n hpos
  have heq := pickN_eq ch n hpos
  obtain ⟨m0, m1⟩ := tmod_bounds ch n hpos
  obtain ⟨ad, rfl, hab, ai, ci, q1, q2⟩ := h (pickN ch n) (by omega)
  have hget : L.getD (pickN ch n) [] = L[pickN ch n]'(by omega) := by rw [List.getD_eq_getElem?_getD, List.getElem?_eq_getElem (by omega)]; rfl
  rw [hget]
  obtain ⟨l, hl⟩ : ∃ l, L[pickN ch n]'(by omega) = l := ⟨_, rfl⟩
  rw [hl] at q1 q2 ⊢
  obtain ⟨k, hk⟩ : ∃ k, pickN ch n = k := ⟨_, rfl⟩
  rw [hk] at hlt heq q1 ⊢
  have hlt2 : k < n := by assumption
  obtain ⟨m, hm⟩ : ∃ m, ch.tmod (n : Int) = m := ⟨_, rfl⟩
  rw [hm] at heq m0 m1
  have heq2 := heq
  have hm2 := hm
  have hf := fr9_start w (some ad) n c
  have q3 := (hf.1.cell (by rw [add_block]; exact hP _ hab)).trans q1
  have E2 := Lib.hid q2
  clear hget hl hk hnn h q1 q2 hf hL
  have b0 : (0 : Int) ≤ (k : Int) := by omega
  have b1 : (k : Int) < (n : Int) := by omega
  go_enter Try.func35, Try.ntmps35
  go_wp2
  have hB : Below w.heap.size w (((w.alloc (.cells #[.slice (some ad) n c] 28)).alloc (.cells #[.slice (some ⟨w.heap.size + 1 + 1, 0, none⟩) 1 1] 28)).alloc (.cells #[.slice ai l.length ci] 39)) := (((Below.refl _ _).alloc (Nat.le_refl _) _).alloc (by simp) _).alloc (by simp; omega) _
  refine bodyPost_ret (v := .tuple #[fdV (some ⟨w.heap.size + 1 + 1, 0, none⟩) 1 1, .int .i64 k]) (by simp [results, Try.results35, go_sem]) rfl ⟨_, _, rfl, ?_, hB⟩
  refine lls_one (ci := ci) (.inr ⟨by simp; omega, by simp⟩) ?_ ((E2.out.below hP hB).more (fun b hb => .inl hb))
  simp [Addr.add, World.cell?_alloc_at]

/-- What Put does. -/
def putF (L : List (List Ent)) (s : ByteArray) (id : Int) : List (List Ent) := if (findE (nowL L) s).isSome = true then L else L ++ [withE (nowL L) ⟨s, id⟩]
set_option maxRecDepth 100000 in
set_option maxHeartbeats 1600000 in
theorem rput9_any (a : Option Addr) (L : List (List Ent)) (c : Nat) (s : ByteArray) (id : Int) (P : Nat → Prop) (w : World) (hP : ∀ b, P b → b < w.heap.size) (h : LLs w P a L) (hL : L ≠ []) (hn : L.length ≤ 1000000) (hl : (nowL L).length ≤ 999999) :
    Calls Try.prog 31 #[fdV a L.length c, .string s, .int .i64 id] w (RetFdV w P (putF L s id) (.bool (!(findE (nowL L) s).isSome))) := by
  have c1 := fun (W : World) (h : LLs W P a L) (hB : ∀ b, P b → b < W.heap.size) => rnow9_any a L c P W h hB hL hn
  have c4 := fun (W : World) (Q : Nat → Prop) (hQ : ∀ b, Q b → b < W.heap.size) (h : LLs W Q a L) => rthen9_any a L c Q W hQ h hL hn
  obtain ⟨n, hnn⟩ : ∃ n, L.length = n := ⟨_, rfl⟩
  have hp1 : (findE (nowL L) s).isSome = true → putF L s id = L := fun h => if_pos h
  have hp2 : (findE (nowL L) s).isSome = false → putF L s id = L ++ [withE (nowL L) ⟨s, id⟩] := fun h => if_neg (by simp [h])
  obtain ⟨pf, hpf⟩ : ∃ pf, putF L s id = pf := ⟨_, rfl⟩
  obtain ⟨bb, hbb⟩ : ∃ bb, (!(findE (nowL L) s).isSome) = bb := ⟨_, rfl⟩
  obtain ⟨l, hle⟩ : ∃ l, nowL L = l := ⟨_, rfl⟩
  rw [hpf, hbb]
  rw [hpf] at hp1 hp2
  simp only [hnn, hle] at c1 c4
  rw [hnn] at hn ⊢
  rw [hle] at hl hp1 hp2 hbb
  have c2 := fun (ai : Option Addr) (ci : Nat) (B : Nat → Prop) (W : World) (h : Ents W B ai l) => rfind9_any ai l ci s B W h (by omega)
  have c3 := fun (ai : Option Addr) (ci : Nat) (B : Nat → Prop) (W : World) (h : Ents W B ai l) (hB : ∀ b, B b → b < W.heap.size) => rwith_any ai l ci ⟨s, id⟩ B W h hB (by omega)
  have hf := fr9_start w a n c
  obtain ⟨r, hr⟩ : ∃ r, findE l s = r := ⟨_, rfl⟩
  obtain ⟨lw, hlw⟩ : ∃ lw, withE l ⟨s, id⟩ = lw := ⟨_, rfl⟩
  simp only [hr] at c2
  simp only [hlw] at c3
  rw [hr] at hp1 hp2 hbb
  rw [hlw] at hp2
  have P1 := Lib.hid hp1; have P2 := Lib.hid hp2; have BB := Lib.hid hbb
  clear hp1 hp2 hbb hpf
  have C1 := Lib.hid c1; have C2 := Lib.hid c2; have C3 := Lib.hid c3; have C4 := Lib.hid c4; have HF := Lib.hid hf; have H := Lib.hid h; have HN := Lib.hid hnn
  clear c1 c2 c3 c4 hf h hnn hle hr hlw hl
  go_enter Try.func31, Try.ntmps31
  go_wp2_with fail
  refine (C1.out _ (H.out.below hP HF.out.1) (fun b hb => Nat.lt_of_lt_of_le (hP b hb) HF.out.1.size)).mono ?_
  rintro e w1 ⟨ai, ci, rfl, he, hb1⟩
  have hf1 := fr9_on HF.out hb1
  have HF1 := Lib.hid hf1; have HE := Lib.hid he
  clear hf1 he hb1
  go_wp2_with fail
  refine (C2.out _ _ _ _ HE.out).mono ?_
  rintro e w2 ⟨rfl, rfl⟩
  obtain ⟨p0, p1, p2, p3, p4⟩ := HF1.out
  have P0 := Lib.hid p0
  clear p0
  cases r with
  | some id0 =>
    have HP := Lib.hid (⟨P0.out, p1, p2, p3, p4⟩ : Fr9 w a n c w1)
    go_wp2
    have hB : Below w.heap.size w (w1.setCell ⟨w.heap.size + 1, 0, none⟩ (.slice a n c)) := P0.out.setCell (by simp) _
    obtain rfl : pf = L := P1.out rfl
    obtain rfl : false = bb := BB.out
    refine bodyPost_ret (v := .tuple #[fdV a n c, .bool false]) (by simp [results, Try.results31, go_sem, p3]) rfl ⟨_, _, by rw [HN.out], (H.out.below hP hB).more (fun b hb => .inl hb), hB⟩
  | none =>
    have hfd : Fr9 w a n c w1.drew := ⟨P0.out.drew, p1, p2, p3, p4⟩
    have HFD := Lib.hid hfd
    clear p1 p2 p3 p4 hfd
    go_wp2_with fail
    go_region_held3 (fun w' => Below w.heap.size w w' ∧ w.heap.size + 2 ≤ w'.heap.size ∧ w'.cell? ⟨w.heap.size, 0, none⟩ = some (.slice a n c) ∧ (w'.cell? ⟨w.heap.size + 1, 0, none⟩).isSome = true ∧ w'.frozen? ⟨w.heap.size + 1, 0, none⟩ = false)
      (first | exact gr9_of HFD.out | exact gr9_on (by assumption) hb1 | exact gr9_put (by assumption) _)
      (first
        | (go_at_call 16; refine (C1.out _ (H.out.below hP (show Gr9 w a n c _ by assumption).1) (fun b hb => Nat.lt_of_lt_of_le (hP b hb) (show Gr9 w a n c _ by assumption).1.size)).mono ?_; rintro e w3 ⟨ai2, ci2, rfl, he2, hb1⟩; have HE2 := Lib.hid he2; have HF3 := Lib.hid (fr9_on HFD.out hb1); clear he2)
        | (go_at_call 49; refine (C3.out _ _ _ _ HE2.out (fun b hb => Nat.lt_of_lt_of_le (hP b hb) HF3.out.1.size)).mono ?_; rintro e w4 ⟨ai3, ci3, rfl, he3, hb1⟩; have HE3 := Lib.hid he3; have HF4 := Lib.hid (fr9_on HF3.out hb1); clear he3)
        | (go_at_call 48; refine (C4.out _ _ (grow_both hP HF4.out.1 H.out HF3.out.1.size HE3.out).1 (grow_both hP HF4.out.1 H.out HF3.out.1.size HE3.out).2.1 _ lw _ (grow_both hP HF4.out.1 H.out HF3.out.1.size HE3.out).2.2).mono ?_; rintro e w5 ⟨ad5, c5, rfl, hk5, hl5, hb1⟩; have HL5 := Lib.hid hl5; have HK5 := Lib.hid hk5; have hf5 := fr9_on HF4.out hb1; have z3 := hf5.2.2.2.1; have z4 := hf5.2.2.2.2; have HF5 := Lib.hid hf5; have HS5 := Lib.hid hb1.size; clear hl5 hk5 hf5))
    go_wp2
    obtain rfl : pf = L ++ [lw] := P2.out rfl
    obtain rfl : true = bb := BB.out
    exact bodyPost_ret (v := .tuple #[fdV (some ad5) (L.length + 1) c5, .bool true]) (by simp [results, Try.results31, go_sem, z3]) rfl (fd_end HL5.out HK5.out HF4.out HF5.out HS5.out)
/-- What Drop does. -/
def dropF (L : List (List Ent)) (s : ByteArray) : List (List Ent) := if (findE (nowL L) s).isSome = true then L ++ [withoutE (nowL L) s] else L
set_option maxRecDepth 100000 in
set_option maxHeartbeats 1600000 in
theorem rdrop9_any (a : Option Addr) (L : List (List Ent)) (c : Nat) (s : ByteArray) (P : Nat → Prop) (w : World) (hP : ∀ b, P b → b < w.heap.size) (h : LLs w P a L) (hL : L ≠ []) (hn : L.length ≤ 1000000) (hl : (nowL L).length ≤ 999999) :
    Calls Try.prog 32 #[fdV a L.length c, .string s] w (RetFdV w P (dropF L s) (.bool (findE (nowL L) s).isSome)) := by
  have c1 := fun (W : World) (h : LLs W P a L) (hB : ∀ b, P b → b < W.heap.size) => rnow9_any a L c P W h hB hL hn
  have c4 := fun (W : World) (Q : Nat → Prop) (hQ : ∀ b, Q b → b < W.heap.size) (h : LLs W Q a L) => rthen9_any a L c Q W hQ h hL hn
  obtain ⟨n, hnn⟩ : ∃ n, L.length = n := ⟨_, rfl⟩
  have hp1 : (findE (nowL L) s).isSome = false → dropF L s = L := fun h => if_neg (by simp [h])
  have hp2 : (findE (nowL L) s).isSome = true → dropF L s = L ++ [withoutE (nowL L) s] := fun h => if_pos h
  obtain ⟨pf, hpf⟩ : ∃ pf, dropF L s = pf := ⟨_, rfl⟩
  obtain ⟨bb, hbb⟩ : ∃ bb, (findE (nowL L) s).isSome = bb := ⟨_, rfl⟩
  obtain ⟨l, hle⟩ : ∃ l, nowL L = l := ⟨_, rfl⟩
  rw [hpf, hbb]
  rw [hpf] at hp1 hp2
  simp only [hnn, hle] at c1 c4
  rw [hnn] at hn ⊢
  rw [hle] at hl hp1 hp2 hbb
  have c2 := fun (ai : Option Addr) (ci : Nat) (B : Nat → Prop) (W : World) (h : Ents W B ai l) => rfind9_any ai l ci s B W h (by omega)
  have c3 := fun (ai : Option Addr) (ci : Nat) (B : Nat → Prop) (W : World) (h : Ents W B ai l) (hB : ∀ b, B b → b < W.heap.size) => rwithout_any ai l ci s B W h hB (by omega)
  have hf := fr9_start w a n c
  obtain ⟨r, hr⟩ : ∃ r, findE l s = r := ⟨_, rfl⟩
  obtain ⟨lw, hlw⟩ : ∃ lw, withoutE l s = lw := ⟨_, rfl⟩
  simp only [hr] at c2
  simp only [hlw] at c3
  rw [hr] at hp1 hp2 hbb
  rw [hlw] at hp2
  have P1 := Lib.hid hp1; have P2 := Lib.hid hp2; have BB := Lib.hid hbb
  clear hp1 hp2 hbb hpf
  have C1 := Lib.hid c1; have C2 := Lib.hid c2; have C3 := Lib.hid c3; have C4 := Lib.hid c4; have HF := Lib.hid hf; have H := Lib.hid h; have HN := Lib.hid hnn
  clear c1 c2 c3 c4 hf h hnn hle hr hlw hl
  go_enter Try.func32, Try.ntmps32
  go_wp2_with fail
  refine (C1.out _ (H.out.below hP HF.out.1) (fun b hb => Nat.lt_of_lt_of_le (hP b hb) HF.out.1.size)).mono ?_
  rintro e w1 ⟨ai, ci, rfl, he, hb1⟩
  have hf1 := fr9_on HF.out hb1
  have HF1 := Lib.hid hf1; have HE := Lib.hid he
  clear hf1 he hb1
  go_wp2_with fail
  refine (C2.out _ _ _ _ HE.out).mono ?_
  rintro e w2 ⟨rfl, rfl⟩
  obtain ⟨p0, p1, p2, p3, p4⟩ := HF1.out
  have P0 := Lib.hid p0
  clear p0
  cases r with
  | some id0 =>
    have hfd : Fr9 w a n c w1.drew := ⟨P0.out.drew, p1, p2, p3, p4⟩
    have HFD := Lib.hid hfd
    clear p1 p2 p3 p4 hfd
    go_wp2_with fail
    go_region_held3 (fun w' => Below w.heap.size w w' ∧ w.heap.size + 2 ≤ w'.heap.size ∧ w'.cell? ⟨w.heap.size, 0, none⟩ = some (.slice a n c) ∧ (w'.cell? ⟨w.heap.size + 1, 0, none⟩).isSome = true ∧ w'.frozen? ⟨w.heap.size + 1, 0, none⟩ = false)
      (first | exact gr9_of HFD.out | exact gr9_on (by assumption) hb1 | exact gr9_put (by assumption) _)
      (first
        | (go_at_call 16; refine (C1.out _ (H.out.below hP (show Gr9 w a n c _ by assumption).1) (fun b hb => Nat.lt_of_lt_of_le (hP b hb) (show Gr9 w a n c _ by assumption).1.size)).mono ?_; rintro e w3 ⟨ai2, ci2, rfl, he2, hb1⟩; have HE2 := Lib.hid he2; have HF3 := Lib.hid (fr9_on HFD.out hb1); clear he2)
        | (go_at_call 50; refine (C3.out _ _ _ _ HE2.out (fun b hb => Nat.lt_of_lt_of_le (hP b hb) HF3.out.1.size)).mono ?_; rintro e w4 ⟨ai3, ci3, rfl, he3, hb1⟩; have HE3 := Lib.hid he3; have HF4 := Lib.hid (fr9_on HF3.out hb1); clear he3)
        | (go_at_call 48; refine (C4.out _ _ (grow_both hP HF4.out.1 H.out HF3.out.1.size HE3.out).1 (grow_both hP HF4.out.1 H.out HF3.out.1.size HE3.out).2.1 _ lw _ (grow_both hP HF4.out.1 H.out HF3.out.1.size HE3.out).2.2).mono ?_; rintro e w5 ⟨ad5, c5, rfl, hk5, hl5, hb1⟩; have HL5 := Lib.hid hl5; have HK5 := Lib.hid hk5; have hf5 := fr9_on HF4.out hb1; have z3 := hf5.2.2.2.1; have z4 := hf5.2.2.2.2; have HF5 := Lib.hid hf5; have HS5 := Lib.hid hb1.size; clear hl5 hk5 hf5))
    go_wp2
    obtain rfl : pf = L ++ [lw] := P2.out rfl
    obtain rfl : true = bb := BB.out
    exact bodyPost_ret (v := .tuple #[fdV (some ad5) (L.length + 1) c5, .bool true]) (by simp [results, Try.results32, go_sem, z3]) rfl (fd_end HL5.out HK5.out HF4.out HF5.out HS5.out)
  | none =>
    have HP := Lib.hid (⟨P0.out, p1, p2, p3, p4⟩ : Fr9 w a n c w1)
    go_wp2
    have hB : Below w.heap.size w (w1.setCell ⟨w.heap.size + 1, 0, none⟩ (.slice a n c)) := P0.out.setCell (by simp) _
    obtain rfl : pf = L := P1.out rfl
    obtain rfl : false = bb := BB.out
    refine bodyPost_ret (v := .tuple #[fdV a n c, .bool false]) (by simp [results, Try.results32, go_sem, p3]) rfl ⟨_, _, by rw [HN.out], (H.out.below hP hB).more (fun b hb => .inl hb), hB⟩

/-- What Move does. -/
def moveF (L : List (List Ent)) (s d : ByteArray) : List (List Ent) :=
  match findE (nowL L) s with
  | none => L
  | some id => if s = d then L else L ++ [withE (withoutE (withoutE (nowL L) s) d) ⟨d, id⟩]
set_option maxRecDepth 100000 in
set_option maxHeartbeats 1600000 in
theorem rmove9_any (a : Option Addr) (L : List (List Ent)) (c : Nat) (s d : ByteArray) (P : Nat → Prop) (w : World) (hP : ∀ b, P b → b < w.heap.size) (h : LLs w P a L) (hL : L ≠ []) (hn : L.length ≤ 1000000) (hl : (nowL L).length ≤ 999999) :
    Calls Try.prog 33 #[fdV a L.length c, .string s, .string d] w (RetFdV w P (moveF L s d) (.bool (findE (nowL L) s).isSome)) := by
  have c1 := fun (W : World) (h : LLs W P a L) (hB : ∀ b, P b → b < W.heap.size) => rnow9_any a L c P W h hB hL hn
  have c4 := fun (W : World) (Q : Nat → Prop) (hQ : ∀ b, Q b → b < W.heap.size) (h : LLs W Q a L) => rthen9_any a L c Q W hQ h hL hn
  obtain ⟨n, hnn⟩ : ∃ n, L.length = n := ⟨_, rfl⟩
  have hp1 : findE (nowL L) s = none → moveF L s d = L := fun h => by unfold moveF; rw [h]
  have hp2 : ∀ id, findE (nowL L) s = some id → s = d → moveF L s d = L := fun id h e => by unfold moveF; rw [h]; exact if_pos e
  have hp3 : ∀ id, findE (nowL L) s = some id → ¬ s = d → moveF L s d = L ++ [withE (withoutE (withoutE (nowL L) s) d) ⟨d, id⟩] := fun id h e => by unfold moveF; rw [h]; exact if_neg e
  obtain ⟨pf, hpf⟩ : ∃ pf, moveF L s d = pf := ⟨_, rfl⟩
  obtain ⟨bb, hbb⟩ : ∃ bb, (findE (nowL L) s).isSome = bb := ⟨_, rfl⟩
  obtain ⟨l, hle⟩ : ∃ l, nowL L = l := ⟨_, rfl⟩
  rw [hpf, hbb]
  rw [hpf] at hp1 hp2 hp3
  simp only [hnn, hle] at c1 c4
  rw [hnn] at hn ⊢
  rw [hle] at hl hp1 hp2 hp3 hbb
  have c2 := fun (ai : Option Addr) (ci : Nat) (B : Nat → Prop) (W : World) (h : Ents W B ai l) => rfind9_any ai l ci s B W h (by omega)
  have o1 := withoutE_len l s
  have o2 := withoutE_len (withoutE l s) d
  have c3 := fun (ai : Option Addr) (ci : Nat) (B : Nat → Prop) (W : World) (h : Ents W B ai l) (hB : ∀ b, B b → b < W.heap.size) => rwithout_any ai l ci s B W h hB (by omega)
  obtain ⟨l1, hl1⟩ : ∃ l1, withoutE l s = l1 := ⟨_, rfl⟩
  simp only [hl1] at c3 hp3 o1 o2
  have c5 := fun (ai : Option Addr) (ci : Nat) (B : Nat → Prop) (W : World) (h : Ents W B ai l1) (hB : ∀ b, B b → b < W.heap.size) => rwithout_any ai l1 ci d B W h hB (by omega)
  obtain ⟨l2, hl2⟩ : ∃ l2, withoutE l1 d = l2 := ⟨_, rfl⟩
  simp only [hl2] at c5 hp3 o2
  have c6 := fun (id : Int) (ai : Option Addr) (ci : Nat) (B : Nat → Prop) (W : World) (h : Ents W B ai l2) (hB : ∀ b, B b → b < W.heap.size) => rwith_any ai l2 ci ⟨d, id⟩ B W h hB (by omega)
  have hf := fr9_start w a n c
  obtain ⟨r, hr⟩ : ∃ r, findE l s = r := ⟨_, rfl⟩
  simp only [hr] at c2
  rw [hr] at hp1 hp2 hp3 hbb
  have P1 := Lib.hid hp1; have P2 := Lib.hid hp2; have P3 := Lib.hid hp3; have BB := Lib.hid hbb
  clear hp1 hp2 hp3 hbb hpf
  have C1 := Lib.hid c1; have C2 := Lib.hid c2; have C3 := Lib.hid c3; have C4 := Lib.hid c4; have C5 := Lib.hid c5; have C6 := Lib.hid c6; have HF := Lib.hid hf; have H := Lib.hid h; have HN := Lib.hid hnn
  clear c1 c2 c3 c4 c5 c6 hf h hnn hle hr hl1 hl2 hl o1 o2
  go_enter Try.func33, Try.ntmps33
  go_wp2_with fail
  refine (C1.out _ (H.out.below hP HF.out.1) (fun b hb => Nat.lt_of_lt_of_le (hP b hb) HF.out.1.size)).mono ?_
  rintro e w1 ⟨ai, ci, rfl, he, hb1⟩
  have hf1 := fr9_on HF.out hb1
  have HF1 := Lib.hid hf1; have HE := Lib.hid he
  clear hf1 he hb1
  go_wp2_with fail
  refine (C2.out _ _ _ _ HE.out).mono ?_
  rintro e w2 ⟨rfl, rfl⟩
  obtain ⟨p0, p1, p2, p3, p4⟩ := HF1.out
  have P0 := Lib.hid p0
  clear p0
  cases r with
  | none =>
    go_wp2
    have hB : Below w.heap.size w (w1.setCell ⟨w.heap.size + 1, 0, none⟩ (.slice a n c)) := P0.out.setCell (by simp) _
    obtain rfl : pf = L := P1.out (by simp)
    obtain rfl : false = bb := BB.out
    refine bodyPost_ret (v := .tuple #[fdV a n c, .bool false]) (by simp [results, Try.results33, go_sem, p3]) rfl ⟨_, _, by rw [HN.out], (H.out.below hP hB).more (fun b hb => .inl hb), hB⟩
  | some id0 =>
    by_cases hsd : s = d
    · have hpf := P2.out id0 rfl hsd
      subst hsd
      have HPF := Lib.hid hpf
      clear hpf
      go_wp2
      have hB : Below w.heap.size w (w1.setCell ⟨w.heap.size + 1, 0, none⟩ (.slice a n c)) := P0.out.setCell (by simp) _
      obtain rfl : pf = L := HPF.out
      obtain rfl : true = bb := BB.out
      refine bodyPost_ret (v := .tuple #[fdV a n c, .bool true]) (by simp [results, Try.results33, go_sem, p3]) rfl ⟨_, _, by rw [HN.out], (H.out.below hP hB).more (fun b hb => .inl hb), hB⟩
    · have hne := str_ne hsd
      have HPF := Lib.hid (P3.out id0 rfl hsd)
      obtain ⟨lw, hlw⟩ : ∃ lw, withE l2 ⟨d, id0⟩ = lw := ⟨_, rfl⟩
      have c6 := C6.out id0
      rw [hlw] at c6 HPF
      have C7 := Lib.hid c6
      clear hsd hlw c6
      have hfd : Fr9 w a n c w1.drew := ⟨P0.out.drew, p1, p2, p3, p4⟩
      have HFD := Lib.hid hfd
      clear p1 p2 p3 p4 hfd
      go_wp2_with fail
      go_region_held3 (fun w' => Below w.heap.size w w' ∧ w.heap.size + 2 ≤ w'.heap.size ∧ w'.cell? ⟨w.heap.size, 0, none⟩ = some (.slice a n c) ∧ (w'.cell? ⟨w.heap.size + 1, 0, none⟩).isSome = true ∧ w'.frozen? ⟨w.heap.size + 1, 0, none⟩ = false)
        (first | exact gr9_of HFD.out | exact gr9_on (by assumption) hb1 | exact gr9_put (by assumption) _)
        (first
          | (go_at_call 16; refine (C1.out _ (H.out.below hP (show Gr9 w a n c _ by assumption).1) (fun b hb => Nat.lt_of_lt_of_le (hP b hb) (show Gr9 w a n c _ by assumption).1.size)).mono ?_; rintro e w3 ⟨ai2, ci2, rfl, he2, hb1⟩; have HE2 := Lib.hid he2; have HF3 := Lib.hid (fr9_on HFD.out hb1); clear he2)
          | (go_at_call 50; refine (C5.out _ _ _ _ HE3.out (fun b hb => hb.2)).mono ?_; rintro e w4b ⟨ai3b, ci3b, rfl, he3b, hb1⟩; have HE3b := Lib.hid he3b; have HF4b := Lib.hid (fr9_on HF4a.out hb1); clear he3b)
          | (go_at_call 50; refine (C3.out _ _ _ _ HE2.out (fun b hb => Nat.lt_of_lt_of_le (hP b hb) HF3.out.1.size)).mono ?_; rintro e w4a ⟨ai3a, ci3a, rfl, he3a, hb1⟩; have HE3 := Lib.hid he3a; have HF4a := Lib.hid (fr9_on HF3.out hb1); clear he3a)
          | (go_at_call 49; refine (C7.out _ _ _ _ HE3b.out (fun b hb => hb.2)).mono ?_; rintro e w4 ⟨ai3, ci3, rfl, he3, hb1⟩; have HE4 := Lib.hid he3; have HF4 := Lib.hid (fr9_on HF4b.out hb1); clear he3)
          | (go_at_call 48; refine (C4.out _ _ (grow_both hP HF4.out.1 H.out HF4b.out.1.size HE4.out).1 (grow_both hP HF4.out.1 H.out HF4b.out.1.size HE4.out).2.1 _ lw _ (grow_both hP HF4.out.1 H.out HF4b.out.1.size HE4.out).2.2).mono ?_; rintro e w5 ⟨ad5, c5, rfl, hk5, hl5, hb1⟩; have HL5 := Lib.hid hl5; have HK5 := Lib.hid hk5; have hf5 := fr9_on HF4.out hb1; have z3 := hf5.2.2.2.1; have z4 := hf5.2.2.2.2; have HF5 := Lib.hid hf5; have HS5 := Lib.hid hb1.size; clear hl5 hk5 hf5))
      go_wp2
      obtain rfl : pf = L ++ [lw] := HPF.out
      obtain rfl : true = bb := BB.out
      exact bodyPost_ret (v := .tuple #[fdV (some ad5) (L.length + 1) c5, .bool true]) (by simp [results, Try.results33, go_sem, z3]) rfl (fd_end HL5.out HK5.out HF4.out HF5.out HS5.out)
end Go.Proofs.Ytpcbfkcpefcnjaa
