/-
  The program's marks (layer 22), third part: Drop, Set. (Written by gen_mset22.py.)
-/
import Derived.Test.YtimlfgjljnkbcaaMarkDev
import Derived.Test.YtimlfgjljnkbcaaMarkCat
import Derived.Deep.RegionHeld3
namespace Go.Proofs.Ytimlfgjljnkbcaa
open Go.RowKit
set_option linter.unusedVariables false

theorem Mrks.take {w : World} {B : Nat → Prop} {a : Option Addr} {l : List Mrk} (h : Mrks w B a l) (n : Nat) : Mrks w B a (l.take n) := fun k hk => by
  have hk2 : k < l.length := by rw [List.length_take] at hk; omega
  obtain ⟨ad, e, hb, q0, q1⟩ := h k hk2
  exact ⟨ad, e, hb, by rw [List.getElem_take]; exact q0, by rw [List.getElem_take]; exact q1⟩
theorem add_add (ad : Addr) (n k : Nat) : (ad.add n).add k = ad.add (n + k) := by
  unfold Addr.add
  by_cases hk : k = 0
  · subst hk; simp
  · by_cases hn : n = 0
    · subst hn; simp [hk]
    · simp [hk, hn]; omega
theorem Mrks.drop {w : World} {B : Nat → Prop} {ad : Addr} {l : List Mrk} (h : Mrks w B (some ad) l) (n : Nat) : Mrks w B (some (ad.add (n * 2))) (l.drop n) := fun k hk => by
  have hk2 : n + k < l.length := by rw [List.length_drop] at hk; omega
  obtain ⟨ad', e, hb, q0, q1⟩ := h (n + k) hk2
  obtain rfl : ad = ad' := by injection e
  have e1 : (ad.add (n * 2)).add (k * 2) = ad.add ((n + k) * 2) := by rw [add_add]; congr 1; omega
  refine ⟨_, rfl, by rw [show (ad.add (n * 2)).block = ad.block by unfold Addr.add; split <;> rfl]; exact hb, by rw [e1, List.getElem_drop]; exact q0, by rw [e1, List.getElem_drop]; exact q1⟩
theorem Pcs.later {w W : World} {x : Pc} (h : Pcs w x) (hb : Below w.heap.size w W) : Pcs W x := ⟨(h.row.below (fun _ h => h) hb).more fun b hb2 => Nat.lt_of_lt_of_le hb2 hb.size, h.nil⟩
theorem Pcs.take {w : World} {a : Option Addr} {l : List Mrk} {c : Nat} (h : Pcs w ⟨a, l, c⟩) (n : Nat) : Pcs w ⟨a, l.take n, c⟩ := ⟨Mrks.take h.row n, h.nil⟩
/-- Two pieces, three pieces, one behind the other. -/
theorem cat2 {W : World} {p q : Pc} (i j : Nat) (hp : Pcs W p) (hq : Pcs W q) (hi : p.l.length = i) (hj : q.l.length = j) (hs : i + j ≤ 1000) (t : TypeId) :
    Calls Try.prog 33 #[.slice (some ⟨W.heap.size, 0, none⟩) 2 2] (W.alloc (.cells #[.slice p.a i p.c, .slice q.a j q.c] t)) (RetMrks (W.alloc (.cells #[.slice p.a i p.c, .slice q.a j q.c] t)) (p.l ++ q.l)) := by
  have hb : Below W.heap.size W (W.alloc (.cells #[.slice p.a i p.c, .slice q.a j q.c] t)) := (Below.refl W.heap.size W).alloc (Nat.le_refl _) _
  have h := concat22_any W.heap.size [p, q] (W.alloc (.cells #[.slice p.a i p.c, .slice q.a j q.c] t)) (by simp) (fun k hk => by
    match k, hk with
    | 0, _ => simp [World.cell?_alloc_new, Pc.v, hi]
    | 1, _ => simp [World.cell?_alloc_new, Pc.v, hj]) (fun k hk => by
    match k, hk with
    | 0, _ => exact hp.later hb
    | 1, _ => exact hq.later hb) (by simp) (by simp [sumP]; omega)
  have e : catP [p, q] = p.l ++ q.l := by simp [catP]
  rw [e] at h
  exact h
theorem cat3 {W : World} {p m q : Pc} (i n j : Nat) (hp : Pcs W p) (hm : Pcs W m) (hq : Pcs W q) (hi : p.l.length = i) (hn : m.l.length = n) (hj : q.l.length = j) (hs : i + n + j ≤ 1000) (t : TypeId) :
    Calls Try.prog 33 #[.slice (some ⟨W.heap.size, 0, none⟩) 3 3] (W.alloc (.cells #[.slice p.a i p.c, .slice m.a n m.c, .slice q.a j q.c] t)) (RetMrks (W.alloc (.cells #[.slice p.a i p.c, .slice m.a n m.c, .slice q.a j q.c] t)) (p.l ++ m.l ++ q.l)) := by
  have hb : Below W.heap.size W (W.alloc (.cells #[.slice p.a i p.c, .slice m.a n m.c, .slice q.a j q.c] t)) := (Below.refl W.heap.size W).alloc (Nat.le_refl _) _
  have h := concat22_any W.heap.size [p, m, q] (W.alloc (.cells #[.slice p.a i p.c, .slice m.a n m.c, .slice q.a j q.c] t)) (by simp) (fun k hk => by
    match k, hk with
    | 0, _ => simp [World.cell?_alloc_new, Pc.v, hi]
    | 1, _ => simp [World.cell?_alloc_new, Pc.v, hn]
    | 2, _ => simp [World.cell?_alloc_new, Pc.v, hj]) (fun k hk => by
    match k, hk with
    | 0, _ => exact hp.later hb
    | 1, _ => exact hm.later hb
    | 2, _ => exact hq.later hb) (by simp) (by simp [sumP]; omega)
  have e : catP [p, m, q] = p.l ++ m.l ++ q.l := by simp [catP]
  rw [e] at h
  exact h
/-- What lies behind the n first ones: its slice. -/
theorem Pcs.drop {w : World} {ad : Addr} {l : List Mrk} {c : Nat} (h : Pcs w ⟨some ad, l, c⟩) (n : Nat) : Pcs w ⟨some (ad.add (n * 2)), l.drop n, c - n⟩ := ⟨Mrks.drop h.row n, fun e => by cases e⟩
theorem pcs_none (w : World) (a : Addr) (c : Nat) : Pcs w ⟨some a, [], c⟩ := ⟨fun k hk => absurd hk (by simp), fun e => by cases e⟩

set_option maxRecDepth 100000 in
set_option maxHeartbeats 1600000 in
theorem mdrop_any (a : Option Addr) (l : List Mrk) (c : Nat) (s : ByteArray) (w : World) (hp : Pcs w ⟨a, l, c⟩) (hlc : l.length ≤ c) (hc : c ≤ maxLen) (hl : l.length ≤ 40) (hri : riseM l = true) :
    Calls Try.prog 16 #[.slice a l.length c, .string s] w (RetSet w (drpM l s)) := by
  unfold maxLen at hc
  have hr : Mrks w (· < w.heap.size) a l := hp.row
  have cf := mfind_name a l c s _ w hr (fun _ h => h) (by omega) (fun W x _ _ => name_of x W)
  by_cases hi : l.findIdx (nmB s) < l.length
  case neg =>
    have e2 : drpM l s = ([], 8) := by unfold drpM; rw [if_neg hi]
    rw [e2]
    rw [decide_eq_false hi] at cf
    obtain ⟨n, hn⟩ : ∃ n, l.length = n := ⟨_, rfl⟩
    rw [hn] at cf ⊢
    obtain ⟨i, he⟩ : ∃ i, l.findIdx (nmB s) = i := ⟨_, rfl⟩
    rw [he] at cf
    have CF := Lib.hid cf
    clear hr cf hi he hn e2 hp hri hlc hl
    go_enter Try.func16, Try.ntmps16
    go_wp2_with fail
    refine CF.out.mono ?_
    rintro e w1 ⟨rfl, hb1⟩
    go_wp2
    go_ret2
    exact ⟨none, 0, rfl, fun k hk => absurd hk (by simp), hb1⟩
  have e2 : drpM l s = (l.take (l.findIdx (nmB s)) ++ l.drop (l.findIdx (nmB s) + 1), 0) := by unfold drpM; rw [if_pos hi, drop_rise hri hi]
  rw [e2]
  rw [decide_eq_true hi] at cf
  obtain ⟨i, he⟩ : ∃ i, l.findIdx (nmB s) = i := ⟨_, rfl⟩
  rw [he] at hi cf ⊢
  obtain ⟨ad, rfl⟩ : ∃ ad, a = some ad := by
    obtain ⟨ad, e, -⟩ := hr i hi
    exact ⟨ad, e⟩
  have ht := hp.take i
  have hd := hp.drop (i + 1)
  have hd0 : c = i + 1 → l.drop (i + 1) = [] := fun h => List.drop_eq_nil_of_le (by omega)
  have htl : (l.take i).length = i := by rw [List.length_take]; omega
  have hdl : (l.drop (i + 1)).length = l.length - (i + 1) := by rw [List.length_drop]
  obtain ⟨n, hn⟩ : ∃ n, l.length = n := ⟨_, rfl⟩
  rw [hn] at hi hl cf hlc hdl ⊢
  obtain ⟨T, hT⟩ : ∃ T, l.take i = T := ⟨_, rfl⟩
  obtain ⟨D, hD⟩ : ∃ D, l.drop (i + 1) = D := ⟨_, rfl⟩
  rw [hT] at ht htl ⊢
  rw [hD] at hd hd0 hdl ⊢
  have CF := Lib.hid cf; have HT := Lib.hid ht; have HD := Lib.hid hd; have HD0 := Lib.hid hd0; have HTL := Lib.hid htl; have HDL := Lib.hid hdl
  clear hr cf he hn e2 hp hri ht hd hd0 htl hdl hT hD
  have z0 : (0 : Int) ≤ (i : Int) := by omega
  have z1 : (i : Int) ≤ (c : Int) := by omega
  have z2 : (i : Int) + 1 ≤ (n : Int) := by omega
  have z3 : (0 : Int) ≤ (i : Int) + 1 := by omega
  have z4 : (n : Int) ≤ (c : Int) := by omega
  have z5 : ((i : Int) + 1).toNat = i + 1 := by omega
  have z6 : IntKind.i64.wrap ((i : Int) + 1) = (i : Int) + 1 := by rw [IntKind.wrap_i64]; omega
  by_cases hce : c = i + 1
  · have hn1 : n = i + 1 := by omega
    have D0 := HD0.out hce
    subst hce
    subst hn1
    subst D0
    have z7 : (i : Int) ≤ (i : Int) + 1 := by omega
    clear HD HD0
    go_enter Try.func16, Try.ntmps16
    go_wp2_with fail
    refine CF.out.mono ?_
    rintro e w1 ⟨rfl, hb1⟩
    have HB1 := Lib.hid hb1
    clear hb1
    go_wp2_with fail
    refine wp_region_held_drew (S := (fun w' : World => Below w.heap.size w w')) (by kernel_rfl) HB1.out.drew (fun hHeld => ?_)
    refine wpAnyH_take (i := 0) (v := ?_) (by simp only [List.getElem?_toArray, List.getElem?_cons_zero]; rfl) (by kernel_rfl) (by kernel_rfl) (by kernel_rfl) (fun _ _ _ h => by exact h) (Or.inl ⟨by rfl, ?_⟩) (by assumption) ?_
    rotate_left
    · (intro w hSw; (try dsimp only at hSw); go_simp; try with_reducible rfl)
    try simp only [Act.put, List.setIfInBounds_toArray, List.set_cons_zero, List.set_cons_succ]
    refine wpAnyH_take (i := 1) (v := ?_) (by simp only [List.getElem?_toArray, List.getElem?_cons_succ, List.getElem?_cons_zero]; rfl) (by kernel_rfl) (by kernel_rfl) (by kernel_rfl) (fun _ _ _ h => by exact h) (Or.inl ⟨by rfl, ?_⟩) (by assumption) ?_
    rotate_left
    · (intro w hSw; (try dsimp only at hSw); go_simp; try with_reducible rfl)
    try simp only [Act.put, List.setIfInBounds_toArray, List.set_cons_zero, List.set_cons_succ]
    refine wpAnyH_take (i := 2) (v := ?_) (by simp only [List.getElem?_toArray, List.getElem?_cons_succ, List.getElem?_cons_zero]; rfl) (by kernel_rfl) (by kernel_rfl) (by kernel_rfl) (fun _ _ _ h => by exact h) (Or.inl ⟨by rfl, ?_⟩) (by assumption) ?_
    rotate_left
    · (intro w hSw; (try dsimp only at hSw); go_simp; try with_reducible rfl)
    try simp only [Act.put, List.setIfInBounds_toArray, List.set_cons_zero, List.set_cons_succ]
    refine wpAnyH_take (i := 3) (v := ?_) (by simp only [List.getElem?_toArray, List.getElem?_cons_succ, List.getElem?_cons_zero]; rfl) (by kernel_rfl) (by kernel_rfl) (by kernel_rfl) (fun _ _ _ h => by exact h) (Or.inl ⟨by rfl, ?_⟩) (by assumption) ?_
    rotate_left
    · (intro w hSw; (try dsimp only at hSw); go_simp; try with_reducible rfl)
    try simp only [Act.put, List.setIfInBounds_toArray, List.set_cons_zero, List.set_cons_succ]
    refine wpAnyH_take (i := 4) (v := ?_) (by simp only [List.getElem?_toArray, List.getElem?_cons_succ, List.getElem?_cons_zero]; rfl) (by kernel_rfl) (by kernel_rfl) (by kernel_rfl) (fun _ _ _ h => by exact h) (Or.inl ⟨by rfl, ?_⟩) (by assumption) ?_
    rotate_left
    · (intro w hSw; (try dsimp only at hSw); go_simp; try with_reducible rfl)
    try simp only [Act.put, List.setIfInBounds_toArray, List.set_cons_zero, List.set_cons_succ]
    refine wpAnyH_take (i := 5) (v := ?_) (by simp only [List.getElem?_toArray, List.getElem?_cons_succ, List.getElem?_cons_zero]; rfl) (by kernel_rfl) (by kernel_rfl) (by kernel_rfl) (fun _ _ _ h => by exact h) (Or.inl ⟨by rfl, ?_⟩) (by assumption) ?_
    rotate_left
    · (intro w hSw; (try dsimp only at hSw); go_simp; try with_reducible rfl)
    try simp only [Act.put, List.setIfInBounds_toArray, List.set_cons_zero, List.set_cons_succ]
    refine wpAnyH_take (i := 6) (v := ?_) (by simp only [List.getElem?_toArray, List.getElem?_cons_succ, List.getElem?_cons_zero]; rfl) (by kernel_rfl) (by kernel_rfl) (by kernel_rfl) (fun _ _ _ h => by exact h) (Or.inl ⟨by rfl, ?_⟩) (by assumption) ?_
    rotate_left
    · (intro w hSw; (try dsimp only at hSw); go_simp; try with_reducible rfl)
    try simp only [Act.put, List.setIfInBounds_toArray, List.set_cons_zero, List.set_cons_succ]
    refine wpAnyH_ready (rs := [7]) (by kernel_rfl) (by simp) ?_
    refine AllReadyH.cons (by simp only [List.getElem?_toArray, List.getElem?_cons_succ, List.getElem?_cons_zero]; rfl) (fun K hK => ?_) AllReadyH.nil
    go_simp
    have HB2 := Lib.hid (HB1.out.drew.alloc HB1.out.size (.cells #[.slice (some ad) i (i + 1), .slice (some ad) 0 0] 22)); have CC := Lib.hid (cat2 (W := w1.drew) (p := ⟨some ad, T, (i + 1)⟩) (q := ⟨some ad, [], 0⟩) i 0 (HT.out.later HB1.out.drew) (pcs_none _ _ _) HTL.out rfl (by omega) 22)
    try go_wp2_with fail
    refine hK.out _ _ ?_ (fun hHeld => ?_)
    · exact HB2.out
    clear hK K
    try simp only [Act.put, List.setIfInBounds_toArray, List.set_cons_zero, List.set_cons_succ]
    refine wpAnyH_ready (rs := [8]) (by kernel_rfl) (by simp) ?_
    refine AllReadyH.cons (by simp only [List.getElem?_toArray, List.getElem?_cons_succ, List.getElem?_cons_zero]; rfl) (fun K hK => ?_) AllReadyH.nil
    go_simp
    (go_at_call 33; refine (CC.out).mono ?_; rintro e w3 ⟨a3, c3, rfl, hm3, hb3⟩; have HB3 := Lib.hid (HB2.out.trans (hb3.mono HB2.out.size)); have HM3 := Lib.hid (hm3.more (B' := fun b => w.heap.size ≤ b ∧ b < w3.heap.size) (fun b hb => ⟨Nat.le_trans HB2.out.size hb.1, hb.2⟩)); clear hb3 hm3)
    try go_wp2_with fail
    refine hK.out _ _ ?_ (fun hHeld => ?_)
    · exact HB3.out
    clear hK K
    try simp only [Act.put, List.setIfInBounds_toArray, List.set_cons_zero, List.set_cons_succ]
    refine wpAnyH_take (i := 9) (v := ?_) (by simp only [List.getElem?_toArray, List.getElem?_cons_succ, List.getElem?_cons_zero]; rfl) (by kernel_rfl) (by kernel_rfl) (by kernel_rfl) (fun _ _ _ h => by exact h) (Or.inl ⟨by rfl, ?_⟩) (by assumption) ?_
    rotate_left
    · (intro w hSw; (try dsimp only at hSw); go_simp; try with_reducible rfl)
    try simp only [Act.put, List.setIfInBounds_toArray, List.set_cons_zero, List.set_cons_succ]
    refine wpAnyH_take (i := 10) (v := ?_) (by simp only [List.getElem?_toArray, List.getElem?_cons_succ, List.getElem?_cons_zero]; rfl) (by kernel_rfl) (by kernel_rfl) (by kernel_rfl) (fun _ _ _ h => by exact h) (Or.inl ⟨by rfl, ?_⟩) (by assumption) ?_
    rotate_left
    · (intro w hSw; (try dsimp only at hSw); go_simp; try with_reducible rfl)
    try simp only [Act.put, List.setIfInBounds_toArray, List.set_cons_zero, List.set_cons_succ]
    refine wpAnyH_done (by kernel_rfl) ?_ _
    go_wp2_with fail
    go_ret2
    exact ⟨a3, c3, by simp, HM3.out, HB3.out⟩

  · clear HD0
    go_enter Try.func16, Try.ntmps16
    go_wp2_with fail
    refine CF.out.mono ?_
    rintro e w1 ⟨rfl, hb1⟩
    have HB1 := Lib.hid hb1
    clear hb1
    go_wp2_with fail
    refine wp_region_held_drew (S := (fun w' : World => Below w.heap.size w w')) (by kernel_rfl) HB1.out.drew (fun hHeld => ?_)
    refine wpAnyH_take (i := 0) (v := ?_) (by simp only [List.getElem?_toArray, List.getElem?_cons_zero]; rfl) (by kernel_rfl) (by kernel_rfl) (by kernel_rfl) (fun _ _ _ h => by exact h) (Or.inl ⟨by rfl, ?_⟩) (by assumption) ?_
    rotate_left
    · (intro w hSw; (try dsimp only at hSw); go_simp; try with_reducible rfl)
    try simp only [Act.put, List.setIfInBounds_toArray, List.set_cons_zero, List.set_cons_succ]
    refine wpAnyH_take (i := 1) (v := ?_) (by simp only [List.getElem?_toArray, List.getElem?_cons_succ, List.getElem?_cons_zero]; rfl) (by kernel_rfl) (by kernel_rfl) (by kernel_rfl) (fun _ _ _ h => by exact h) (Or.inl ⟨by rfl, ?_⟩) (by assumption) ?_
    rotate_left
    · (intro w hSw; (try dsimp only at hSw); go_simp; try with_reducible rfl)
    try simp only [Act.put, List.setIfInBounds_toArray, List.set_cons_zero, List.set_cons_succ]
    refine wpAnyH_take (i := 2) (v := ?_) (by simp only [List.getElem?_toArray, List.getElem?_cons_succ, List.getElem?_cons_zero]; rfl) (by kernel_rfl) (by kernel_rfl) (by kernel_rfl) (fun _ _ _ h => by exact h) (Or.inl ⟨by rfl, ?_⟩) (by assumption) ?_
    rotate_left
    · (intro w hSw; (try dsimp only at hSw); go_simp; try with_reducible rfl)
    try simp only [Act.put, List.setIfInBounds_toArray, List.set_cons_zero, List.set_cons_succ]
    refine wpAnyH_take (i := 3) (v := ?_) (by simp only [List.getElem?_toArray, List.getElem?_cons_succ, List.getElem?_cons_zero]; rfl) (by kernel_rfl) (by kernel_rfl) (by kernel_rfl) (fun _ _ _ h => by exact h) (Or.inl ⟨by rfl, ?_⟩) (by assumption) ?_
    rotate_left
    · (intro w hSw; (try dsimp only at hSw); go_simp; try with_reducible rfl)
    try simp only [Act.put, List.setIfInBounds_toArray, List.set_cons_zero, List.set_cons_succ]
    refine wpAnyH_take (i := 4) (v := ?_) (by simp only [List.getElem?_toArray, List.getElem?_cons_succ, List.getElem?_cons_zero]; rfl) (by kernel_rfl) (by kernel_rfl) (by kernel_rfl) (fun _ _ _ h => by exact h) (Or.inl ⟨by rfl, ?_⟩) (by assumption) ?_
    rotate_left
    · (intro w hSw; (try dsimp only at hSw); go_simp; try with_reducible rfl)
    try simp only [Act.put, List.setIfInBounds_toArray, List.set_cons_zero, List.set_cons_succ]
    refine wpAnyH_take (i := 5) (v := ?_) (by simp only [List.getElem?_toArray, List.getElem?_cons_succ, List.getElem?_cons_zero]; rfl) (by kernel_rfl) (by kernel_rfl) (by kernel_rfl) (fun _ _ _ h => by exact h) (Or.inl ⟨by rfl, ?_⟩) (by assumption) ?_
    rotate_left
    · (intro w hSw; (try dsimp only at hSw); go_simp; try with_reducible rfl)
    try simp only [Act.put, List.setIfInBounds_toArray, List.set_cons_zero, List.set_cons_succ]
    refine wpAnyH_take (i := 6) (v := ?_) (by simp only [List.getElem?_toArray, List.getElem?_cons_succ, List.getElem?_cons_zero]; rfl) (by kernel_rfl) (by kernel_rfl) (by kernel_rfl) (fun _ _ _ h => by exact h) (Or.inl ⟨by rfl, ?_⟩) (by assumption) ?_
    rotate_left
    · (intro w hSw; (try dsimp only at hSw); go_simp; try with_reducible rfl)
    try simp only [Act.put, List.setIfInBounds_toArray, List.set_cons_zero, List.set_cons_succ]
    refine wpAnyH_ready (rs := [7]) (by kernel_rfl) (by simp) ?_
    refine AllReadyH.cons (by simp only [List.getElem?_toArray, List.getElem?_cons_succ, List.getElem?_cons_zero]; rfl) (fun K hK => ?_) AllReadyH.nil
    go_simp
    have HB2 := Lib.hid (HB1.out.drew.alloc HB1.out.size (.cells #[.slice (some ad) i c, .slice (some (ad.add ((i + 1) * 2))) (n - (i + 1)) (c - (i + 1))] 22)); have CC := Lib.hid (cat2 (W := w1.drew) (p := ⟨some ad, T, c⟩) (q := ⟨some (ad.add ((i + 1) * 2)), D, c - (i + 1)⟩) i (n - (i + 1)) (HT.out.later HB1.out.drew) (HD.out.later HB1.out.drew) HTL.out HDL.out (by omega) 22)
    try go_wp2_with fail
    refine hK.out _ _ ?_ (fun hHeld => ?_)
    · exact HB2.out
    clear hK K
    try simp only [Act.put, List.setIfInBounds_toArray, List.set_cons_zero, List.set_cons_succ]
    refine wpAnyH_ready (rs := [8]) (by kernel_rfl) (by simp) ?_
    refine AllReadyH.cons (by simp only [List.getElem?_toArray, List.getElem?_cons_succ, List.getElem?_cons_zero]; rfl) (fun K hK => ?_) AllReadyH.nil
    go_simp
    (go_at_call 33; refine (CC.out).mono ?_; rintro e w3 ⟨a3, c3, rfl, hm3, hb3⟩; have HB3 := Lib.hid (HB2.out.trans (hb3.mono HB2.out.size)); have HM3 := Lib.hid (hm3.more (B' := fun b => w.heap.size ≤ b ∧ b < w3.heap.size) (fun b hb => ⟨Nat.le_trans HB2.out.size hb.1, hb.2⟩)); clear hb3 hm3)
    try go_wp2_with fail
    refine hK.out _ _ ?_ (fun hHeld => ?_)
    · exact HB3.out
    clear hK K
    try simp only [Act.put, List.setIfInBounds_toArray, List.set_cons_zero, List.set_cons_succ]
    refine wpAnyH_take (i := 9) (v := ?_) (by simp only [List.getElem?_toArray, List.getElem?_cons_succ, List.getElem?_cons_zero]; rfl) (by kernel_rfl) (by kernel_rfl) (by kernel_rfl) (fun _ _ _ h => by exact h) (Or.inl ⟨by rfl, ?_⟩) (by assumption) ?_
    rotate_left
    · (intro w hSw; (try dsimp only at hSw); go_simp; try with_reducible rfl)
    try simp only [Act.put, List.setIfInBounds_toArray, List.set_cons_zero, List.set_cons_succ]
    refine wpAnyH_take (i := 10) (v := ?_) (by simp only [List.getElem?_toArray, List.getElem?_cons_succ, List.getElem?_cons_zero]; rfl) (by kernel_rfl) (by kernel_rfl) (by kernel_rfl) (fun _ _ _ h => by exact h) (Or.inl ⟨by rfl, ?_⟩) (by assumption) ?_
    rotate_left
    · (intro w hSw; (try dsimp only at hSw); go_simp; try with_reducible rfl)
    try simp only [Act.put, List.setIfInBounds_toArray, List.set_cons_zero, List.set_cons_succ]
    refine wpAnyH_done (by kernel_rfl) ?_ _
    go_wp2_with fail
    go_ret2
    exact ⟨a3, c3, by simp, HM3.out, HB3.out⟩


/-- The mark that is put in, laid in a row of its own. -/
theorem pcs_one (W : World) (xn : ByteArray) (xp : Int) : Pcs (W.alloc (.cells #[.string xn, .int .i64 xp] 30)) ⟨some ⟨W.heap.size, 0, none⟩, [⟨xn, xp⟩], 1⟩ :=
  ⟨fun k hk => by
    obtain rfl : k = 0 := by simpa using hk
    exact ⟨_, rfl, by simp, by simp [Addr.add, World.cell?_alloc_new], by simp [Addr.add, World.cell?_alloc_new]⟩, fun e => by cases e⟩

set_option maxRecDepth 100000 in
set_option maxHeartbeats 1600000 in
theorem mset_name (a : Option Addr) (l : List Mrk) (c : Nat) (x : Mrk) (w : World) (hp : Pcs w ⟨a, l, c⟩) (hlc : l.length ≤ c) (hc : c ≤ maxLen) (hl : l.length ≤ 40) (hx : x.name.size ≤ maxLen) (hm : markB x.name.data.toList = false) :
    Calls Try.prog 14 #[.slice a l.length c, x.v] w (RetSet w ([], 7)) := by
  obtain ⟨xn, xp⟩ := x
  have cm := omay_any xn hx
  rw [hm] at cm
  have CM := Lib.hid cm; clear cm hm
  go_enter Try.func14, Try.ntmps14
  go_wp2_with fail
  refine (CM.out _).mono ?_
  rintro e w1 ⟨rfl, rfl⟩
  go_wp2
  go_ret2
  exact ⟨none, 0, rfl, fun k hk => absurd hk (by simp), (Below.refl w.heap.size w).alloc (Nat.le_refl _) _⟩

theorem st_keep {wX w2 w3 : World} {b : Nat} {x y : Value} (h : Below wX.heap.size wX w2 ∧ w2.cell? ⟨b, 0, none⟩ = some x ∧ w2.cell? ⟨b, 1, none⟩ = some y) (hb : Below w2.heap.size w2 w3) (hx : b < wX.heap.size) : Below wX.heap.size wX w3 ∧ w3.cell? ⟨b, 0, none⟩ = some x ∧ w3.cell? ⟨b, 1, none⟩ = some y :=
  have hz : b < w2.heap.size := Nat.lt_of_lt_of_le hx h.1.size
  ⟨h.1.trans (hb.mono h.1.size), (hb.cell (p := ⟨b, 0, none⟩) hz).trans h.2.1, (hb.cell (p := ⟨b, 1, none⟩) hz).trans h.2.2⟩

set_option maxRecDepth 100000 in
set_option maxHeartbeats 1600000 in
theorem mset_old (a : Option Addr) (l : List Mrk) (c : Nat) (x : Mrk) (w : World) (hp : Pcs w ⟨a, l, c⟩) (hlc : l.length ≤ c) (hc : c ≤ maxLen) (hl : l.length ≤ 40) (hx : x.name.size ≤ maxLen) (hri : riseM l = true) (hm : markB x.name.data.toList = true) (hi : l.findIdx (nmB x.name) < l.length) :
    Calls Try.prog 14 #[.slice a l.length c, x.v] w (RetSet w (withM (dropM l x.name) x, 0)) := by
  rw [set_rise hri hi]
  unfold maxLen at hc
  obtain ⟨xn, xp⟩ := x
  have cm := omay_any xn hx
  obtain ⟨wX, hwX⟩ : ∃ wX, w.alloc (.cells #[.string xn, .int .i64 xp] 30) = wX := ⟨_, rfl⟩
  have hb0 : Below w.heap.size w (w.alloc (.cells #[.string xn, .int .i64 xp] 30)) := (Below.refl w.heap.size w).alloc (Nat.le_refl _) _
  obtain ⟨x0, x1⟩ := box_mrk (N := w.heap.size + 1) (by omega) (Below.refl (w.heap.size + 1) (w.alloc (.cells #[.string xn, .int .i64 xp] 30)))
  have hX1 : w.heap.size + 1 ≤ wX.heap.size := by rw [← hwX]; simp
  rw [hwX] at x0 x1 hb0
  have hpX : Pcs wX ⟨a, l, c⟩ := hp.later hb0
  have hr : Mrks wX (· < wX.heap.size) a l := hpX.row
  have cf := mfind_name a l c xn _ wX hr (fun _ h => h) (by omega) (fun W x _ _ => name_of x W)
  have HEND := Lib.hid (fun w' (h : Below wX.heap.size wX w') => hb0.trans (h.mono (by omega)))
  have hi : l.findIdx (nmB xn) < l.length := hi
  rw [hm] at cm
  rw [decide_eq_true hi] at cf
  show Calls _ _ _ w (RetSet w (l.take (l.findIdx (nmB xn)) ++ [⟨xn, xp⟩] ++ l.drop (l.findIdx (nmB xn) + 1), 0))
  obtain ⟨i, he⟩ : ∃ i, l.findIdx (nmB xn) = i := ⟨_, rfl⟩
  rw [he] at hi cf ⊢
  obtain ⟨ad, rfl⟩ : ∃ ad, a = some ad := by
    obtain ⟨ad, e, -⟩ := hr i hi
    exact ⟨ad, e⟩
  have ht := hpX.take i
  have hd := hpX.drop (i + 1)
  have hd0 : c = i + 1 → l.drop (i + 1) = [] := fun h => List.drop_eq_nil_of_le (by omega)
  have htl : (l.take i).length = i := by rw [List.length_take]; omega
  have hdl : (l.drop (i + 1)).length = l.length - (i + 1) := by rw [List.length_drop]
  obtain ⟨n, hn⟩ : ∃ n, l.length = n := ⟨_, rfl⟩
  rw [hn] at hi hl cf hlc hdl ⊢
  obtain ⟨T, hT⟩ : ∃ T, l.take i = T := ⟨_, rfl⟩
  obtain ⟨D, hD⟩ : ∃ D, l.drop (i + 1) = D := ⟨_, rfl⟩
  rw [hT] at ht htl ⊢
  rw [hD] at hd hd0 hdl ⊢
  have CM := Lib.hid cm; have CF := Lib.hid cf; have HT := Lib.hid ht; have HD := Lib.hid hd; have HD0 := Lib.hid hd0; have HTL := Lib.hid htl; have HDL := Lib.hid hdl; have HXB := Lib.hid (show w.heap.size < wX.heap.size by omega)
  clear cm hr cf he hn hp hpX hri ht hd hd0 htl hdl hT hD hb0 hX1 hm hx
  have z0 : (0 : Int) ≤ (i : Int) := by omega
  have z1 : (i : Int) ≤ (c : Int) := by omega
  have z2 : (i : Int) + 1 ≤ (n : Int) := by omega
  have z3 : (0 : Int) ≤ (i : Int) + 1 := by omega
  have z4 : (n : Int) ≤ (c : Int) := by omega
  have z5 : ((i : Int) + 1).toNat = i + 1 := by omega
  have z6 : IntKind.i64.wrap ((i : Int) + 1) = (i : Int) + 1 := by rw [IntKind.wrap_i64]; omega
  by_cases hce : c = i + 1
  · have hn1 : n = i + 1 := by omega
    have D0 := HD0.out hce
    subst hce
    subst hn1
    subst D0
    have z7 : (i : Int) ≤ (i : Int) + 1 := by omega
    clear HD HD0
    go_enter Try.func14, Try.ntmps14
    go_wp2_with fail
    refine (CM.out _).mono ?_
    rintro e w0 ⟨rfl, rfl⟩
    go_wp2_with fail
    refine CF.out.mono ?_
    rintro e w1 ⟨rfl, hb1⟩
    have HB1 := Lib.hid hb1
    clear hwX
    clear hb1
    have y0 := (HB1.out.cell (p := ⟨w.heap.size, 0, none⟩) HXB.out).trans x0
    have y1 := (HB1.out.cell (p := ⟨w.heap.size, 1, none⟩) HXB.out).trans x1
    go_wp2_with fail
    refine wp_region_held_drew (S := (fun w' : World => Below wX.heap.size wX w' ∧ w'.cell? ⟨w.heap.size, 0, none⟩ = some (.string xn) ∧ w'.cell? ⟨w.heap.size, 1, none⟩ = some (.int .i64 xp))) (by kernel_rfl) ⟨HB1.out.drew, y0, y1⟩ (fun hHeld => ?_)
    refine wpAnyH_take (i := 0) (v := ?_) (by simp only [List.getElem?_toArray, List.getElem?_cons_zero]; rfl) (by kernel_rfl) (by kernel_rfl) (by kernel_rfl) (fun _ _ _ h => by exact h) (Or.inl ⟨by rfl, ?_⟩) (by assumption) ?_
    rotate_left
    · (intro w hSw; (try dsimp only at hSw); go_simp; try with_reducible rfl)
    try simp only [Act.put, List.setIfInBounds_toArray, List.set_cons_zero, List.set_cons_succ]
    refine wpAnyH_take (i := 1) (v := ?_) (by simp only [List.getElem?_toArray, List.getElem?_cons_succ, List.getElem?_cons_zero]; rfl) (by kernel_rfl) (by kernel_rfl) (by kernel_rfl) (fun _ _ _ h => by exact h) (Or.inl ⟨by rfl, ?_⟩) (by assumption) ?_
    rotate_left
    · (intro w hSw; (try dsimp only at hSw); go_simp; try with_reducible rfl)
    try simp only [Act.put, List.setIfInBounds_toArray, List.set_cons_zero, List.set_cons_succ]
    refine wpAnyH_take (i := 2) (v := ?_) (by simp only [List.getElem?_toArray, List.getElem?_cons_succ, List.getElem?_cons_zero]; rfl) (by kernel_rfl) (by kernel_rfl) (by kernel_rfl) (fun _ _ _ h => by exact h) (Or.inl ⟨by rfl, ?_⟩) (by assumption) ?_
    rotate_left
    · (intro w hSw; (try dsimp only at hSw); go_simp; try with_reducible rfl)
    try simp only [Act.put, List.setIfInBounds_toArray, List.set_cons_zero, List.set_cons_succ]
    refine wpAnyH_take (i := 3) (v := ?_) (by simp only [List.getElem?_toArray, List.getElem?_cons_succ, List.getElem?_cons_zero]; rfl) (by kernel_rfl) (by kernel_rfl) (by kernel_rfl) (fun _ _ _ h => by exact h) (Or.inl ⟨by rfl, ?_⟩) (by assumption) ?_
    rotate_left
    · (intro w hSw; (try dsimp only at hSw); go_simp; try with_reducible rfl)
    try simp only [Act.put, List.setIfInBounds_toArray, List.set_cons_zero, List.set_cons_succ]
    refine wpAnyH_take (i := 5) (v := ?_) (by simp only [List.getElem?_toArray, List.getElem?_cons_succ, List.getElem?_cons_zero]; rfl) (by kernel_rfl) (by kernel_rfl) (by kernel_rfl) (fun _ _ _ h => by exact h) (Or.inl ⟨by rfl, ?_⟩) (by assumption) ?_
    rotate_left
    · (intro w hSw; (try dsimp only at hSw); go_simp; try with_reducible rfl)
    try simp only [Act.put, List.setIfInBounds_toArray, List.set_cons_zero, List.set_cons_succ]
    refine wpAnyH_take (i := 6) (v := ?_) (by simp only [List.getElem?_toArray, List.getElem?_cons_succ, List.getElem?_cons_zero]; rfl) (by kernel_rfl) (by kernel_rfl) (by kernel_rfl) (fun _ _ _ h => by exact h) (Or.inl ⟨by rfl, ?_⟩) (by assumption) ?_
    rotate_left
    · (intro w hSw; (try dsimp only at hSw); go_simp; try with_reducible rfl)
    try simp only [Act.put, List.setIfInBounds_toArray, List.set_cons_zero, List.set_cons_succ]
    refine wpAnyH_take (i := 7) (v := ?_) (by simp only [List.getElem?_toArray, List.getElem?_cons_succ, List.getElem?_cons_zero]; rfl) (by kernel_rfl) (by kernel_rfl) (by kernel_rfl) (fun _ _ _ h => by exact h) (Or.inl ⟨by rfl, ?_⟩) (by assumption) ?_
    rotate_left
    · (intro w hSw; (try dsimp only at hSw); go_simp; try with_reducible rfl)
    try simp only [Act.put, List.setIfInBounds_toArray, List.set_cons_zero, List.set_cons_succ]
    refine wpAnyH_take (i := 8) (v := ?_) (by simp only [List.getElem?_toArray, List.getElem?_cons_succ, List.getElem?_cons_zero]; rfl) (by kernel_rfl) (by kernel_rfl) (by kernel_rfl) (fun _ _ _ h => by exact h) (Or.inl ⟨by rfl, ?_⟩) (by assumption) ?_
    rotate_left
    · (intro w hSw; (try dsimp only at hSw); go_simp; try with_reducible rfl)
    try simp only [Act.put, List.setIfInBounds_toArray, List.set_cons_zero, List.set_cons_succ]
    refine wpAnyH_ready (rs := [4]) (by kernel_rfl) (by simp) ?_
    refine AllReadyH.cons (by simp only [List.getElem?_toArray, List.getElem?_cons_succ, List.getElem?_cons_zero]; rfl) (fun K hK => ?_) AllReadyH.nil
    go_simp
    have HK1 := Lib.hid (st_keep (show Below wX.heap.size wX w1.drew ∧ w1.drew.cell? ⟨w.heap.size, 0, none⟩ = some (.string xn) ∧ w1.drew.cell? ⟨w.heap.size, 1, none⟩ = some (.int .i64 xp) from ⟨HB1.out.drew, y0, y1⟩) ((Below.refl w1.drew.heap.size w1.drew).alloc (Nat.le_refl _) (.cells #[.string xn, .int .i64 xp] 30)) HXB.out)
    try go_wp2_with fail
    refine hK.out _ _ ?_ (fun hHeld => ?_)
    · exact HK1.out
    clear hK K
    try simp only [Act.put, List.setIfInBounds_toArray, List.set_cons_zero, List.set_cons_succ]
    refine wpAnyH_ready (rs := [9]) (by kernel_rfl) (by simp) ?_
    refine AllReadyH.cons (by simp only [List.getElem?_toArray, List.getElem?_cons_succ, List.getElem?_cons_zero]; rfl) (fun K hK => ?_) AllReadyH.nil
    go_simp
    have HK2 := Lib.hid (st_keep HK1.out ((Below.refl (w1.drew.alloc (.cells #[.string xn, .int .i64 xp] 30)).heap.size (w1.drew.alloc (.cells #[.string xn, .int .i64 xp] 30))).alloc (Nat.le_refl _) (.cells #[.slice (some ad) i (i + 1), .slice (some ⟨w1.drew.heap.size, 0, none⟩) 1 1, .slice (some ad) 0 0] 22)) HXB.out); have cc := cat3 (W := w1.drew.alloc (.cells #[.string xn, .int .i64 xp] 30)) (p := ⟨some ad, T, (i + 1)⟩) (m := ⟨some ⟨w1.drew.heap.size, 0, none⟩, [⟨xn, xp⟩], 1⟩) (q := ⟨some ad, [], 0⟩) i 1 0 (HT.out.later (HB1.out.drew.trans (((Below.refl w1.drew.heap.size w1.drew).alloc (Nat.le_refl _) (.cells #[.string xn, .int .i64 xp] 30)).mono HB1.out.drew.size))) (pcs_one w1.drew xn xp) (pcs_none _ _ _) HTL.out rfl rfl (by omega) 22; rw [show (w1.drew.alloc (.cells #[.string xn, .int .i64 xp] 30)).heap.size = w1.heap.size + 1 by simp] at cc; have CC := Lib.hid cc; clear cc
    try go_wp2_with fail
    refine hK.out _ _ ?_ (fun hHeld => ?_)
    · exact HK2.out
    clear hK K
    try simp only [Act.put, List.setIfInBounds_toArray, List.set_cons_zero, List.set_cons_succ]
    refine wpAnyH_ready (rs := [10]) (by kernel_rfl) (by simp) ?_
    refine AllReadyH.cons (by simp only [List.getElem?_toArray, List.getElem?_cons_succ, List.getElem?_cons_zero]; rfl) (fun K hK => ?_) AllReadyH.nil
    go_simp
    (go_at_call 33; refine (CC.out).mono ?_; rintro e w3 ⟨a3, c3, rfl, hm3, hb3⟩; have HK3 := Lib.hid (st_keep HK2.out hb3 HXB.out); have HM3 := Lib.hid (hm3.more (B' := fun b => w.heap.size ≤ b ∧ b < w3.heap.size) (fun b hb => ⟨by have h1 := HK2.out.1.size; have h2 := HXB.out; have h3 := hb.1; omega, hb.2⟩)); clear hb3 hm3)
    try go_wp2_with fail
    refine hK.out _ _ ?_ (fun hHeld => ?_)
    · exact HK3.out
    clear hK K
    try simp only [Act.put, List.setIfInBounds_toArray, List.set_cons_zero, List.set_cons_succ]
    refine wpAnyH_take (i := 11) (v := ?_) (by simp only [List.getElem?_toArray, List.getElem?_cons_succ, List.getElem?_cons_zero]; rfl) (by kernel_rfl) (by kernel_rfl) (by kernel_rfl) (fun _ _ _ h => by exact h) (Or.inl ⟨by rfl, ?_⟩) (by assumption) ?_
    rotate_left
    · (intro w hSw; (try dsimp only at hSw); go_simp; try with_reducible rfl)
    try simp only [Act.put, List.setIfInBounds_toArray, List.set_cons_zero, List.set_cons_succ]
    refine wpAnyH_take (i := 12) (v := ?_) (by simp only [List.getElem?_toArray, List.getElem?_cons_succ, List.getElem?_cons_zero]; rfl) (by kernel_rfl) (by kernel_rfl) (by kernel_rfl) (fun _ _ _ h => by exact h) (Or.inl ⟨by rfl, ?_⟩) (by assumption) ?_
    rotate_left
    · (intro w hSw; (try dsimp only at hSw); go_simp; try with_reducible rfl)
    try simp only [Act.put, List.setIfInBounds_toArray, List.set_cons_zero, List.set_cons_succ]
    refine wpAnyH_done (by kernel_rfl) ?_ _
    go_wp2_with fail
    go_ret2
    exact ⟨a3, c3, by simp, HM3.out, HEND.out _ HK3.out.1⟩
  · clear HD0
    go_enter Try.func14, Try.ntmps14
    go_wp2_with fail
    refine (CM.out _).mono ?_
    rintro e w0 ⟨rfl, rfl⟩
    go_wp2_with fail
    refine CF.out.mono ?_
    rintro e w1 ⟨rfl, hb1⟩
    have HB1 := Lib.hid hb1
    clear hwX
    clear hb1
    have y0 := (HB1.out.cell (p := ⟨w.heap.size, 0, none⟩) HXB.out).trans x0
    have y1 := (HB1.out.cell (p := ⟨w.heap.size, 1, none⟩) HXB.out).trans x1
    go_wp2_with fail
    refine wp_region_held_drew (S := (fun w' : World => Below wX.heap.size wX w' ∧ w'.cell? ⟨w.heap.size, 0, none⟩ = some (.string xn) ∧ w'.cell? ⟨w.heap.size, 1, none⟩ = some (.int .i64 xp))) (by kernel_rfl) ⟨HB1.out.drew, y0, y1⟩ (fun hHeld => ?_)
    refine wpAnyH_take (i := 0) (v := ?_) (by simp only [List.getElem?_toArray, List.getElem?_cons_zero]; rfl) (by kernel_rfl) (by kernel_rfl) (by kernel_rfl) (fun _ _ _ h => by exact h) (Or.inl ⟨by rfl, ?_⟩) (by assumption) ?_
    rotate_left
    · (intro w hSw; (try dsimp only at hSw); go_simp; try with_reducible rfl)
    try simp only [Act.put, List.setIfInBounds_toArray, List.set_cons_zero, List.set_cons_succ]
    refine wpAnyH_take (i := 1) (v := ?_) (by simp only [List.getElem?_toArray, List.getElem?_cons_succ, List.getElem?_cons_zero]; rfl) (by kernel_rfl) (by kernel_rfl) (by kernel_rfl) (fun _ _ _ h => by exact h) (Or.inl ⟨by rfl, ?_⟩) (by assumption) ?_
    rotate_left
    · (intro w hSw; (try dsimp only at hSw); go_simp; try with_reducible rfl)
    try simp only [Act.put, List.setIfInBounds_toArray, List.set_cons_zero, List.set_cons_succ]
    refine wpAnyH_take (i := 2) (v := ?_) (by simp only [List.getElem?_toArray, List.getElem?_cons_succ, List.getElem?_cons_zero]; rfl) (by kernel_rfl) (by kernel_rfl) (by kernel_rfl) (fun _ _ _ h => by exact h) (Or.inl ⟨by rfl, ?_⟩) (by assumption) ?_
    rotate_left
    · (intro w hSw; (try dsimp only at hSw); go_simp; try with_reducible rfl)
    try simp only [Act.put, List.setIfInBounds_toArray, List.set_cons_zero, List.set_cons_succ]
    refine wpAnyH_take (i := 3) (v := ?_) (by simp only [List.getElem?_toArray, List.getElem?_cons_succ, List.getElem?_cons_zero]; rfl) (by kernel_rfl) (by kernel_rfl) (by kernel_rfl) (fun _ _ _ h => by exact h) (Or.inl ⟨by rfl, ?_⟩) (by assumption) ?_
    rotate_left
    · (intro w hSw; (try dsimp only at hSw); go_simp; try with_reducible rfl)
    try simp only [Act.put, List.setIfInBounds_toArray, List.set_cons_zero, List.set_cons_succ]
    refine wpAnyH_take (i := 5) (v := ?_) (by simp only [List.getElem?_toArray, List.getElem?_cons_succ, List.getElem?_cons_zero]; rfl) (by kernel_rfl) (by kernel_rfl) (by kernel_rfl) (fun _ _ _ h => by exact h) (Or.inl ⟨by rfl, ?_⟩) (by assumption) ?_
    rotate_left
    · (intro w hSw; (try dsimp only at hSw); go_simp; try with_reducible rfl)
    try simp only [Act.put, List.setIfInBounds_toArray, List.set_cons_zero, List.set_cons_succ]
    refine wpAnyH_take (i := 6) (v := ?_) (by simp only [List.getElem?_toArray, List.getElem?_cons_succ, List.getElem?_cons_zero]; rfl) (by kernel_rfl) (by kernel_rfl) (by kernel_rfl) (fun _ _ _ h => by exact h) (Or.inl ⟨by rfl, ?_⟩) (by assumption) ?_
    rotate_left
    · (intro w hSw; (try dsimp only at hSw); go_simp; try with_reducible rfl)
    try simp only [Act.put, List.setIfInBounds_toArray, List.set_cons_zero, List.set_cons_succ]
    refine wpAnyH_take (i := 7) (v := ?_) (by simp only [List.getElem?_toArray, List.getElem?_cons_succ, List.getElem?_cons_zero]; rfl) (by kernel_rfl) (by kernel_rfl) (by kernel_rfl) (fun _ _ _ h => by exact h) (Or.inl ⟨by rfl, ?_⟩) (by assumption) ?_
    rotate_left
    · (intro w hSw; (try dsimp only at hSw); go_simp; try with_reducible rfl)
    try simp only [Act.put, List.setIfInBounds_toArray, List.set_cons_zero, List.set_cons_succ]
    refine wpAnyH_take (i := 8) (v := ?_) (by simp only [List.getElem?_toArray, List.getElem?_cons_succ, List.getElem?_cons_zero]; rfl) (by kernel_rfl) (by kernel_rfl) (by kernel_rfl) (fun _ _ _ h => by exact h) (Or.inl ⟨by rfl, ?_⟩) (by assumption) ?_
    rotate_left
    · (intro w hSw; (try dsimp only at hSw); go_simp; try with_reducible rfl)
    try simp only [Act.put, List.setIfInBounds_toArray, List.set_cons_zero, List.set_cons_succ]
    refine wpAnyH_ready (rs := [4]) (by kernel_rfl) (by simp) ?_
    refine AllReadyH.cons (by simp only [List.getElem?_toArray, List.getElem?_cons_succ, List.getElem?_cons_zero]; rfl) (fun K hK => ?_) AllReadyH.nil
    go_simp
    have HK1 := Lib.hid (st_keep (show Below wX.heap.size wX w1.drew ∧ w1.drew.cell? ⟨w.heap.size, 0, none⟩ = some (.string xn) ∧ w1.drew.cell? ⟨w.heap.size, 1, none⟩ = some (.int .i64 xp) from ⟨HB1.out.drew, y0, y1⟩) ((Below.refl w1.drew.heap.size w1.drew).alloc (Nat.le_refl _) (.cells #[.string xn, .int .i64 xp] 30)) HXB.out)
    try go_wp2_with fail
    refine hK.out _ _ ?_ (fun hHeld => ?_)
    · exact HK1.out
    clear hK K
    try simp only [Act.put, List.setIfInBounds_toArray, List.set_cons_zero, List.set_cons_succ]
    refine wpAnyH_ready (rs := [9]) (by kernel_rfl) (by simp) ?_
    refine AllReadyH.cons (by simp only [List.getElem?_toArray, List.getElem?_cons_succ, List.getElem?_cons_zero]; rfl) (fun K hK => ?_) AllReadyH.nil
    go_simp
    have HK2 := Lib.hid (st_keep HK1.out ((Below.refl (w1.drew.alloc (.cells #[.string xn, .int .i64 xp] 30)).heap.size (w1.drew.alloc (.cells #[.string xn, .int .i64 xp] 30))).alloc (Nat.le_refl _) (.cells #[.slice (some ad) i c, .slice (some ⟨w1.drew.heap.size, 0, none⟩) 1 1, .slice (some (ad.add ((i + 1) * 2))) (n - (i + 1)) (c - (i + 1))] 22)) HXB.out); have cc := cat3 (W := w1.drew.alloc (.cells #[.string xn, .int .i64 xp] 30)) (p := ⟨some ad, T, c⟩) (m := ⟨some ⟨w1.drew.heap.size, 0, none⟩, [⟨xn, xp⟩], 1⟩) (q := ⟨some (ad.add ((i + 1) * 2)), D, c - (i + 1)⟩) i 1 (n - (i + 1)) (HT.out.later (HB1.out.drew.trans (((Below.refl w1.drew.heap.size w1.drew).alloc (Nat.le_refl _) (.cells #[.string xn, .int .i64 xp] 30)).mono HB1.out.drew.size))) (pcs_one w1.drew xn xp) (HD.out.later (HB1.out.drew.trans (((Below.refl w1.drew.heap.size w1.drew).alloc (Nat.le_refl _) (.cells #[.string xn, .int .i64 xp] 30)).mono HB1.out.drew.size))) HTL.out rfl HDL.out (by omega) 22; rw [show (w1.drew.alloc (.cells #[.string xn, .int .i64 xp] 30)).heap.size = w1.heap.size + 1 by simp] at cc; have CC := Lib.hid cc; clear cc
    try go_wp2_with fail
    refine hK.out _ _ ?_ (fun hHeld => ?_)
    · exact HK2.out
    clear hK K
    try simp only [Act.put, List.setIfInBounds_toArray, List.set_cons_zero, List.set_cons_succ]
    refine wpAnyH_ready (rs := [10]) (by kernel_rfl) (by simp) ?_
    refine AllReadyH.cons (by simp only [List.getElem?_toArray, List.getElem?_cons_succ, List.getElem?_cons_zero]; rfl) (fun K hK => ?_) AllReadyH.nil
    go_simp
    (go_at_call 33; refine (CC.out).mono ?_; rintro e w3 ⟨a3, c3, rfl, hm3, hb3⟩; have HK3 := Lib.hid (st_keep HK2.out hb3 HXB.out); have HM3 := Lib.hid (hm3.more (B' := fun b => w.heap.size ≤ b ∧ b < w3.heap.size) (fun b hb => ⟨by have h1 := HK2.out.1.size; have h2 := HXB.out; have h3 := hb.1; omega, hb.2⟩)); clear hb3 hm3)
    try go_wp2_with fail
    refine hK.out _ _ ?_ (fun hHeld => ?_)
    · exact HK3.out
    clear hK K
    try simp only [Act.put, List.setIfInBounds_toArray, List.set_cons_zero, List.set_cons_succ]
    refine wpAnyH_take (i := 11) (v := ?_) (by simp only [List.getElem?_toArray, List.getElem?_cons_succ, List.getElem?_cons_zero]; rfl) (by kernel_rfl) (by kernel_rfl) (by kernel_rfl) (fun _ _ _ h => by exact h) (Or.inl ⟨by rfl, ?_⟩) (by assumption) ?_
    rotate_left
    · (intro w hSw; (try dsimp only at hSw); go_simp; try with_reducible rfl)
    try simp only [Act.put, List.setIfInBounds_toArray, List.set_cons_zero, List.set_cons_succ]
    refine wpAnyH_take (i := 12) (v := ?_) (by simp only [List.getElem?_toArray, List.getElem?_cons_succ, List.getElem?_cons_zero]; rfl) (by kernel_rfl) (by kernel_rfl) (by kernel_rfl) (fun _ _ _ h => by exact h) (Or.inl ⟨by rfl, ?_⟩) (by assumption) ?_
    rotate_left
    · (intro w hSw; (try dsimp only at hSw); go_simp; try with_reducible rfl)
    try simp only [Act.put, List.setIfInBounds_toArray, List.set_cons_zero, List.set_cons_succ]
    refine wpAnyH_done (by kernel_rfl) ?_ _
    go_wp2_with fail
    go_ret2
    exact ⟨a3, c3, by simp, HM3.out, HEND.out _ HK3.out.1⟩

set_option maxRecDepth 100000 in
set_option maxHeartbeats 1600000 in
theorem mset_many (a : Option Addr) (l : List Mrk) (c : Nat) (x : Mrk) (w : World) (hp : Pcs w ⟨a, l, c⟩) (hlc : l.length ≤ c) (hc : c ≤ maxLen) (hl : l.length ≤ 40) (hx : x.name.size ≤ maxLen) (hm : markB x.name.data.toList = true) (hi : ¬ l.findIdx (nmB x.name) < l.length) (h16 : 16 ≤ l.length) :
    Calls Try.prog 14 #[.slice a l.length c, x.v] w (RetSet w ([], 9)) := by
  unfold maxLen at hc
  obtain ⟨xn, xp⟩ := x
  have cm := omay_any xn hx
  obtain ⟨wX, hwX⟩ : ∃ wX, w.alloc (.cells #[.string xn, .int .i64 xp] 30) = wX := ⟨_, rfl⟩
  have hb0 : Below w.heap.size w (w.alloc (.cells #[.string xn, .int .i64 xp] 30)) := (Below.refl w.heap.size w).alloc (Nat.le_refl _) _
  obtain ⟨x0, x1⟩ := box_mrk (N := w.heap.size + 1) (by omega) (Below.refl (w.heap.size + 1) (w.alloc (.cells #[.string xn, .int .i64 xp] 30)))
  have hX1 : w.heap.size + 1 ≤ wX.heap.size := by rw [← hwX]; simp
  rw [hwX] at x0 x1 hb0
  have hpX : Pcs wX ⟨a, l, c⟩ := hp.later hb0
  have hr : Mrks wX (· < wX.heap.size) a l := hpX.row
  have cf := mfind_name a l c xn _ wX hr (fun _ h => h) (by omega) (fun W x _ _ => name_of x W)
  have HEND := Lib.hid (fun w' (h : Below wX.heap.size wX w') => hb0.trans (h.mono (by omega)))
  have hi : ¬ l.findIdx (nmB xn) < l.length := hi
  rw [hm] at cm
  rw [decide_eq_false hi] at cf
  obtain ⟨i, he⟩ : ∃ i, l.findIdx (nmB xn) = i := ⟨_, rfl⟩
  rw [he] at cf
  obtain ⟨n, hn⟩ : ∃ n, l.length = n := ⟨_, rfl⟩
  rw [hn] at cf h16 ⊢
  have CM := Lib.hid cm; have CF := Lib.hid cf
  have z0 : (16 : Int) ≤ (n : Int) := by omega
  clear cm hr cf he hn hp hpX hb0 hm hx hi hlc hl
  go_enter Try.func14, Try.ntmps14
  go_wp2_with fail
  refine (CM.out _).mono ?_
  rintro e w0 ⟨rfl, rfl⟩
  go_wp2_with fail
  refine CF.out.mono ?_
  rintro e w1 ⟨rfl, hb1⟩
  go_wp2
  go_ret2
  exact ⟨none, 0, rfl, fun k hk => absurd hk (by simp), HEND.out _ hb1⟩

set_option maxRecDepth 100000 in
set_option maxHeartbeats 1600000 in
theorem mset_new (a : Option Addr) (l : List Mrk) (c : Nat) (x : Mrk) (w : World) (hp : Pcs w ⟨a, l, c⟩) (hlc : l.length ≤ c) (hc : c ≤ maxLen) (hl : l.length ≤ 40) (hx : x.name.size ≤ maxLen) (hm : markB x.name.data.toList = true) (hi : ¬ l.findIdx (nmB x.name) < l.length) (h16 : ¬ 16 ≤ l.length) :
    Calls Try.prog 14 #[.slice a l.length c, x.v] w (RetSet w (withM l x, 0)) := by
  unfold maxLen at hc
  obtain ⟨xn, xp⟩ := x
  have cm := omay_any xn hx
  obtain ⟨wX, hwX⟩ : ∃ wX, w.alloc (.cells #[.string xn, .int .i64 xp] 30) = wX := ⟨_, rfl⟩
  have hb0 : Below w.heap.size w (w.alloc (.cells #[.string xn, .int .i64 xp] 30)) := (Below.refl w.heap.size w).alloc (Nat.le_refl _) _
  obtain ⟨x0, x1⟩ := box_mrk (N := w.heap.size + 1) (by omega) (Below.refl (w.heap.size + 1) (w.alloc (.cells #[.string xn, .int .i64 xp] 30)))
  have hX1 : w.heap.size + 1 ≤ wX.heap.size := by rw [← hwX]; simp
  rw [hwX] at x0 x1 hb0
  have hpX : Pcs wX ⟨a, l, c⟩ := hp.later hb0
  have hr : Mrks wX (· < wX.heap.size) a l := hpX.row
  have cf := mfind_name a l c xn _ wX hr (fun _ h => h) (by omega) (fun W x _ _ => name_of x W)
  have HEND := Lib.hid (fun w' (h : Below wX.heap.size wX w') => hb0.trans (h.mono (by omega)))
  have hi : ¬ l.findIdx (nmB xn) < l.length := hi
  rw [hm] at cm
  rw [decide_eq_false hi] at cf
  have cb : ∀ W, Below wX.heap.size wX W → Calls Try.prog 34 #[.slice a l.length c, .func (.func 35) #[] #[.pointer (some ⟨w.heap.size, 0, none⟩)], .bool true] W fun e w' => e = .returned (.tuple #[.int .i64 (l.findIdx (gtB xn) : Nat), .bool (decide (l.findIdx (gtB xn) < l.length))]) ∧ Below W.heap.size W w' := fun W hW =>
    mfind_behind a l c xn w.heap.size _ W (hpX.later hW).row (fun _ h => h) (by omega) fun W2 y h2 _ => behind_any y xn w.heap.size W2 (by have := hW.size; have := h2.size; omega) (((hW.trans (h2.mono hW.size)).cell (p := ⟨w.heap.size, 0, none⟩) (show w.heap.size < wX.heap.size by omega)).trans x0)
  obtain ⟨i0, he⟩ : ∃ i, l.findIdx (nmB xn) = i := ⟨_, rfl⟩
  rw [he] at cf
  show Calls _ _ _ w (RetSet w (l.take (l.findIdx (gtB xn)) ++ [⟨xn, xp⟩] ++ l.drop (l.findIdx (gtB xn)), 0))
  have hg := idx_le l (gtB xn)
  obtain ⟨i, hgi⟩ : ∃ i, l.findIdx (gtB xn) = i := ⟨_, rfl⟩
  rw [hgi] at hg cb ⊢
  have ht := hpX.take i
  have hd : ∀ ad, a = some ad → Pcs wX ⟨some (ad.add (i * 2)), l.drop i, c - i⟩ := fun ad e => by subst e; exact hpX.drop i
  have hd0 : c = i → l.drop i = [] := fun h => List.drop_eq_nil_of_le (by omega)
  have hnil : a = none → l = [] ∧ c = 0 := fun e => ⟨hpX.len e, hpX.nil e⟩
  have htl : (l.take i).length = i := by rw [List.length_take]; omega
  have hdl : (l.drop i).length = l.length - i := by rw [List.length_drop]
  obtain ⟨q, hq⟩ : ∃ q, decide (i < l.length) = q := ⟨_, rfl⟩
  rw [hq] at cb
  obtain ⟨n, hn⟩ : ∃ n, l.length = n := ⟨_, rfl⟩
  have hn0 : a = none → n = 0 := fun e => by rw [← hn, (hnil e).1]; rfl
  have hc0 : a = none → c = 0 := fun e => (hnil e).2
  rw [hn] at hg hl cf cb hlc hdl h16 ⊢
  obtain ⟨T, hT⟩ : ∃ T, l.take i = T := ⟨_, rfl⟩
  obtain ⟨D, hD⟩ : ∃ D, l.drop i = D := ⟨_, rfl⟩
  rw [hT] at ht htl ⊢
  rw [hD] at hd hd0 hdl ⊢
  have CM := Lib.hid cm; have CF := Lib.hid cf; have CB := Lib.hid cb; have HT := Lib.hid ht; have HD := Lib.hid hd; have HD0 := Lib.hid hd0; have HTL := Lib.hid htl; have HDL := Lib.hid hdl; have HXB := Lib.hid (show w.heap.size < wX.heap.size by omega); have HN0 := Lib.hid hn0; have HC0 := Lib.hid hc0
  clear cm hr cf cb he hn hp hpX ht hd hd0 htl hdl hT hD hb0 hX1 hm hx hi hnil hgi hq hn0 hc0
  have z0 : (0 : Int) ≤ (i : Int) := by omega
  have z1 : (i : Int) ≤ (c : Int) := by omega
  have z2 : (i : Int) ≤ (n : Int) := by omega
  have z4 : (n : Int) ≤ (c : Int) := by omega
  have z8 : (n : Int) < 16 := by omega
  cases a with
  | none =>
    have n0 := HN0.out rfl
    have c0 := HC0.out rfl
    obtain rfl : i = 0 := by omega
    have T0 : T = [] := List.length_eq_zero_iff.1 HTL.out
    have D0 : D = [] := List.length_eq_zero_iff.1 (by rw [HDL.out]; omega)
    subst n0
    subst c0
    subst T0
    subst D0
    have PN := Lib.hid (fun W : World => (show Pcs W ⟨none, [], 0⟩ from ⟨fun k hk => absurd hk (by simp), fun _ => rfl⟩))
    clear HD HD0 HN0 HC0 z0 z1 z2 z4 z8
    go_enter Try.func14, Try.ntmps14
    go_wp2_with fail
    refine (CM.out _).mono ?_
    rintro e w0 ⟨rfl, rfl⟩
    go_wp2_with fail
    refine CF.out.mono ?_
    rintro e w1 ⟨rfl, hb1⟩
    have HB1 := Lib.hid hb1
    clear hwX
    go_wp2_with fail
    refine (CB.out _ hb1).mono ?_
    rintro e w2 ⟨rfl, hb2⟩
    have HB1 := Lib.hid (hb1.trans (hb2.mono hb1.size))
    clear hb2
    clear hb1
    have y0 := (HB1.out.cell (p := ⟨w.heap.size, 0, none⟩) HXB.out).trans x0
    have y1 := (HB1.out.cell (p := ⟨w.heap.size, 1, none⟩) HXB.out).trans x1
    go_wp2_with fail
    refine wp_region_held_drew (S := (fun w' : World => Below wX.heap.size wX w' ∧ w'.cell? ⟨w.heap.size, 0, none⟩ = some (.string xn) ∧ w'.cell? ⟨w.heap.size, 1, none⟩ = some (.int .i64 xp))) (by kernel_rfl) ⟨HB1.out.drew, y0, y1⟩ (fun hHeld => ?_)
    refine wpAnyH_take (i := 0) (v := ?_) (by simp only [List.getElem?_toArray, List.getElem?_cons_zero]; rfl) (by kernel_rfl) (by kernel_rfl) (by kernel_rfl) (fun _ _ _ h => by exact h) (Or.inl ⟨by rfl, ?_⟩) (by assumption) ?_
    rotate_left
    · (intro w hSw; (try dsimp only at hSw); go_simp; try with_reducible rfl)
    try simp only [Act.put, List.setIfInBounds_toArray, List.set_cons_zero, List.set_cons_succ]
    refine wpAnyH_take (i := 1) (v := ?_) (by simp only [List.getElem?_toArray, List.getElem?_cons_succ, List.getElem?_cons_zero]; rfl) (by kernel_rfl) (by kernel_rfl) (by kernel_rfl) (fun _ _ _ h => by exact h) (Or.inl ⟨by rfl, ?_⟩) (by assumption) ?_
    rotate_left
    · (intro w hSw; (try dsimp only at hSw); go_simp; try with_reducible rfl)
    try simp only [Act.put, List.setIfInBounds_toArray, List.set_cons_zero, List.set_cons_succ]
    refine wpAnyH_take (i := 2) (v := ?_) (by simp only [List.getElem?_toArray, List.getElem?_cons_succ, List.getElem?_cons_zero]; rfl) (by kernel_rfl) (by kernel_rfl) (by kernel_rfl) (fun _ _ _ h => by exact h) (Or.inl ⟨by rfl, ?_⟩) (by assumption) ?_
    rotate_left
    · (intro w hSw; (try dsimp only at hSw); go_simp; try with_reducible rfl)
    try simp only [Act.put, List.setIfInBounds_toArray, List.set_cons_zero, List.set_cons_succ]
    refine wpAnyH_take (i := 3) (v := ?_) (by simp only [List.getElem?_toArray, List.getElem?_cons_succ, List.getElem?_cons_zero]; rfl) (by kernel_rfl) (by kernel_rfl) (by kernel_rfl) (fun _ _ _ h => by exact h) (Or.inl ⟨by rfl, ?_⟩) (by assumption) ?_
    rotate_left
    · (intro w hSw; (try dsimp only at hSw); go_simp; try with_reducible rfl)
    try simp only [Act.put, List.setIfInBounds_toArray, List.set_cons_zero, List.set_cons_succ]
    refine wpAnyH_take (i := 5) (v := ?_) (by simp only [List.getElem?_toArray, List.getElem?_cons_succ, List.getElem?_cons_zero]; rfl) (by kernel_rfl) (by kernel_rfl) (by kernel_rfl) (fun _ _ _ h => by exact h) (Or.inl ⟨by rfl, ?_⟩) (by assumption) ?_
    rotate_left
    · (intro w hSw; (try dsimp only at hSw); go_simp; try with_reducible rfl)
    try simp only [Act.put, List.setIfInBounds_toArray, List.set_cons_zero, List.set_cons_succ]
    refine wpAnyH_take (i := 6) (v := ?_) (by simp only [List.getElem?_toArray, List.getElem?_cons_succ, List.getElem?_cons_zero]; rfl) (by kernel_rfl) (by kernel_rfl) (by kernel_rfl) (fun _ _ _ h => by exact h) (Or.inl ⟨by rfl, ?_⟩) (by assumption) ?_
    rotate_left
    · (intro w hSw; (try dsimp only at hSw); go_simp; try with_reducible rfl)
    try simp only [Act.put, List.setIfInBounds_toArray, List.set_cons_zero, List.set_cons_succ]
    refine wpAnyH_take (i := 7) (v := ?_) (by simp only [List.getElem?_toArray, List.getElem?_cons_succ, List.getElem?_cons_zero]; rfl) (by kernel_rfl) (by kernel_rfl) (by kernel_rfl) (fun _ _ _ h => by exact h) (Or.inl ⟨by rfl, ?_⟩) (by assumption) ?_
    rotate_left
    · (intro w hSw; (try dsimp only at hSw); go_simp; try with_reducible rfl)
    try simp only [Act.put, List.setIfInBounds_toArray, List.set_cons_zero, List.set_cons_succ]
    refine wpAnyH_ready (rs := [4]) (by kernel_rfl) (by simp) ?_
    refine AllReadyH.cons (by simp only [List.getElem?_toArray, List.getElem?_cons_succ, List.getElem?_cons_zero]; rfl) (fun K hK => ?_) AllReadyH.nil
    go_simp
    have HK1 := Lib.hid (st_keep (show Below wX.heap.size wX w2.drew ∧ w2.drew.cell? ⟨w.heap.size, 0, none⟩ = some (.string xn) ∧ w2.drew.cell? ⟨w.heap.size, 1, none⟩ = some (.int .i64 xp) from ⟨HB1.out.drew, y0, y1⟩) ((Below.refl w2.drew.heap.size w2.drew).alloc (Nat.le_refl _) (.cells #[.string xn, .int .i64 xp] 30)) HXB.out)
    try go_wp2_with fail
    refine hK.out _ _ ?_ (fun hHeld => ?_)
    · exact HK1.out
    clear hK K
    try simp only [Act.put, List.setIfInBounds_toArray, List.set_cons_zero, List.set_cons_succ]
    refine wpAnyH_ready (rs := [8]) (by kernel_rfl) (by simp) ?_
    refine AllReadyH.cons (by simp only [List.getElem?_toArray, List.getElem?_cons_succ, List.getElem?_cons_zero]; rfl) (fun K hK => ?_) AllReadyH.nil
    go_simp
    have HK2 := Lib.hid (st_keep HK1.out ((Below.refl (w2.drew.alloc (.cells #[.string xn, .int .i64 xp] 30)).heap.size (w2.drew.alloc (.cells #[.string xn, .int .i64 xp] 30))).alloc (Nat.le_refl _) (.cells #[.slice none 0 0, .slice (some ⟨w2.drew.heap.size, 0, none⟩) 1 1, .slice none 0 0] 22)) HXB.out); have cc := cat3 (W := w2.drew.alloc (.cells #[.string xn, .int .i64 xp] 30)) (p := ⟨none, [], 0⟩) (m := ⟨some ⟨w2.drew.heap.size, 0, none⟩, [⟨xn, xp⟩], 1⟩) (q := ⟨none, [], 0⟩) 0 1 0 (PN.out _) (pcs_one w2.drew xn xp) (PN.out _) rfl rfl rfl (by omega) 22; rw [show (w2.drew.alloc (.cells #[.string xn, .int .i64 xp] 30)).heap.size = w2.heap.size + 1 by simp] at cc; have CC := Lib.hid cc; clear cc
    try go_wp2_with fail
    refine hK.out _ _ ?_ (fun hHeld => ?_)
    · exact HK2.out
    clear hK K
    try simp only [Act.put, List.setIfInBounds_toArray, List.set_cons_zero, List.set_cons_succ]
    refine wpAnyH_ready (rs := [9]) (by kernel_rfl) (by simp) ?_
    refine AllReadyH.cons (by simp only [List.getElem?_toArray, List.getElem?_cons_succ, List.getElem?_cons_zero]; rfl) (fun K hK => ?_) AllReadyH.nil
    go_simp
    (go_at_call 33; refine (CC.out).mono ?_; rintro e w3 ⟨a3, c3, rfl, hm3, hb3⟩; have HK3 := Lib.hid (st_keep HK2.out hb3 HXB.out); have HM3 := Lib.hid (hm3.more (B' := fun b => w.heap.size ≤ b ∧ b < w3.heap.size) (fun b hb => ⟨by have h1 := HK2.out.1.size; have h2 := HXB.out; have h3 := hb.1; omega, hb.2⟩)); clear hb3 hm3)
    try go_wp2_with fail
    refine hK.out _ _ ?_ (fun hHeld => ?_)
    · exact HK3.out
    clear hK K
    try simp only [Act.put, List.setIfInBounds_toArray, List.set_cons_zero, List.set_cons_succ]
    refine wpAnyH_take (i := 10) (v := ?_) (by simp only [List.getElem?_toArray, List.getElem?_cons_succ, List.getElem?_cons_zero]; rfl) (by kernel_rfl) (by kernel_rfl) (by kernel_rfl) (fun _ _ _ h => by exact h) (Or.inl ⟨by rfl, ?_⟩) (by assumption) ?_
    rotate_left
    · (intro w hSw; (try dsimp only at hSw); go_simp; try with_reducible rfl)
    try simp only [Act.put, List.setIfInBounds_toArray, List.set_cons_zero, List.set_cons_succ]
    refine wpAnyH_take (i := 11) (v := ?_) (by simp only [List.getElem?_toArray, List.getElem?_cons_succ, List.getElem?_cons_zero]; rfl) (by kernel_rfl) (by kernel_rfl) (by kernel_rfl) (fun _ _ _ h => by exact h) (Or.inl ⟨by rfl, ?_⟩) (by assumption) ?_
    rotate_left
    · (intro w hSw; (try dsimp only at hSw); go_simp; try with_reducible rfl)
    try simp only [Act.put, List.setIfInBounds_toArray, List.set_cons_zero, List.set_cons_succ]
    refine wpAnyH_done (by kernel_rfl) ?_ _
    go_wp2_with fail
    go_ret2
    exact ⟨a3, c3, by simp, HM3.out, HEND.out _ HK3.out.1⟩
  | some ad =>
    have HD := Lib.hid (HD.out ad rfl)
    by_cases hce : c = i
    · have hn1 : n = i := by omega
      have D0 := HD0.out hce
      subst hce
      subst hn1
      subst D0
      clear HD HD0 HN0 HC0
      go_enter Try.func14, Try.ntmps14
      go_wp2_with fail
      refine (CM.out _).mono ?_
      rintro e w0 ⟨rfl, rfl⟩
      go_wp2_with fail
      refine CF.out.mono ?_
      rintro e w1 ⟨rfl, hb1⟩
      have HB1 := Lib.hid hb1
      clear hwX
      go_wp2_with fail
      refine (CB.out _ hb1).mono ?_
      rintro e w2 ⟨rfl, hb2⟩
      have HB1 := Lib.hid (hb1.trans (hb2.mono hb1.size))
      clear hb2
      clear hb1
      have y0 := (HB1.out.cell (p := ⟨w.heap.size, 0, none⟩) HXB.out).trans x0
      have y1 := (HB1.out.cell (p := ⟨w.heap.size, 1, none⟩) HXB.out).trans x1
      go_wp2_with fail
      refine wp_region_held_drew (S := (fun w' : World => Below wX.heap.size wX w' ∧ w'.cell? ⟨w.heap.size, 0, none⟩ = some (.string xn) ∧ w'.cell? ⟨w.heap.size, 1, none⟩ = some (.int .i64 xp))) (by kernel_rfl) ⟨HB1.out.drew, y0, y1⟩ (fun hHeld => ?_)
      refine wpAnyH_take (i := 0) (v := ?_) (by simp only [List.getElem?_toArray, List.getElem?_cons_zero]; rfl) (by kernel_rfl) (by kernel_rfl) (by kernel_rfl) (fun _ _ _ h => by exact h) (Or.inl ⟨by rfl, ?_⟩) (by assumption) ?_
      rotate_left
      · (intro w hSw; (try dsimp only at hSw); go_simp; try with_reducible rfl)
      try simp only [Act.put, List.setIfInBounds_toArray, List.set_cons_zero, List.set_cons_succ]
      refine wpAnyH_take (i := 1) (v := ?_) (by simp only [List.getElem?_toArray, List.getElem?_cons_succ, List.getElem?_cons_zero]; rfl) (by kernel_rfl) (by kernel_rfl) (by kernel_rfl) (fun _ _ _ h => by exact h) (Or.inl ⟨by rfl, ?_⟩) (by assumption) ?_
      rotate_left
      · (intro w hSw; (try dsimp only at hSw); go_simp; try with_reducible rfl)
      try simp only [Act.put, List.setIfInBounds_toArray, List.set_cons_zero, List.set_cons_succ]
      refine wpAnyH_take (i := 2) (v := ?_) (by simp only [List.getElem?_toArray, List.getElem?_cons_succ, List.getElem?_cons_zero]; rfl) (by kernel_rfl) (by kernel_rfl) (by kernel_rfl) (fun _ _ _ h => by exact h) (Or.inl ⟨by rfl, ?_⟩) (by assumption) ?_
      rotate_left
      · (intro w hSw; (try dsimp only at hSw); go_simp; try with_reducible rfl)
      try simp only [Act.put, List.setIfInBounds_toArray, List.set_cons_zero, List.set_cons_succ]
      refine wpAnyH_take (i := 3) (v := ?_) (by simp only [List.getElem?_toArray, List.getElem?_cons_succ, List.getElem?_cons_zero]; rfl) (by kernel_rfl) (by kernel_rfl) (by kernel_rfl) (fun _ _ _ h => by exact h) (Or.inl ⟨by rfl, ?_⟩) (by assumption) ?_
      rotate_left
      · (intro w hSw; (try dsimp only at hSw); go_simp; try with_reducible rfl)
      try simp only [Act.put, List.setIfInBounds_toArray, List.set_cons_zero, List.set_cons_succ]
      refine wpAnyH_take (i := 5) (v := ?_) (by simp only [List.getElem?_toArray, List.getElem?_cons_succ, List.getElem?_cons_zero]; rfl) (by kernel_rfl) (by kernel_rfl) (by kernel_rfl) (fun _ _ _ h => by exact h) (Or.inl ⟨by rfl, ?_⟩) (by assumption) ?_
      rotate_left
      · (intro w hSw; (try dsimp only at hSw); go_simp; try with_reducible rfl)
      try simp only [Act.put, List.setIfInBounds_toArray, List.set_cons_zero, List.set_cons_succ]
      refine wpAnyH_take (i := 6) (v := ?_) (by simp only [List.getElem?_toArray, List.getElem?_cons_succ, List.getElem?_cons_zero]; rfl) (by kernel_rfl) (by kernel_rfl) (by kernel_rfl) (fun _ _ _ h => by exact h) (Or.inl ⟨by rfl, ?_⟩) (by assumption) ?_
      rotate_left
      · (intro w hSw; (try dsimp only at hSw); go_simp; try with_reducible rfl)
      try simp only [Act.put, List.setIfInBounds_toArray, List.set_cons_zero, List.set_cons_succ]
      refine wpAnyH_take (i := 7) (v := ?_) (by simp only [List.getElem?_toArray, List.getElem?_cons_succ, List.getElem?_cons_zero]; rfl) (by kernel_rfl) (by kernel_rfl) (by kernel_rfl) (fun _ _ _ h => by exact h) (Or.inl ⟨by rfl, ?_⟩) (by assumption) ?_
      rotate_left
      · (intro w hSw; (try dsimp only at hSw); go_simp; try with_reducible rfl)
      try simp only [Act.put, List.setIfInBounds_toArray, List.set_cons_zero, List.set_cons_succ]
      refine wpAnyH_ready (rs := [4]) (by kernel_rfl) (by simp) ?_
      refine AllReadyH.cons (by simp only [List.getElem?_toArray, List.getElem?_cons_succ, List.getElem?_cons_zero]; rfl) (fun K hK => ?_) AllReadyH.nil
      go_simp
      have HK1 := Lib.hid (st_keep (show Below wX.heap.size wX w2.drew ∧ w2.drew.cell? ⟨w.heap.size, 0, none⟩ = some (.string xn) ∧ w2.drew.cell? ⟨w.heap.size, 1, none⟩ = some (.int .i64 xp) from ⟨HB1.out.drew, y0, y1⟩) ((Below.refl w2.drew.heap.size w2.drew).alloc (Nat.le_refl _) (.cells #[.string xn, .int .i64 xp] 30)) HXB.out)
      try go_wp2_with fail
      refine hK.out _ _ ?_ (fun hHeld => ?_)
      · exact HK1.out
      clear hK K
      try simp only [Act.put, List.setIfInBounds_toArray, List.set_cons_zero, List.set_cons_succ]
      refine wpAnyH_ready (rs := [8]) (by kernel_rfl) (by simp) ?_
      refine AllReadyH.cons (by simp only [List.getElem?_toArray, List.getElem?_cons_succ, List.getElem?_cons_zero]; rfl) (fun K hK => ?_) AllReadyH.nil
      go_simp
      have HK2 := Lib.hid (st_keep HK1.out ((Below.refl (w2.drew.alloc (.cells #[.string xn, .int .i64 xp] 30)).heap.size (w2.drew.alloc (.cells #[.string xn, .int .i64 xp] 30))).alloc (Nat.le_refl _) (.cells #[.slice (some ad) n n, .slice (some ⟨w2.drew.heap.size, 0, none⟩) 1 1, .slice (some ad) 0 0] 22)) HXB.out); have cc := cat3 (W := w2.drew.alloc (.cells #[.string xn, .int .i64 xp] 30)) (p := ⟨some ad, T, n⟩) (m := ⟨some ⟨w2.drew.heap.size, 0, none⟩, [⟨xn, xp⟩], 1⟩) (q := ⟨some ad, [], 0⟩) n 1 0 (HT.out.later (HB1.out.drew.trans (((Below.refl w2.drew.heap.size w2.drew).alloc (Nat.le_refl _) (.cells #[.string xn, .int .i64 xp] 30)).mono HB1.out.drew.size))) (pcs_one w2.drew xn xp) (pcs_none _ _ _) HTL.out rfl rfl (by omega) 22; rw [show (w2.drew.alloc (.cells #[.string xn, .int .i64 xp] 30)).heap.size = w2.heap.size + 1 by simp] at cc; have CC := Lib.hid cc; clear cc
      try go_wp2_with fail
      refine hK.out _ _ ?_ (fun hHeld => ?_)
      · exact HK2.out
      clear hK K
      try simp only [Act.put, List.setIfInBounds_toArray, List.set_cons_zero, List.set_cons_succ]
      refine wpAnyH_ready (rs := [9]) (by kernel_rfl) (by simp) ?_
      refine AllReadyH.cons (by simp only [List.getElem?_toArray, List.getElem?_cons_succ, List.getElem?_cons_zero]; rfl) (fun K hK => ?_) AllReadyH.nil
      go_simp
      (go_at_call 33; refine (CC.out).mono ?_; rintro e w3 ⟨a3, c3, rfl, hm3, hb3⟩; have HK3 := Lib.hid (st_keep HK2.out hb3 HXB.out); have HM3 := Lib.hid (hm3.more (B' := fun b => w.heap.size ≤ b ∧ b < w3.heap.size) (fun b hb => ⟨by have h1 := HK2.out.1.size; have h2 := HXB.out; have h3 := hb.1; omega, hb.2⟩)); clear hb3 hm3)
      try go_wp2_with fail
      refine hK.out _ _ ?_ (fun hHeld => ?_)
      · exact HK3.out
      clear hK K
      try simp only [Act.put, List.setIfInBounds_toArray, List.set_cons_zero, List.set_cons_succ]
      refine wpAnyH_take (i := 10) (v := ?_) (by simp only [List.getElem?_toArray, List.getElem?_cons_succ, List.getElem?_cons_zero]; rfl) (by kernel_rfl) (by kernel_rfl) (by kernel_rfl) (fun _ _ _ h => by exact h) (Or.inl ⟨by rfl, ?_⟩) (by assumption) ?_
      rotate_left
      · (intro w hSw; (try dsimp only at hSw); go_simp; try with_reducible rfl)
      try simp only [Act.put, List.setIfInBounds_toArray, List.set_cons_zero, List.set_cons_succ]
      refine wpAnyH_take (i := 11) (v := ?_) (by simp only [List.getElem?_toArray, List.getElem?_cons_succ, List.getElem?_cons_zero]; rfl) (by kernel_rfl) (by kernel_rfl) (by kernel_rfl) (fun _ _ _ h => by exact h) (Or.inl ⟨by rfl, ?_⟩) (by assumption) ?_
      rotate_left
      · (intro w hSw; (try dsimp only at hSw); go_simp; try with_reducible rfl)
      try simp only [Act.put, List.setIfInBounds_toArray, List.set_cons_zero, List.set_cons_succ]
      refine wpAnyH_done (by kernel_rfl) ?_ _
      go_wp2_with fail
      go_ret2
      exact ⟨a3, c3, by simp, HM3.out, HEND.out _ HK3.out.1⟩
    · clear HD0 HN0 HC0
      go_enter Try.func14, Try.ntmps14
      go_wp2_with fail
      refine (CM.out _).mono ?_
      rintro e w0 ⟨rfl, rfl⟩
      go_wp2_with fail
      refine CF.out.mono ?_
      rintro e w1 ⟨rfl, hb1⟩
      have HB1 := Lib.hid hb1
      clear hwX
      go_wp2_with fail
      refine (CB.out _ hb1).mono ?_
      rintro e w2 ⟨rfl, hb2⟩
      have HB1 := Lib.hid (hb1.trans (hb2.mono hb1.size))
      clear hb2
      clear hb1
      have y0 := (HB1.out.cell (p := ⟨w.heap.size, 0, none⟩) HXB.out).trans x0
      have y1 := (HB1.out.cell (p := ⟨w.heap.size, 1, none⟩) HXB.out).trans x1
      go_wp2_with fail
      refine wp_region_held_drew (S := (fun w' : World => Below wX.heap.size wX w' ∧ w'.cell? ⟨w.heap.size, 0, none⟩ = some (.string xn) ∧ w'.cell? ⟨w.heap.size, 1, none⟩ = some (.int .i64 xp))) (by kernel_rfl) ⟨HB1.out.drew, y0, y1⟩ (fun hHeld => ?_)
      refine wpAnyH_take (i := 0) (v := ?_) (by simp only [List.getElem?_toArray, List.getElem?_cons_zero]; rfl) (by kernel_rfl) (by kernel_rfl) (by kernel_rfl) (fun _ _ _ h => by exact h) (Or.inl ⟨by rfl, ?_⟩) (by assumption) ?_
      rotate_left
      · (intro w hSw; (try dsimp only at hSw); go_simp; try with_reducible rfl)
      try simp only [Act.put, List.setIfInBounds_toArray, List.set_cons_zero, List.set_cons_succ]
      refine wpAnyH_take (i := 1) (v := ?_) (by simp only [List.getElem?_toArray, List.getElem?_cons_succ, List.getElem?_cons_zero]; rfl) (by kernel_rfl) (by kernel_rfl) (by kernel_rfl) (fun _ _ _ h => by exact h) (Or.inl ⟨by rfl, ?_⟩) (by assumption) ?_
      rotate_left
      · (intro w hSw; (try dsimp only at hSw); go_simp; try with_reducible rfl)
      try simp only [Act.put, List.setIfInBounds_toArray, List.set_cons_zero, List.set_cons_succ]
      refine wpAnyH_take (i := 2) (v := ?_) (by simp only [List.getElem?_toArray, List.getElem?_cons_succ, List.getElem?_cons_zero]; rfl) (by kernel_rfl) (by kernel_rfl) (by kernel_rfl) (fun _ _ _ h => by exact h) (Or.inl ⟨by rfl, ?_⟩) (by assumption) ?_
      rotate_left
      · (intro w hSw; (try dsimp only at hSw); go_simp; try with_reducible rfl)
      try simp only [Act.put, List.setIfInBounds_toArray, List.set_cons_zero, List.set_cons_succ]
      refine wpAnyH_take (i := 3) (v := ?_) (by simp only [List.getElem?_toArray, List.getElem?_cons_succ, List.getElem?_cons_zero]; rfl) (by kernel_rfl) (by kernel_rfl) (by kernel_rfl) (fun _ _ _ h => by exact h) (Or.inl ⟨by rfl, ?_⟩) (by assumption) ?_
      rotate_left
      · (intro w hSw; (try dsimp only at hSw); go_simp; try with_reducible rfl)
      try simp only [Act.put, List.setIfInBounds_toArray, List.set_cons_zero, List.set_cons_succ]
      refine wpAnyH_take (i := 5) (v := ?_) (by simp only [List.getElem?_toArray, List.getElem?_cons_succ, List.getElem?_cons_zero]; rfl) (by kernel_rfl) (by kernel_rfl) (by kernel_rfl) (fun _ _ _ h => by exact h) (Or.inl ⟨by rfl, ?_⟩) (by assumption) ?_
      rotate_left
      · (intro w hSw; (try dsimp only at hSw); go_simp; try with_reducible rfl)
      try simp only [Act.put, List.setIfInBounds_toArray, List.set_cons_zero, List.set_cons_succ]
      refine wpAnyH_take (i := 6) (v := ?_) (by simp only [List.getElem?_toArray, List.getElem?_cons_succ, List.getElem?_cons_zero]; rfl) (by kernel_rfl) (by kernel_rfl) (by kernel_rfl) (fun _ _ _ h => by exact h) (Or.inl ⟨by rfl, ?_⟩) (by assumption) ?_
      rotate_left
      · (intro w hSw; (try dsimp only at hSw); go_simp; try with_reducible rfl)
      try simp only [Act.put, List.setIfInBounds_toArray, List.set_cons_zero, List.set_cons_succ]
      refine wpAnyH_take (i := 7) (v := ?_) (by simp only [List.getElem?_toArray, List.getElem?_cons_succ, List.getElem?_cons_zero]; rfl) (by kernel_rfl) (by kernel_rfl) (by kernel_rfl) (fun _ _ _ h => by exact h) (Or.inl ⟨by rfl, ?_⟩) (by assumption) ?_
      rotate_left
      · (intro w hSw; (try dsimp only at hSw); go_simp; try with_reducible rfl)
      try simp only [Act.put, List.setIfInBounds_toArray, List.set_cons_zero, List.set_cons_succ]
      refine wpAnyH_ready (rs := [4]) (by kernel_rfl) (by simp) ?_
      refine AllReadyH.cons (by simp only [List.getElem?_toArray, List.getElem?_cons_succ, List.getElem?_cons_zero]; rfl) (fun K hK => ?_) AllReadyH.nil
      go_simp
      have HK1 := Lib.hid (st_keep (show Below wX.heap.size wX w2.drew ∧ w2.drew.cell? ⟨w.heap.size, 0, none⟩ = some (.string xn) ∧ w2.drew.cell? ⟨w.heap.size, 1, none⟩ = some (.int .i64 xp) from ⟨HB1.out.drew, y0, y1⟩) ((Below.refl w2.drew.heap.size w2.drew).alloc (Nat.le_refl _) (.cells #[.string xn, .int .i64 xp] 30)) HXB.out)
      try go_wp2_with fail
      refine hK.out _ _ ?_ (fun hHeld => ?_)
      · exact HK1.out
      clear hK K
      try simp only [Act.put, List.setIfInBounds_toArray, List.set_cons_zero, List.set_cons_succ]
      refine wpAnyH_ready (rs := [8]) (by kernel_rfl) (by simp) ?_
      refine AllReadyH.cons (by simp only [List.getElem?_toArray, List.getElem?_cons_succ, List.getElem?_cons_zero]; rfl) (fun K hK => ?_) AllReadyH.nil
      go_simp
      have HK2 := Lib.hid (st_keep HK1.out ((Below.refl (w2.drew.alloc (.cells #[.string xn, .int .i64 xp] 30)).heap.size (w2.drew.alloc (.cells #[.string xn, .int .i64 xp] 30))).alloc (Nat.le_refl _) (.cells #[.slice (some ad) i c, .slice (some ⟨w2.drew.heap.size, 0, none⟩) 1 1, .slice (some (ad.add (i * 2))) (n - i) (c - i)] 22)) HXB.out); have cc := cat3 (W := w2.drew.alloc (.cells #[.string xn, .int .i64 xp] 30)) (p := ⟨some ad, T, c⟩) (m := ⟨some ⟨w2.drew.heap.size, 0, none⟩, [⟨xn, xp⟩], 1⟩) (q := ⟨some (ad.add (i * 2)), D, c - i⟩) i 1 (n - i) (HT.out.later (HB1.out.drew.trans (((Below.refl w2.drew.heap.size w2.drew).alloc (Nat.le_refl _) (.cells #[.string xn, .int .i64 xp] 30)).mono HB1.out.drew.size))) (pcs_one w2.drew xn xp) (HD.out.later (HB1.out.drew.trans (((Below.refl w2.drew.heap.size w2.drew).alloc (Nat.le_refl _) (.cells #[.string xn, .int .i64 xp] 30)).mono HB1.out.drew.size))) HTL.out rfl HDL.out (by omega) 22; rw [show (w2.drew.alloc (.cells #[.string xn, .int .i64 xp] 30)).heap.size = w2.heap.size + 1 by simp] at cc; have CC := Lib.hid cc; clear cc
      try go_wp2_with fail
      refine hK.out _ _ ?_ (fun hHeld => ?_)
      · exact HK2.out
      clear hK K
      try simp only [Act.put, List.setIfInBounds_toArray, List.set_cons_zero, List.set_cons_succ]
      refine wpAnyH_ready (rs := [9]) (by kernel_rfl) (by simp) ?_
      refine AllReadyH.cons (by simp only [List.getElem?_toArray, List.getElem?_cons_succ, List.getElem?_cons_zero]; rfl) (fun K hK => ?_) AllReadyH.nil
      go_simp
      (go_at_call 33; refine (CC.out).mono ?_; rintro e w3 ⟨a3, c3, rfl, hm3, hb3⟩; have HK3 := Lib.hid (st_keep HK2.out hb3 HXB.out); have HM3 := Lib.hid (hm3.more (B' := fun b => w.heap.size ≤ b ∧ b < w3.heap.size) (fun b hb => ⟨by have h1 := HK2.out.1.size; have h2 := HXB.out; have h3 := hb.1; omega, hb.2⟩)); clear hb3 hm3)
      try go_wp2_with fail
      refine hK.out _ _ ?_ (fun hHeld => ?_)
      · exact HK3.out
      clear hK K
      try simp only [Act.put, List.setIfInBounds_toArray, List.set_cons_zero, List.set_cons_succ]
      refine wpAnyH_take (i := 10) (v := ?_) (by simp only [List.getElem?_toArray, List.getElem?_cons_succ, List.getElem?_cons_zero]; rfl) (by kernel_rfl) (by kernel_rfl) (by kernel_rfl) (fun _ _ _ h => by exact h) (Or.inl ⟨by rfl, ?_⟩) (by assumption) ?_
      rotate_left
      · (intro w hSw; (try dsimp only at hSw); go_simp; try with_reducible rfl)
      try simp only [Act.put, List.setIfInBounds_toArray, List.set_cons_zero, List.set_cons_succ]
      refine wpAnyH_take (i := 11) (v := ?_) (by simp only [List.getElem?_toArray, List.getElem?_cons_succ, List.getElem?_cons_zero]; rfl) (by kernel_rfl) (by kernel_rfl) (by kernel_rfl) (fun _ _ _ h => by exact h) (Or.inl ⟨by rfl, ?_⟩) (by assumption) ?_
      rotate_left
      · (intro w hSw; (try dsimp only at hSw); go_simp; try with_reducible rfl)
      try simp only [Act.put, List.setIfInBounds_toArray, List.set_cons_zero, List.set_cons_succ]
      refine wpAnyH_done (by kernel_rfl) ?_ _
      go_wp2_with fail
      go_ret2
      exact ⟨a3, c3, by simp, HM3.out, HEND.out _ HK3.out.1⟩

theorem mset_any (a : Option Addr) (l : List Mrk) (c : Nat) (x : Mrk) (w : World) (hp : Pcs w ⟨a, l, c⟩) (hlc : l.length ≤ c) (hc : c ≤ maxLen) (hl : l.length ≤ 40) (hx : x.name.size ≤ maxLen) (hri : riseM l = true) :
    Calls Try.prog 14 #[.slice a l.length c, x.v] w (RetSet w (setM l x)) := by
  unfold setM
  by_cases h1 : markB x.name.data.toList = false
  · rw [if_pos h1]
    exact mset_name a l c x w hp hlc hc hl hx h1
  rw [if_neg h1]
  have h1 : markB x.name.data.toList = true := by simpa using h1
  by_cases h2 : l.findIdx (nmB x.name) < l.length
  · rw [if_pos h2]
    exact mset_old a l c x w hp hlc hc hl hx hri h1 h2
  rw [if_neg h2]
  by_cases h3 : 16 ≤ l.length
  · rw [if_pos h3]
    exact mset_many a l c x w hp hlc hc hl hx h1 h2 h3
  · rw [if_neg h3]
    exact mset_new a l c x w hp hlc hc hl hx h1 h2 h3
end Go.Proofs.Ytimlfgjljnkbcaa
