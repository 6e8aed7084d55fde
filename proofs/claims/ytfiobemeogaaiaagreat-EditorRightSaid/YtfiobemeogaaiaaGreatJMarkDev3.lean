/-
  Joined: MarkDev3, MarkDev4.
-/
import Derived.Test.YtfiobemeogaaiaaGreatSq
import Derived.Test.YtfiobemeogaaiaaGreatJMarkDev
import Derived.Test.YtfiobemeogaaiaaGreatJMarkCat
import Derived.Deep.RegionHeld3
import Derived.Test.YtfiobemeogaaiaaGreatJEditDev
namespace Go.Proofs.YtfiobemeogaaiaaGreat
open Lib (hid)
open Go.RowKit
set_option linter.unusedVariables false
theorem Mrks.take {w : World} {B : Nat → Prop} {a : Option Addr} {l : List Mrk} (h : Mrks w B a l) (n : Nat) : Mrks w B a (l.take n) := fun k hk => by
  have hk2 : k < l.length := by rw [List.length_take] at hk; omega
  obtain ⟨ad, e, hb, q0, q1⟩ := h k hk2
  exact ⟨ad, e, hb, by rw [List.getElem_take]; exact q0, by rw [List.getElem_take]; exact q1⟩
theorem add_add (ad : Addr) (n k : Nat) : (ad.add n).add k = ad.add (n + k) := by
  unfold Addr.add
  by_cases hk : k = 0
  · subst hk; simp
  · by_cases hn : n = 0
    · subst hn; simp [hk]
    · simp [hk, hn]; omega
theorem Mrks.drop {w : World} {B : Nat → Prop} {ad : Addr} {l : List Mrk} (h : Mrks w B (some ad) l) (n : Nat) : Mrks w B (some (ad.add (n * 2))) (l.drop n) := fun k hk => by
  have hk2 : n + k < l.length := by rw [List.length_drop] at hk; omega
  obtain ⟨ad', e, hb, q0, q1⟩ := h (n + k) hk2
  obtain rfl : ad = ad' := by injection e
  have e1 : (ad.add (n * 2)).add (k * 2) = ad.add ((n + k) * 2) := by rw [add_add]; congr 1; omega
  refine ⟨_, rfl, by rw [show (ad.add (n * 2)).block = ad.block by unfold Addr.add; split <;> rfl]; exact hb, by rw [e1, List.getElem_drop]; exact q0, by rw [e1, List.getElem_drop]; exact q1⟩
theorem Pcs.later {w W : World} {x : Pc} (h : Pcs w x) (hb : Below w.heap.size w W) : Pcs W x := ⟨(h.row.below (fun _ h => h) hb).more fun b hb2 => Nat.lt_of_lt_of_le hb2 hb.size, h.nil⟩
theorem Pcs.take {w : World} {a : Option Addr} {l : List Mrk} {c : Nat} (h : Pcs w ⟨a, l, c⟩) (n : Nat) : Pcs w ⟨a, l.take n, c⟩ := ⟨Mrks.take h.row n, h.nil⟩
theorem cat2 {W : World} {p q : Pc} (i j : Nat) (hp : Pcs W p) (hq : Pcs W q) (hi : p.l.length = i) (hj : q.l.length = j) (hs : i + j ≤ 1000) (t : TypeId) :
    Calls Tryz.prog 135 #[.slice (some ⟨W.heap.size, 0, none⟩) 2 2] (W.alloc (.cells #[.slice p.a i p.c, .slice q.a j q.c] t)) (RetMrksR (W.alloc (.cells #[.slice p.a i p.c, .slice q.a j q.c] t)) (p.l ++ q.l)) := by
  have hb : Below W.heap.size W (W.alloc (.cells #[.slice p.a i p.c, .slice q.a j q.c] t)) := (Below.refl W.heap.size W).alloc (Nat.le_refl _) _
  have h := concat22_anyR W.heap.size [p, q] (W.alloc (.cells #[.slice p.a i p.c, .slice q.a j q.c] t)) (by simp) (fun k hk => by
    match k, hk with
    | 0, _ => simp [World.cell?_alloc_new, Pc.v, hi]
    | 1, _ => simp [World.cell?_alloc_new, Pc.v, hj]) (fun k hk => by
    match k, hk with
    | 0, _ => exact hp.later hb
    | 1, _ => exact hq.later hb) (by simp) (by simp [sumP]; omega)
  have e : catP [p, q] = p.l ++ q.l := by simp [catP]
  rw [e] at h
  exact h
theorem cat3 {W : World} {p m q : Pc} (i n j : Nat) (hp : Pcs W p) (hm : Pcs W m) (hq : Pcs W q) (hi : p.l.length = i) (hn : m.l.length = n) (hj : q.l.length = j) (hs : i + n + j ≤ 1000) (t : TypeId) :
    Calls Tryz.prog 135 #[.slice (some ⟨W.heap.size, 0, none⟩) 3 3] (W.alloc (.cells #[.slice p.a i p.c, .slice m.a n m.c, .slice q.a j q.c] t)) (RetMrksR (W.alloc (.cells #[.slice p.a i p.c, .slice m.a n m.c, .slice q.a j q.c] t)) (p.l ++ m.l ++ q.l)) := by
  have hb : Below W.heap.size W (W.alloc (.cells #[.slice p.a i p.c, .slice m.a n m.c, .slice q.a j q.c] t)) := (Below.refl W.heap.size W).alloc (Nat.le_refl _) _
  have h := concat22_anyR W.heap.size [p, m, q] (W.alloc (.cells #[.slice p.a i p.c, .slice m.a n m.c, .slice q.a j q.c] t)) (by simp) (fun k hk => by
    match k, hk with
    | 0, _ => simp [World.cell?_alloc_new, Pc.v, hi]
    | 1, _ => simp [World.cell?_alloc_new, Pc.v, hn]
    | 2, _ => simp [World.cell?_alloc_new, Pc.v, hj]) (fun k hk => by
    match k, hk with
    | 0, _ => exact hp.later hb
    | 1, _ => exact hm.later hb
    | 2, _ => exact hq.later hb) (by simp) (by simp [sumP]; omega)
  have e : catP [p, m, q] = p.l ++ m.l ++ q.l := by simp [catP]
  rw [e] at h
  exact h
theorem Pcs.drop {w : World} {ad : Addr} {l : List Mrk} {c : Nat} (h : Pcs w ⟨some ad, l, c⟩) (n : Nat) : Pcs w ⟨some (ad.add (n * 2)), l.drop n, c - n⟩ := ⟨Mrks.drop h.row n, fun e => by cases e⟩
theorem pcs_none (w : World) (a : Addr) (c : Nat) : Pcs w ⟨some a, [], c⟩ := ⟨fun k hk => absurd hk (by simp), fun e => by cases e⟩
set_option maxRecDepth 100000 in
set_option maxHeartbeats 1600000 in
theorem mdrop_anyR (a : Option Addr) (l : List Mrk) (c : Nat) (s : ByteArray) (w : World) (hp : Pcs w ⟨a, l, c⟩) (hlc : l.length ≤ c) (hc : c ≤ maxLen) (hl : l.length ≤ 40) (hri : riseM l = true) :
    Calls Tryz.prog 106 #[.slice a l.length c, .string s] w (RetSetR w (drpM l s)) := by
  unfold maxLen at hc
  have hr : Mrks w (· < w.heap.size) a l := hp.row
  have cf := mfind_name a l c s _ w hr (fun _ h => h) (by omega) (fun W x _ _ => name_of x W)
  by_cases hi : l.findIdx (nmB s) < l.length
  case neg =>
    have e2 : drpM l s = ([], 8) := by unfold drpM; rw [if_neg hi]
    rw [e2]
    rw [decide_eq_false hi] at cf
    obtain ⟨n, hn⟩ : ∃ n, l.length = n := ⟨_, rfl⟩
    rw [hn] at cf ⊢
    obtain ⟨i, he⟩ : ∃ i, l.findIdx (nmB s) = i := ⟨_, rfl⟩
    rw [he] at cf
    have CF := hid cf
    clear hr cf hi he hn e2 hp hri hlc hl
    go_enter Tryz.func106, Tryz.ntmps106
    go_wp2_with fail
    refine CF.out.mono ?_
    rintro e w1 ⟨rfl, hb1⟩
    go_wp2
    go_ret2
    exact ⟨none, 0, rfl, MrkR.none _ _, hb1⟩
  have e2 : drpM l s = (l.take (l.findIdx (nmB s)) ++ l.drop (l.findIdx (nmB s) + 1), 0) := by unfold drpM; rw [if_pos hi, drop_rise hri hi]
  rw [e2]
  rw [decide_eq_true hi] at cf
  obtain ⟨i, he⟩ : ∃ i, l.findIdx (nmB s) = i := ⟨_, rfl⟩
  rw [he] at hi cf ⊢
  obtain ⟨ad, rfl⟩ : ∃ ad, a = some ad := by
    obtain ⟨ad, e, -⟩ := hr i hi
    exact ⟨ad, e⟩
  have ht := hp.take i
  have hd := hp.drop (i + 1)
  have hd0 : c = i + 1 → l.drop (i + 1) = [] := fun h => List.drop_eq_nil_of_le (by omega)
  have htl : (l.take i).length = i := by rw [List.length_take]; omega
  have hdl : (l.drop (i + 1)).length = l.length - (i + 1) := by rw [List.length_drop]
  obtain ⟨n, hn⟩ : ∃ n, l.length = n := ⟨_, rfl⟩
  rw [hn] at hi hl cf hlc hdl ⊢
  obtain ⟨T, hT⟩ : ∃ T, l.take i = T := ⟨_, rfl⟩
  obtain ⟨D, hD⟩ : ∃ D, l.drop (i + 1) = D := ⟨_, rfl⟩
  rw [hT] at ht htl ⊢
  rw [hD] at hd hd0 hdl ⊢
  have CF := hid cf; have HT := hid ht; have HD := hid hd; have HD0 := hid hd0; have HTL := hid htl; have HDL := hid hdl
  clear hr cf he hn e2 hp hri ht hd hd0 htl hdl hT hD
  have z0 : (0 : Int) ≤ (i : Int) := by omega
  have z1 : (i : Int) ≤ (c : Int) := by omega
  have z2 : (i : Int) + 1 ≤ (n : Int) := by omega
  have z3 : (0 : Int) ≤ (i : Int) + 1 := by omega
  have z4 : (n : Int) ≤ (c : Int) := by omega
  have z5 : ((i : Int) + 1).toNat = i + 1 := by omega
  have z6 : IntKind.i64.wrap ((i : Int) + 1) = (i : Int) + 1 := by rw [IntKind.wrap_i64]; omega
  by_cases hce : c = i + 1
  · have hn1 : n = i + 1 := by omega
    have D0 := HD0.out hce
    subst hce
    subst hn1
    subst D0
    have z7 : (i : Int) ≤ (i : Int) + 1 := by omega
    clear HD HD0
    go_enter Tryz.func106, Tryz.ntmps106
    go_wp2_with fail
    refine CF.out.mono ?_
    rintro e w1 ⟨rfl, hb1⟩
    have HB1 := hid hb1
    clear hb1
    go_wp2_with fail
    refine wp_region_held_drew (S := (fun w' : World => Below w.heap.size w w')) (by kernel_rfl) HB1.out.drew (fun hHeld => ?_)
    refine wpAnyH_take (i := 0) (v := ?_) (by simp only [List.getElem?_toArray, List.getElem?_cons_zero]; rfl) (by kernel_rfl) (by kernel_rfl) (by kernel_rfl) (fun _ _ _ h => by exact h) (Or.inl ⟨by rfl, ?_⟩) (by assumption) ?_
    rotate_left
    · (intro w hSw; (try dsimp only at hSw); go_simp; try with_reducible rfl)
    try simp only [Act.put, sqp]
    refine sqt 1 ?_
    try simp only [Act.put, sqp]
    refine sqt 2 ?_
    try simp only [Act.put, sqp]
    refine sqt 3 ?_
    try simp only [Act.put, sqp]
    refine sqt 4 ?_
    try simp only [Act.put, sqp]
    refine sqt 5 ?_
    try simp only [Act.put, sqp]
    refine sqt 6 ?_
    try simp only [Act.put, sqp]
    refine wpAnyH_ready (rs := [7]) (by kernel_rfl) (by simp) ?_
    refine AllReadyH.cons (by simp only [sqg]; rfl) (fun K hK => ?_) AllReadyH.nil
    go_simp
    have HB2 := hid (HB1.out.drew.alloc HB1.out.size (.cells #[.slice (some ad) i (i + 1), .slice (some ad) 0 0] 27)); have CC := hid (cat2 (W := w1.drew) (p := ⟨some ad, T, (i + 1)⟩) (q := ⟨some ad, [], 0⟩) i 0 (HT.out.later HB1.out.drew) (pcs_none _ _ _) HTL.out rfl (by omega) 27)
    try go_wp2_with fail
    refine hK.out _ _ ?_ (fun hHeld => ?_)
    · exact HB2.out
    clear hK K
    try simp only [Act.put, sqp]
    refine wpAnyH_ready (rs := [8]) (by kernel_rfl) (by simp) ?_
    refine AllReadyH.cons (by simp only [sqg]; rfl) (fun K hK => ?_) AllReadyH.nil
    go_simp
    (go_at_call 135; refine (CC.out).mono ?_; rintro e w3 ⟨a3, c3, rfl, hm3, hb3⟩; have HB3 := hid (HB2.out.trans (hb3.mono HB2.out.size)); have HM3 := hid (hm3.more HB2.out.size); clear hb3 hm3)
    try go_wp2_with fail
    refine hK.out _ _ ?_ (fun hHeld => ?_)
    · exact HB3.out
    clear hK K
    try simp only [Act.put, sqp]
    refine sqt 9 ?_
    try simp only [Act.put, sqp]
    refine sqt 10 ?_
    try simp only [Act.put, sqp]
    refine wpAnyH_done (by kernel_rfl) ?_ _
    go_wp2_with fail
    go_ret2
    exact ⟨a3, c3, by simp, HM3.out, HB3.out⟩
  · clear HD0
    go_enter Tryz.func106, Tryz.ntmps106
    go_wp2_with fail
    refine CF.out.mono ?_
    rintro e w1 ⟨rfl, hb1⟩
    have HB1 := hid hb1
    clear hb1
    go_wp2_with fail
    refine wp_region_held_drew (S := (fun w' : World => Below w.heap.size w w')) (by kernel_rfl) HB1.out.drew (fun hHeld => ?_)
    refine wpAnyH_take (i := 0) (v := ?_) (by simp only [List.getElem?_toArray, List.getElem?_cons_zero]; rfl) (by kernel_rfl) (by kernel_rfl) (by kernel_rfl) (fun _ _ _ h => by exact h) (Or.inl ⟨by rfl, ?_⟩) (by assumption) ?_
    rotate_left
    · (intro w hSw; (try dsimp only at hSw); go_simp; try with_reducible rfl)
    try simp only [Act.put, sqp]
    refine sqt 1 ?_
    try simp only [Act.put, sqp]
    refine sqt 2 ?_
    try simp only [Act.put, sqp]
    refine sqt 3 ?_
    try simp only [Act.put, sqp]
    refine sqt 4 ?_
    try simp only [Act.put, sqp]
    refine sqt 5 ?_
    try simp only [Act.put, sqp]
    refine sqt 6 ?_
    try simp only [Act.put, sqp]
    refine wpAnyH_ready (rs := [7]) (by kernel_rfl) (by simp) ?_
    refine AllReadyH.cons (by simp only [sqg]; rfl) (fun K hK => ?_) AllReadyH.nil
    go_simp
    have HB2 := hid (HB1.out.drew.alloc HB1.out.size (.cells #[.slice (some ad) i c, .slice (some (ad.add ((i + 1) * 2))) (n - (i + 1)) (c - (i + 1))] 27)); have CC := hid (cat2 (W := w1.drew) (p := ⟨some ad, T, c⟩) (q := ⟨some (ad.add ((i + 1) * 2)), D, c - (i + 1)⟩) i (n - (i + 1)) (HT.out.later HB1.out.drew) (HD.out.later HB1.out.drew) HTL.out HDL.out (by omega) 27)
    try go_wp2_with fail
    refine hK.out _ _ ?_ (fun hHeld => ?_)
    · exact HB2.out
    clear hK K
    try simp only [Act.put, sqp]
    refine wpAnyH_ready (rs := [8]) (by kernel_rfl) (by simp) ?_
    refine AllReadyH.cons (by simp only [sqg]; rfl) (fun K hK => ?_) AllReadyH.nil
    go_simp
    (go_at_call 135; refine (CC.out).mono ?_; rintro e w3 ⟨a3, c3, rfl, hm3, hb3⟩; have HB3 := hid (HB2.out.trans (hb3.mono HB2.out.size)); have HM3 := hid (hm3.more HB2.out.size); clear hb3 hm3)
    try go_wp2_with fail
    refine hK.out _ _ ?_ (fun hHeld => ?_)
    · exact HB3.out
    clear hK K
    try simp only [Act.put, sqp]
    refine sqt 9 ?_
    try simp only [Act.put, sqp]
    refine sqt 10 ?_
    try simp only [Act.put, sqp]
    refine wpAnyH_done (by kernel_rfl) ?_ _
    go_wp2_with fail
    go_ret2
    exact ⟨a3, c3, by simp, HM3.out, HB3.out⟩
theorem pcs_one (W : World) (xn : ByteArray) (xp : Int) : Pcs (W.alloc (.cells #[.string xn, .int .i64 xp] 64)) ⟨some ⟨W.heap.size, 0, none⟩, [⟨xn, xp⟩], 1⟩ :=
  ⟨fun k hk => by
    obtain rfl : k = 0 := by simpa using hk
    exact ⟨_, rfl, by simp, by simp [Addr.add, World.cell?_alloc_new], by simp [Addr.add, World.cell?_alloc_new]⟩, fun e => by cases e⟩
set_option maxRecDepth 100000 in
set_option maxHeartbeats 1600000 in
theorem mset_name (a : Option Addr) (l : List Mrk) (c : Nat) (x : Mrk) (w : World) (hp : Pcs w ⟨a, l, c⟩) (hlc : l.length ≤ c) (hc : c ≤ maxLen) (hl : l.length ≤ 40) (hx : x.name.size ≤ maxLen) (hm : markB x.name.data.toList = false) :
    Calls Tryz.prog 105 #[.slice a l.length c, x.v] w (RetSetR w ([], 7)) := by
  obtain ⟨xn, xp⟩ := x
  have cm := omay_any xn hx
  rw [hm] at cm
  have CM := hid cm; clear cm hm
  go_enter Tryz.func105, Tryz.ntmps105
  go_wp2_with fail
  refine (CM.out _).mono ?_
  rintro e w1 ⟨rfl, rfl⟩
  go_wp2
  go_ret2
  exact ⟨none, 0, rfl, MrkR.none _ _, (Below.refl w.heap.size w).alloc (Nat.le_refl _) _⟩
theorem st_keep {wX w2 w3 : World} {b : Nat} {x y : Value} (h : Below wX.heap.size wX w2 ∧ w2.cell? ⟨b, 0, none⟩ = some x ∧ w2.cell? ⟨b, 1, none⟩ = some y) (hb : Below w2.heap.size w2 w3) (hx : b < wX.heap.size) : Below wX.heap.size wX w3 ∧ w3.cell? ⟨b, 0, none⟩ = some x ∧ w3.cell? ⟨b, 1, none⟩ = some y :=
  have hz : b < w2.heap.size := Nat.lt_of_lt_of_le hx h.1.size
  ⟨h.1.trans (hb.mono h.1.size), (hb.cell (p := ⟨b, 0, none⟩) hz).trans h.2.1, (hb.cell (p := ⟨b, 1, none⟩) hz).trans h.2.2⟩
set_option maxRecDepth 100000 in
set_option maxHeartbeats 1600000 in
theorem mset_old (a : Option Addr) (l : List Mrk) (c : Nat) (x : Mrk) (w : World) (hp : Pcs w ⟨a, l, c⟩) (hlc : l.length ≤ c) (hc : c ≤ maxLen) (hl : l.length ≤ 40) (hx : x.name.size ≤ maxLen) (hri : riseM l = true) (hm : markB x.name.data.toList = true) (hi : l.findIdx (nmB x.name) < l.length) :
    Calls Tryz.prog 105 #[.slice a l.length c, x.v] w (RetSetR w (withM (dropM l x.name) x, 0)) := by
  rw [set_rise hri hi]
  unfold maxLen at hc
  obtain ⟨xn, xp⟩ := x
  have cm := omay_any xn hx
  obtain ⟨wX, hwX⟩ : ∃ wX, w.alloc (.cells #[.string xn, .int .i64 xp] 64) = wX := ⟨_, rfl⟩
  have hb0 : Below w.heap.size w (w.alloc (.cells #[.string xn, .int .i64 xp] 64)) := (Below.refl w.heap.size w).alloc (Nat.le_refl _) _
  obtain ⟨x0, x1⟩ := box_mrk (N := w.heap.size + 1) (by omega) (Below.refl (w.heap.size + 1) (w.alloc (.cells #[.string xn, .int .i64 xp] 64)))
  have hX1 : w.heap.size + 1 ≤ wX.heap.size := by rw [← hwX]; simp
  rw [hwX] at x0 x1 hb0
  have hpX : Pcs wX ⟨a, l, c⟩ := hp.later hb0
  have hr : Mrks wX (· < wX.heap.size) a l := hpX.row
  have cf := mfind_name a l c xn _ wX hr (fun _ h => h) (by omega) (fun W x _ _ => name_of x W)
  have HEND := hid (fun w' (h : Below wX.heap.size wX w') => hb0.trans (h.mono (by omega)))
  have hi : l.findIdx (nmB xn) < l.length := hi
  rw [hm] at cm
  rw [decide_eq_true hi] at cf
  show Calls _ _ _ w (RetSetR w (l.take (l.findIdx (nmB xn)) ++ [⟨xn, xp⟩] ++ l.drop (l.findIdx (nmB xn) + 1), 0))
  obtain ⟨i, he⟩ : ∃ i, l.findIdx (nmB xn) = i := ⟨_, rfl⟩
  rw [he] at hi cf ⊢
  obtain ⟨ad, rfl⟩ : ∃ ad, a = some ad := by
    obtain ⟨ad, e, -⟩ := hr i hi
    exact ⟨ad, e⟩
  have ht := hpX.take i
  have hd := hpX.drop (i + 1)
  have hd0 : c = i + 1 → l.drop (i + 1) = [] := fun h => List.drop_eq_nil_of_le (by omega)
  have htl : (l.take i).length = i := by rw [List.length_take]; omega
  have hdl : (l.drop (i + 1)).length = l.length - (i + 1) := by rw [List.length_drop]
  obtain ⟨n, hn⟩ : ∃ n, l.length = n := ⟨_, rfl⟩
  rw [hn] at hi hl cf hlc hdl ⊢
  obtain ⟨T, hT⟩ : ∃ T, l.take i = T := ⟨_, rfl⟩
  obtain ⟨D, hD⟩ : ∃ D, l.drop (i + 1) = D := ⟨_, rfl⟩
  rw [hT] at ht htl ⊢
  rw [hD] at hd hd0 hdl ⊢
  have CM := hid cm; have CF := hid cf; have HT := hid ht; have HD := hid hd; have HD0 := hid hd0; have HTL := hid htl; have HDL := hid hdl; have HXB := hid (show w.heap.size < wX.heap.size by omega)
  clear cm hr cf he hn hp hpX hri ht hd hd0 htl hdl hT hD hb0 hX1 hm hx
  have z0 : (0 : Int) ≤ (i : Int) := by omega
  have z1 : (i : Int) ≤ (c : Int) := by omega
  have z2 : (i : Int) + 1 ≤ (n : Int) := by omega
  have z3 : (0 : Int) ≤ (i : Int) + 1 := by omega
  have z4 : (n : Int) ≤ (c : Int) := by omega
  have z5 : ((i : Int) + 1).toNat = i + 1 := by omega
  have z6 : IntKind.i64.wrap ((i : Int) + 1) = (i : Int) + 1 := by rw [IntKind.wrap_i64]; omega
  by_cases hce : c = i + 1
  · have hn1 : n = i + 1 := by omega
    have D0 := HD0.out hce
    subst hce
    subst hn1
    subst D0
    have z7 : (i : Int) ≤ (i : Int) + 1 := by omega
    clear HD HD0
    go_enter Tryz.func105, Tryz.ntmps105
    go_wp2_with fail
    refine (CM.out _).mono ?_
    rintro e w0 ⟨rfl, rfl⟩
    go_wp2_with fail
    refine CF.out.mono ?_
    rintro e w1 ⟨rfl, hb1⟩
    have HB1 := hid hb1
    clear hwX
    clear hb1
    have y0 := (HB1.out.cell (p := ⟨w.heap.size, 0, none⟩) HXB.out).trans x0
    have y1 := (HB1.out.cell (p := ⟨w.heap.size, 1, none⟩) HXB.out).trans x1
    go_wp2_with fail
    refine wp_region_held_drew (S := (fun w' : World => Below wX.heap.size wX w' ∧ w'.cell? ⟨w.heap.size, 0, none⟩ = some (.string xn) ∧ w'.cell? ⟨w.heap.size, 1, none⟩ = some (.int .i64 xp))) (by kernel_rfl) ⟨HB1.out.drew, y0, y1⟩ (fun hHeld => ?_)
    refine wpAnyH_take (i := 0) (v := ?_) (by simp only [List.getElem?_toArray, List.getElem?_cons_zero]; rfl) (by kernel_rfl) (by kernel_rfl) (by kernel_rfl) (fun _ _ _ h => by exact h) (Or.inl ⟨by rfl, ?_⟩) (by assumption) ?_
    rotate_left
    · (intro w hSw; (try dsimp only at hSw); go_simp; try with_reducible rfl)
    try simp only [Act.put, sqp]
    refine sqt 1 ?_
    try simp only [Act.put, sqp]
    refine sqt 2 ?_
    try simp only [Act.put, sqp]
    refine sqt 3 ?_
    try simp only [Act.put, sqp]
    refine sqt 5 ?_
    try simp only [Act.put, sqp]
    refine sqt 6 ?_
    try simp only [Act.put, sqp]
    refine sqt 7 ?_
    try simp only [Act.put, sqp]
    refine sqt 8 ?_
    try simp only [Act.put, sqp]
    refine wpAnyH_ready (rs := [4]) (by kernel_rfl) (by simp) ?_
    refine AllReadyH.cons (by simp only [sqg]; rfl) (fun K hK => ?_) AllReadyH.nil
    go_simp
    have HK1 := hid (st_keep (show Below wX.heap.size wX w1.drew ∧ w1.drew.cell? ⟨w.heap.size, 0, none⟩ = some (.string xn) ∧ w1.drew.cell? ⟨w.heap.size, 1, none⟩ = some (.int .i64 xp) from ⟨HB1.out.drew, y0, y1⟩) ((Below.refl w1.drew.heap.size w1.drew).alloc (Nat.le_refl _) (.cells #[.string xn, .int .i64 xp] 64)) HXB.out)
    try go_wp2_with fail
    refine hK.out _ _ ?_ (fun hHeld => ?_)
    · exact HK1.out
    clear hK K
    try simp only [Act.put, sqp]
    refine wpAnyH_ready (rs := [9]) (by kernel_rfl) (by simp) ?_
    refine AllReadyH.cons (by simp only [sqg]; rfl) (fun K hK => ?_) AllReadyH.nil
    go_simp
    have HK2 := hid (st_keep HK1.out ((Below.refl (w1.drew.alloc (.cells #[.string xn, .int .i64 xp] 64)).heap.size (w1.drew.alloc (.cells #[.string xn, .int .i64 xp] 64))).alloc (Nat.le_refl _) (.cells #[.slice (some ad) i (i + 1), .slice (some ⟨w1.drew.heap.size, 0, none⟩) 1 1, .slice (some ad) 0 0] 27)) HXB.out); have cc := cat3 (W := w1.drew.alloc (.cells #[.string xn, .int .i64 xp] 64)) (p := ⟨some ad, T, (i + 1)⟩) (m := ⟨some ⟨w1.drew.heap.size, 0, none⟩, [⟨xn, xp⟩], 1⟩) (q := ⟨some ad, [], 0⟩) i 1 0 (HT.out.later (HB1.out.drew.trans (((Below.refl w1.drew.heap.size w1.drew).alloc (Nat.le_refl _) (.cells #[.string xn, .int .i64 xp] 64)).mono HB1.out.drew.size))) (pcs_one w1.drew xn xp) (pcs_none _ _ _) HTL.out rfl rfl (by omega) 27; rw [show (w1.drew.alloc (.cells #[.string xn, .int .i64 xp] 64)).heap.size = w1.heap.size + 1 by simp] at cc; have CC := hid cc; clear cc
    try go_wp2_with fail
    refine hK.out _ _ ?_ (fun hHeld => ?_)
    · exact HK2.out
    clear hK K
    try simp only [Act.put, sqp]
    refine wpAnyH_ready (rs := [10]) (by kernel_rfl) (by simp) ?_
    refine AllReadyH.cons (by simp only [sqg]; rfl) (fun K hK => ?_) AllReadyH.nil
    go_simp
    (go_at_call 135; refine (CC.out).mono ?_; rintro e w3 ⟨a3, c3, rfl, hm3, hb3⟩; have HK3 := hid (st_keep HK2.out hb3 HXB.out); have HM3 := hid (hm3.more (b2 := w.heap.size) (by have h1 := HK2.out.1.size; have h2 := HXB.out; omega)); clear hb3 hm3)
    try go_wp2_with fail
    refine hK.out _ _ ?_ (fun hHeld => ?_)
    · exact HK3.out
    clear hK K
    try simp only [Act.put, sqp]
    refine sqt 11 ?_
    try simp only [Act.put, sqp]
    refine sqt 12 ?_
    try simp only [Act.put, sqp]
    refine wpAnyH_done (by kernel_rfl) ?_ _
    go_wp2_with fail
    go_ret2
    exact ⟨a3, c3, by simp, HM3.out, HEND.out _ HK3.out.1⟩
  · clear HD0
    go_enter Tryz.func105, Tryz.ntmps105
    go_wp2_with fail
    refine (CM.out _).mono ?_
    rintro e w0 ⟨rfl, rfl⟩
    go_wp2_with fail
    refine CF.out.mono ?_
    rintro e w1 ⟨rfl, hb1⟩
    have HB1 := hid hb1
    clear hwX
    clear hb1
    have y0 := (HB1.out.cell (p := ⟨w.heap.size, 0, none⟩) HXB.out).trans x0
    have y1 := (HB1.out.cell (p := ⟨w.heap.size, 1, none⟩) HXB.out).trans x1
    go_wp2_with fail
    refine wp_region_held_drew (S := (fun w' : World => Below wX.heap.size wX w' ∧ w'.cell? ⟨w.heap.size, 0, none⟩ = some (.string xn) ∧ w'.cell? ⟨w.heap.size, 1, none⟩ = some (.int .i64 xp))) (by kernel_rfl) ⟨HB1.out.drew, y0, y1⟩ (fun hHeld => ?_)
    refine wpAnyH_take (i := 0) (v := ?_) (by simp only [List.getElem?_toArray, List.getElem?_cons_zero]; rfl) (by kernel_rfl) (by kernel_rfl) (by kernel_rfl) (fun _ _ _ h => by exact h) (Or.inl ⟨by rfl, ?_⟩) (by assumption) ?_
    rotate_left
    · (intro w hSw; (try dsimp only at hSw); go_simp; try with_reducible rfl)
    try simp only [Act.put, sqp]
    refine sqt 1 ?_
    try simp only [Act.put, sqp]
    refine sqt 2 ?_
    try simp only [Act.put, sqp]
    refine sqt 3 ?_
    try simp only [Act.put, sqp]
    refine sqt 5 ?_
    try simp only [Act.put, sqp]
    refine sqt 6 ?_
    try simp only [Act.put, sqp]
    refine sqt 7 ?_
    try simp only [Act.put, sqp]
    refine sqt 8 ?_
    try simp only [Act.put, sqp]
    refine wpAnyH_ready (rs := [4]) (by kernel_rfl) (by simp) ?_
    refine AllReadyH.cons (by simp only [sqg]; rfl) (fun K hK => ?_) AllReadyH.nil
    go_simp
    have HK1 := hid (st_keep (show Below wX.heap.size wX w1.drew ∧ w1.drew.cell? ⟨w.heap.size, 0, none⟩ = some (.string xn) ∧ w1.drew.cell? ⟨w.heap.size, 1, none⟩ = some (.int .i64 xp) from ⟨HB1.out.drew, y0, y1⟩) ((Below.refl w1.drew.heap.size w1.drew).alloc (Nat.le_refl _) (.cells #[.string xn, .int .i64 xp] 64)) HXB.out)
    try go_wp2_with fail
    refine hK.out _ _ ?_ (fun hHeld => ?_)
    · exact HK1.out
    clear hK K
    try simp only [Act.put, sqp]
    refine wpAnyH_ready (rs := [9]) (by kernel_rfl) (by simp) ?_
    refine AllReadyH.cons (by simp only [sqg]; rfl) (fun K hK => ?_) AllReadyH.nil
    go_simp
    have HK2 := hid (st_keep HK1.out ((Below.refl (w1.drew.alloc (.cells #[.string xn, .int .i64 xp] 64)).heap.size (w1.drew.alloc (.cells #[.string xn, .int .i64 xp] 64))).alloc (Nat.le_refl _) (.cells #[.slice (some ad) i c, .slice (some ⟨w1.drew.heap.size, 0, none⟩) 1 1, .slice (some (ad.add ((i + 1) * 2))) (n - (i + 1)) (c - (i + 1))] 27)) HXB.out); have cc := cat3 (W := w1.drew.alloc (.cells #[.string xn, .int .i64 xp] 64)) (p := ⟨some ad, T, c⟩) (m := ⟨some ⟨w1.drew.heap.size, 0, none⟩, [⟨xn, xp⟩], 1⟩) (q := ⟨some (ad.add ((i + 1) * 2)), D, c - (i + 1)⟩) i 1 (n - (i + 1)) (HT.out.later (HB1.out.drew.trans (((Below.refl w1.drew.heap.size w1.drew).alloc (Nat.le_refl _) (.cells #[.string xn, .int .i64 xp] 64)).mono HB1.out.drew.size))) (pcs_one w1.drew xn xp) (HD.out.later (HB1.out.drew.trans (((Below.refl w1.drew.heap.size w1.drew).alloc (Nat.le_refl _) (.cells #[.string xn, .int .i64 xp] 64)).mono HB1.out.drew.size))) HTL.out rfl HDL.out (by omega) 27; rw [show (w1.drew.alloc (.cells #[.string xn, .int .i64 xp] 64)).heap.size = w1.heap.size + 1 by simp] at cc; have CC := hid cc; clear cc
    try go_wp2_with fail
    refine hK.out _ _ ?_ (fun hHeld => ?_)
    · exact HK2.out
    clear hK K
    try simp only [Act.put, sqp]
    refine wpAnyH_ready (rs := [10]) (by kernel_rfl) (by simp) ?_
    refine AllReadyH.cons (by simp only [sqg]; rfl) (fun K hK => ?_) AllReadyH.nil
    go_simp
    (go_at_call 135; refine (CC.out).mono ?_; rintro e w3 ⟨a3, c3, rfl, hm3, hb3⟩; have HK3 := hid (st_keep HK2.out hb3 HXB.out); have HM3 := hid (hm3.more (b2 := w.heap.size) (by have h1 := HK2.out.1.size; have h2 := HXB.out; omega)); clear hb3 hm3)
    try go_wp2_with fail
    refine hK.out _ _ ?_ (fun hHeld => ?_)
    · exact HK3.out
    clear hK K
    try simp only [Act.put, sqp]
    refine sqt 11 ?_
    try simp only [Act.put, sqp]
    refine sqt 12 ?_
    try simp only [Act.put, sqp]
    refine wpAnyH_done (by kernel_rfl) ?_ _
    go_wp2_with fail
    go_ret2
    exact ⟨a3, c3, by simp, HM3.out, HEND.out _ HK3.out.1⟩
set_option maxRecDepth 100000 in
set_option maxHeartbeats 1600000 in
theorem mset_many (a : Option Addr) (l : List Mrk) (c : Nat) (x : Mrk) (w : World) (hp : Pcs w ⟨a, l, c⟩) (hlc : l.length ≤ c) (hc : c ≤ maxLen) (hl : l.length ≤ 40) (hx : x.name.size ≤ maxLen) (hm : markB x.name.data.toList = true) (hi : ¬ l.findIdx (nmB x.name) < l.length) (h16 : 16 ≤ l.length) :
    Calls Tryz.prog 105 #[.slice a l.length c, x.v] w (RetSetR w ([], 9)) := by
  unfold maxLen at hc
  obtain ⟨xn, xp⟩ := x
  have cm := omay_any xn hx
  obtain ⟨wX, hwX⟩ : ∃ wX, w.alloc (.cells #[.string xn, .int .i64 xp] 64) = wX := ⟨_, rfl⟩
  have hb0 : Below w.heap.size w (w.alloc (.cells #[.string xn, .int .i64 xp] 64)) := (Below.refl w.heap.size w).alloc (Nat.le_refl _) _
  obtain ⟨x0, x1⟩ := box_mrk (N := w.heap.size + 1) (by omega) (Below.refl (w.heap.size + 1) (w.alloc (.cells #[.string xn, .int .i64 xp] 64)))
  have hX1 : w.heap.size + 1 ≤ wX.heap.size := by rw [← hwX]; simp
  rw [hwX] at x0 x1 hb0
  have hpX : Pcs wX ⟨a, l, c⟩ := hp.later hb0
  have hr : Mrks wX (· < wX.heap.size) a l := hpX.row
  have cf := mfind_name a l c xn _ wX hr (fun _ h => h) (by omega) (fun W x _ _ => name_of x W)
  have HEND := hid (fun w' (h : Below wX.heap.size wX w') => hb0.trans (h.mono (by omega)))
  have hi : ¬ l.findIdx (nmB xn) < l.length := hi
  rw [hm] at cm
  rw [decide_eq_false hi] at cf
  obtain ⟨i, he⟩ : ∃ i, l.findIdx (nmB xn) = i := ⟨_, rfl⟩
  rw [he] at cf
  obtain ⟨n, hn⟩ : ∃ n, l.length = n := ⟨_, rfl⟩
  rw [hn] at cf h16 ⊢
  have CM := hid cm; have CF := hid cf
  have z0 : (16 : Int) ≤ (n : Int) := by omega
  clear cm hr cf he hn hp hpX hb0 hm hx hi hlc hl
  go_enter Tryz.func105, Tryz.ntmps105
  go_wp2_with fail
  refine (CM.out _).mono ?_
  rintro e w0 ⟨rfl, rfl⟩
  go_wp2_with fail
  refine CF.out.mono ?_
  rintro e w1 ⟨rfl, hb1⟩
  go_wp2
  go_ret2
  exact ⟨none, 0, rfl, MrkR.none _ _, HEND.out _ hb1⟩
set_option maxRecDepth 100000 in
set_option maxHeartbeats 1600000 in
theorem mset_new (a : Option Addr) (l : List Mrk) (c : Nat) (x : Mrk) (w : World) (hp : Pcs w ⟨a, l, c⟩) (hlc : l.length ≤ c) (hc : c ≤ maxLen) (hl : l.length ≤ 40) (hx : x.name.size ≤ maxLen) (hm : markB x.name.data.toList = true) (hi : ¬ l.findIdx (nmB x.name) < l.length) (h16 : ¬ 16 ≤ l.length) :
    Calls Tryz.prog 105 #[.slice a l.length c, x.v] w (RetSetR w (withM l x, 0)) := by
  unfold maxLen at hc
  obtain ⟨xn, xp⟩ := x
  have cm := omay_any xn hx
  obtain ⟨wX, hwX⟩ : ∃ wX, w.alloc (.cells #[.string xn, .int .i64 xp] 64) = wX := ⟨_, rfl⟩
  have hb0 : Below w.heap.size w (w.alloc (.cells #[.string xn, .int .i64 xp] 64)) := (Below.refl w.heap.size w).alloc (Nat.le_refl _) _
  obtain ⟨x0, x1⟩ := box_mrk (N := w.heap.size + 1) (by omega) (Below.refl (w.heap.size + 1) (w.alloc (.cells #[.string xn, .int .i64 xp] 64)))
  have hX1 : w.heap.size + 1 ≤ wX.heap.size := by rw [← hwX]; simp
  rw [hwX] at x0 x1 hb0
  have hpX : Pcs wX ⟨a, l, c⟩ := hp.later hb0
  have hr : Mrks wX (· < wX.heap.size) a l := hpX.row
  have cf := mfind_name a l c xn _ wX hr (fun _ h => h) (by omega) (fun W x _ _ => name_of x W)
  have HEND := hid (fun w' (h : Below wX.heap.size wX w') => hb0.trans (h.mono (by omega)))
  have hi : ¬ l.findIdx (nmB xn) < l.length := hi
  rw [hm] at cm
  rw [decide_eq_false hi] at cf
  have cb : ∀ W, Below wX.heap.size wX W → Calls Tryz.prog 136 #[.slice a l.length c, .func (.func 137) #[] #[.pointer (some ⟨w.heap.size, 0, none⟩)], .bool true] W fun e w' => e = .returned (.tuple #[.int .i64 (l.findIdx (gtB xn) : Nat), .bool (decide (l.findIdx (gtB xn) < l.length))]) ∧ Below W.heap.size W w' := fun W hW =>
    mfind_behind a l c xn w.heap.size _ W (hpX.later hW).row (fun _ h => h) (by omega) fun W2 y h2 _ => behind_any y xn w.heap.size W2 (by have := hW.size; have := h2.size; omega) (((hW.trans (h2.mono hW.size)).cell (p := ⟨w.heap.size, 0, none⟩) (show w.heap.size < wX.heap.size by omega)).trans x0)
  obtain ⟨i0, he⟩ : ∃ i, l.findIdx (nmB xn) = i := ⟨_, rfl⟩
  rw [he] at cf
  show Calls _ _ _ w (RetSetR w (l.take (l.findIdx (gtB xn)) ++ [⟨xn, xp⟩] ++ l.drop (l.findIdx (gtB xn)), 0))
  have hg := idx_le l (gtB xn)
  obtain ⟨i, hgi⟩ : ∃ i, l.findIdx (gtB xn) = i := ⟨_, rfl⟩
  rw [hgi] at hg cb ⊢
  have ht := hpX.take i
  have hd : ∀ ad, a = some ad → Pcs wX ⟨some (ad.add (i * 2)), l.drop i, c - i⟩ := fun ad e => by subst e; exact hpX.drop i
  have hd0 : c = i → l.drop i = [] := fun h => List.drop_eq_nil_of_le (by omega)
  have hnil : a = none → l = [] ∧ c = 0 := fun e => ⟨hpX.len e, hpX.nil e⟩
  have htl : (l.take i).length = i := by rw [List.length_take]; omega
  have hdl : (l.drop i).length = l.length - i := by rw [List.length_drop]
  obtain ⟨q, hq⟩ : ∃ q, decide (i < l.length) = q := ⟨_, rfl⟩
  rw [hq] at cb
  obtain ⟨n, hn⟩ : ∃ n, l.length = n := ⟨_, rfl⟩
  have hn0 : a = none → n = 0 := fun e => by rw [← hn, (hnil e).1]; rfl
  have hc0 : a = none → c = 0 := fun e => (hnil e).2
  rw [hn] at hg hl cf cb hlc hdl h16 ⊢
  obtain ⟨T, hT⟩ : ∃ T, l.take i = T := ⟨_, rfl⟩
  obtain ⟨D, hD⟩ : ∃ D, l.drop i = D := ⟨_, rfl⟩
  rw [hT] at ht htl ⊢
  rw [hD] at hd hd0 hdl ⊢
  have CM := hid cm; have CF := hid cf; have CB := hid cb; have HT := hid ht; have HD := hid hd; have HD0 := hid hd0; have HTL := hid htl; have HDL := hid hdl; have HXB := hid (show w.heap.size < wX.heap.size by omega); have HN0 := hid hn0; have HC0 := hid hc0
  clear cm hr cf cb he hn hp hpX ht hd hd0 htl hdl hT hD hb0 hX1 hm hx hi hnil hgi hq hn0 hc0
  have z0 : (0 : Int) ≤ (i : Int) := by omega
  have z1 : (i : Int) ≤ (c : Int) := by omega
  have z2 : (i : Int) ≤ (n : Int) := by omega
  have z4 : (n : Int) ≤ (c : Int) := by omega
  have z8 : (n : Int) < 16 := by omega
  cases a with
  | none =>
    have n0 := HN0.out rfl
    have c0 := HC0.out rfl
    obtain rfl : i = 0 := by omega
    have T0 : T = [] := List.length_eq_zero_iff.1 HTL.out
    have D0 : D = [] := List.length_eq_zero_iff.1 (by rw [HDL.out]; omega)
    subst n0
    subst c0
    subst T0
    subst D0
    have PN := hid (fun W : World => (show Pcs W ⟨none, [], 0⟩ from ⟨fun k hk => absurd hk (by simp), fun _ => rfl⟩))
    clear HD HD0 HN0 HC0 z0 z1 z2 z4 z8
    go_enter Tryz.func105, Tryz.ntmps105
    go_wp2_with fail
    refine (CM.out _).mono ?_
    rintro e w0 ⟨rfl, rfl⟩
    go_wp2_with fail
    refine CF.out.mono ?_
    rintro e w1 ⟨rfl, hb1⟩
    have HB1 := hid hb1
    clear hwX
    go_wp2_with fail
    refine (CB.out _ hb1).mono ?_
    rintro e w2 ⟨rfl, hb2⟩
    have HB1 := hid (hb1.trans (hb2.mono hb1.size))
    clear hb2
    clear hb1
    have y0 := (HB1.out.cell (p := ⟨w.heap.size, 0, none⟩) HXB.out).trans x0
    have y1 := (HB1.out.cell (p := ⟨w.heap.size, 1, none⟩) HXB.out).trans x1
    go_wp2_with fail
    refine wp_region_held_drew (S := (fun w' : World => Below wX.heap.size wX w' ∧ w'.cell? ⟨w.heap.size, 0, none⟩ = some (.string xn) ∧ w'.cell? ⟨w.heap.size, 1, none⟩ = some (.int .i64 xp))) (by kernel_rfl) ⟨HB1.out.drew, y0, y1⟩ (fun hHeld => ?_)
    refine wpAnyH_take (i := 0) (v := ?_) (by simp only [List.getElem?_toArray, List.getElem?_cons_zero]; rfl) (by kernel_rfl) (by kernel_rfl) (by kernel_rfl) (fun _ _ _ h => by exact h) (Or.inl ⟨by rfl, ?_⟩) (by assumption) ?_
    rotate_left
    · (intro w hSw; (try dsimp only at hSw); go_simp; try with_reducible rfl)
    try simp only [Act.put, sqp]
    refine sqt 1 ?_
    try simp only [Act.put, sqp]
    refine sqt 2 ?_
    try simp only [Act.put, sqp]
    refine sqt 3 ?_
    try simp only [Act.put, sqp]
    refine sqt 5 ?_
    try simp only [Act.put, sqp]
    refine sqt 6 ?_
    try simp only [Act.put, sqp]
    refine sqt 7 ?_
    try simp only [Act.put, sqp]
    refine wpAnyH_ready (rs := [4]) (by kernel_rfl) (by simp) ?_
    refine AllReadyH.cons (by simp only [sqg]; rfl) (fun K hK => ?_) AllReadyH.nil
    go_simp
    have HK1 := hid (st_keep (show Below wX.heap.size wX w2.drew ∧ w2.drew.cell? ⟨w.heap.size, 0, none⟩ = some (.string xn) ∧ w2.drew.cell? ⟨w.heap.size, 1, none⟩ = some (.int .i64 xp) from ⟨HB1.out.drew, y0, y1⟩) ((Below.refl w2.drew.heap.size w2.drew).alloc (Nat.le_refl _) (.cells #[.string xn, .int .i64 xp] 64)) HXB.out)
    try go_wp2_with fail
    refine hK.out _ _ ?_ (fun hHeld => ?_)
    · exact HK1.out
    clear hK K
    try simp only [Act.put, sqp]
    refine wpAnyH_ready (rs := [8]) (by kernel_rfl) (by simp) ?_
    refine AllReadyH.cons (by simp only [sqg]; rfl) (fun K hK => ?_) AllReadyH.nil
    go_simp
    have HK2 := hid (st_keep HK1.out ((Below.refl (w2.drew.alloc (.cells #[.string xn, .int .i64 xp] 64)).heap.size (w2.drew.alloc (.cells #[.string xn, .int .i64 xp] 64))).alloc (Nat.le_refl _) (.cells #[.slice none 0 0, .slice (some ⟨w2.drew.heap.size, 0, none⟩) 1 1, .slice none 0 0] 27)) HXB.out); have cc := cat3 (W := w2.drew.alloc (.cells #[.string xn, .int .i64 xp] 64)) (p := ⟨none, [], 0⟩) (m := ⟨some ⟨w2.drew.heap.size, 0, none⟩, [⟨xn, xp⟩], 1⟩) (q := ⟨none, [], 0⟩) 0 1 0 (PN.out _) (pcs_one w2.drew xn xp) (PN.out _) rfl rfl rfl (by omega) 27; rw [show (w2.drew.alloc (.cells #[.string xn, .int .i64 xp] 64)).heap.size = w2.heap.size + 1 by simp] at cc; have CC := hid cc; clear cc
    try go_wp2_with fail
    refine hK.out _ _ ?_ (fun hHeld => ?_)
    · exact HK2.out
    clear hK K
    try simp only [Act.put, sqp]
    refine wpAnyH_ready (rs := [9]) (by kernel_rfl) (by simp) ?_
    refine AllReadyH.cons (by simp only [sqg]; rfl) (fun K hK => ?_) AllReadyH.nil
    go_simp
    (go_at_call 135; refine (CC.out).mono ?_; rintro e w3 ⟨a3, c3, rfl, hm3, hb3⟩; have HK3 := hid (st_keep HK2.out hb3 HXB.out); have HM3 := hid (hm3.more (b2 := w.heap.size) (by have h1 := HK2.out.1.size; have h2 := HXB.out; omega)); clear hb3 hm3)
    try go_wp2_with fail
    refine hK.out _ _ ?_ (fun hHeld => ?_)
    · exact HK3.out
    clear hK K
    try simp only [Act.put, sqp]
    refine sqt 10 ?_
    try simp only [Act.put, sqp]
    refine sqt 11 ?_
    try simp only [Act.put, sqp]
    refine wpAnyH_done (by kernel_rfl) ?_ _
    go_wp2_with fail
    go_ret2
    exact ⟨a3, c3, by simp, HM3.out, HEND.out _ HK3.out.1⟩
  | some ad =>
    have HD := hid (HD.out ad rfl)
    by_cases hce : c = i
    · have hn1 : n = i := by omega
      have D0 := HD0.out hce
      subst hce
      subst hn1
      subst D0
      clear HD HD0 HN0 HC0
      go_enter Tryz.func105, Tryz.ntmps105
      go_wp2_with fail
      refine (CM.out _).mono ?_
      rintro e w0 ⟨rfl, rfl⟩
      go_wp2_with fail
      refine CF.out.mono ?_
      rintro e w1 ⟨rfl, hb1⟩
      have HB1 := hid hb1
      clear hwX
      go_wp2_with fail
      refine (CB.out _ hb1).mono ?_
      rintro e w2 ⟨rfl, hb2⟩
      have HB1 := hid (hb1.trans (hb2.mono hb1.size))
      clear hb2
      clear hb1
      have y0 := (HB1.out.cell (p := ⟨w.heap.size, 0, none⟩) HXB.out).trans x0
      have y1 := (HB1.out.cell (p := ⟨w.heap.size, 1, none⟩) HXB.out).trans x1
      go_wp2_with fail
      refine wp_region_held_drew (S := (fun w' : World => Below wX.heap.size wX w' ∧ w'.cell? ⟨w.heap.size, 0, none⟩ = some (.string xn) ∧ w'.cell? ⟨w.heap.size, 1, none⟩ = some (.int .i64 xp))) (by kernel_rfl) ⟨HB1.out.drew, y0, y1⟩ (fun hHeld => ?_)
      refine wpAnyH_take (i := 0) (v := ?_) (by simp only [List.getElem?_toArray, List.getElem?_cons_zero]; rfl) (by kernel_rfl) (by kernel_rfl) (by kernel_rfl) (fun _ _ _ h => by exact h) (Or.inl ⟨by rfl, ?_⟩) (by assumption) ?_
      rotate_left
      · (intro w hSw; (try dsimp only at hSw); go_simp; try with_reducible rfl)
      try simp only [Act.put, sqp]
      refine sqt 1 ?_
      try simp only [Act.put, sqp]
      refine sqt 2 ?_
      try simp only [Act.put, sqp]
      refine sqt 3 ?_
      try simp only [Act.put, sqp]
      refine sqt 5 ?_
      try simp only [Act.put, sqp]
      refine sqt 6 ?_
      try simp only [Act.put, sqp]
      refine sqt 7 ?_
      try simp only [Act.put, sqp]
      refine wpAnyH_ready (rs := [4]) (by kernel_rfl) (by simp) ?_
      refine AllReadyH.cons (by simp only [sqg]; rfl) (fun K hK => ?_) AllReadyH.nil
      go_simp
      have HK1 := hid (st_keep (show Below wX.heap.size wX w2.drew ∧ w2.drew.cell? ⟨w.heap.size, 0, none⟩ = some (.string xn) ∧ w2.drew.cell? ⟨w.heap.size, 1, none⟩ = some (.int .i64 xp) from ⟨HB1.out.drew, y0, y1⟩) ((Below.refl w2.drew.heap.size w2.drew).alloc (Nat.le_refl _) (.cells #[.string xn, .int .i64 xp] 64)) HXB.out)
      try go_wp2_with fail
      refine hK.out _ _ ?_ (fun hHeld => ?_)
      · exact HK1.out
      clear hK K
      try simp only [Act.put, sqp]
      refine wpAnyH_ready (rs := [8]) (by kernel_rfl) (by simp) ?_
      refine AllReadyH.cons (by simp only [sqg]; rfl) (fun K hK => ?_) AllReadyH.nil
      go_simp
      have HK2 := hid (st_keep HK1.out ((Below.refl (w2.drew.alloc (.cells #[.string xn, .int .i64 xp] 64)).heap.size (w2.drew.alloc (.cells #[.string xn, .int .i64 xp] 64))).alloc (Nat.le_refl _) (.cells #[.slice (some ad) n n, .slice (some ⟨w2.drew.heap.size, 0, none⟩) 1 1, .slice (some ad) 0 0] 27)) HXB.out); have cc := cat3 (W := w2.drew.alloc (.cells #[.string xn, .int .i64 xp] 64)) (p := ⟨some ad, T, n⟩) (m := ⟨some ⟨w2.drew.heap.size, 0, none⟩, [⟨xn, xp⟩], 1⟩) (q := ⟨some ad, [], 0⟩) n 1 0 (HT.out.later (HB1.out.drew.trans (((Below.refl w2.drew.heap.size w2.drew).alloc (Nat.le_refl _) (.cells #[.string xn, .int .i64 xp] 64)).mono HB1.out.drew.size))) (pcs_one w2.drew xn xp) (pcs_none _ _ _) HTL.out rfl rfl (by omega) 27; rw [show (w2.drew.alloc (.cells #[.string xn, .int .i64 xp] 64)).heap.size = w2.heap.size + 1 by simp] at cc; have CC := hid cc; clear cc
      try go_wp2_with fail
      refine hK.out _ _ ?_ (fun hHeld => ?_)
      · exact HK2.out
      clear hK K
      try simp only [Act.put, sqp]
      refine wpAnyH_ready (rs := [9]) (by kernel_rfl) (by simp) ?_
      refine AllReadyH.cons (by simp only [sqg]; rfl) (fun K hK => ?_) AllReadyH.nil
      go_simp
      (go_at_call 135; refine (CC.out).mono ?_; rintro e w3 ⟨a3, c3, rfl, hm3, hb3⟩; have HK3 := hid (st_keep HK2.out hb3 HXB.out); have HM3 := hid (hm3.more (b2 := w.heap.size) (by have h1 := HK2.out.1.size; have h2 := HXB.out; omega)); clear hb3 hm3)
      try go_wp2_with fail
      refine hK.out _ _ ?_ (fun hHeld => ?_)
      · exact HK3.out
      clear hK K
      try simp only [Act.put, sqp]
      refine sqt 10 ?_
      try simp only [Act.put, sqp]
      refine sqt 11 ?_
      try simp only [Act.put, sqp]
      refine wpAnyH_done (by kernel_rfl) ?_ _
      go_wp2_with fail
      go_ret2
      exact ⟨a3, c3, by simp, HM3.out, HEND.out _ HK3.out.1⟩
    · clear HD0 HN0 HC0
      go_enter Tryz.func105, Tryz.ntmps105
      go_wp2_with fail
      refine (CM.out _).mono ?_
      rintro e w0 ⟨rfl, rfl⟩
      go_wp2_with fail
      refine CF.out.mono ?_
      rintro e w1 ⟨rfl, hb1⟩
      have HB1 := hid hb1
      clear hwX
      go_wp2_with fail
      refine (CB.out _ hb1).mono ?_
      rintro e w2 ⟨rfl, hb2⟩
      have HB1 := hid (hb1.trans (hb2.mono hb1.size))
      clear hb2
      clear hb1
      have y0 := (HB1.out.cell (p := ⟨w.heap.size, 0, none⟩) HXB.out).trans x0
      have y1 := (HB1.out.cell (p := ⟨w.heap.size, 1, none⟩) HXB.out).trans x1
      go_wp2_with fail
      refine wp_region_held_drew (S := (fun w' : World => Below wX.heap.size wX w' ∧ w'.cell? ⟨w.heap.size, 0, none⟩ = some (.string xn) ∧ w'.cell? ⟨w.heap.size, 1, none⟩ = some (.int .i64 xp))) (by kernel_rfl) ⟨HB1.out.drew, y0, y1⟩ (fun hHeld => ?_)
      refine wpAnyH_take (i := 0) (v := ?_) (by simp only [List.getElem?_toArray, List.getElem?_cons_zero]; rfl) (by kernel_rfl) (by kernel_rfl) (by kernel_rfl) (fun _ _ _ h => by exact h) (Or.inl ⟨by rfl, ?_⟩) (by assumption) ?_
      rotate_left
      · (intro w hSw; (try dsimp only at hSw); go_simp; try with_reducible rfl)
      try simp only [Act.put, sqp]
      refine sqt 1 ?_
      try simp only [Act.put, sqp]
      refine sqt 2 ?_
      try simp only [Act.put, sqp]
      refine sqt 3 ?_
      try simp only [Act.put, sqp]
      refine sqt 5 ?_
      try simp only [Act.put, sqp]
      refine sqt 6 ?_
      try simp only [Act.put, sqp]
      refine sqt 7 ?_
      try simp only [Act.put, sqp]
      refine wpAnyH_ready (rs := [4]) (by kernel_rfl) (by simp) ?_
      refine AllReadyH.cons (by simp only [sqg]; rfl) (fun K hK => ?_) AllReadyH.nil
      go_simp
      have HK1 := hid (st_keep (show Below wX.heap.size wX w2.drew ∧ w2.drew.cell? ⟨w.heap.size, 0, none⟩ = some (.string xn) ∧ w2.drew.cell? ⟨w.heap.size, 1, none⟩ = some (.int .i64 xp) from ⟨HB1.out.drew, y0, y1⟩) ((Below.refl w2.drew.heap.size w2.drew).alloc (Nat.le_refl _) (.cells #[.string xn, .int .i64 xp] 64)) HXB.out)
      try go_wp2_with fail
      refine hK.out _ _ ?_ (fun hHeld => ?_)
      · exact HK1.out
      clear hK K
      try simp only [Act.put, sqp]
      refine wpAnyH_ready (rs := [8]) (by kernel_rfl) (by simp) ?_
      refine AllReadyH.cons (by simp only [sqg]; rfl) (fun K hK => ?_) AllReadyH.nil
      go_simp
      have HK2 := hid (st_keep HK1.out ((Below.refl (w2.drew.alloc (.cells #[.string xn, .int .i64 xp] 64)).heap.size (w2.drew.alloc (.cells #[.string xn, .int .i64 xp] 64))).alloc (Nat.le_refl _) (.cells #[.slice (some ad) i c, .slice (some ⟨w2.drew.heap.size, 0, none⟩) 1 1, .slice (some (ad.add (i * 2))) (n - i) (c - i)] 27)) HXB.out); have cc := cat3 (W := w2.drew.alloc (.cells #[.string xn, .int .i64 xp] 64)) (p := ⟨some ad, T, c⟩) (m := ⟨some ⟨w2.drew.heap.size, 0, none⟩, [⟨xn, xp⟩], 1⟩) (q := ⟨some (ad.add (i * 2)), D, c - i⟩) i 1 (n - i) (HT.out.later (HB1.out.drew.trans (((Below.refl w2.drew.heap.size w2.drew).alloc (Nat.le_refl _) (.cells #[.string xn, .int .i64 xp] 64)).mono HB1.out.drew.size))) (pcs_one w2.drew xn xp) (HD.out.later (HB1.out.drew.trans (((Below.refl w2.drew.heap.size w2.drew).alloc (Nat.le_refl _) (.cells #[.string xn, .int .i64 xp] 64)).mono HB1.out.drew.size))) HTL.out rfl HDL.out (by omega) 27; rw [show (w2.drew.alloc (.cells #[.string xn, .int .i64 xp] 64)).heap.size = w2.heap.size + 1 by simp] at cc; have CC := hid cc; clear cc
      try go_wp2_with fail
      refine hK.out _ _ ?_ (fun hHeld => ?_)
      · exact HK2.out
      clear hK K
      try simp only [Act.put, sqp]
      refine wpAnyH_ready (rs := [9]) (by kernel_rfl) (by simp) ?_
      refine AllReadyH.cons (by simp only [sqg]; rfl) (fun K hK => ?_) AllReadyH.nil
      go_simp
      (go_at_call 135; refine (CC.out).mono ?_; rintro e w3 ⟨a3, c3, rfl, hm3, hb3⟩; have HK3 := hid (st_keep HK2.out hb3 HXB.out); have HM3 := hid (hm3.more (b2 := w.heap.size) (by have h1 := HK2.out.1.size; have h2 := HXB.out; omega)); clear hb3 hm3)
      try go_wp2_with fail
      refine hK.out _ _ ?_ (fun hHeld => ?_)
      · exact HK3.out
      clear hK K
      try simp only [Act.put, sqp]
      refine sqt 10 ?_
      try simp only [Act.put, sqp]
      refine sqt 11 ?_
      try simp only [Act.put, sqp]
      refine wpAnyH_done (by kernel_rfl) ?_ _
      go_wp2_with fail
      go_ret2
      exact ⟨a3, c3, by simp, HM3.out, HEND.out _ HK3.out.1⟩
theorem mset_anyR (a : Option Addr) (l : List Mrk) (c : Nat) (x : Mrk) (w : World) (hp : Pcs w ⟨a, l, c⟩) (hlc : l.length ≤ c) (hc : c ≤ maxLen) (hl : l.length ≤ 40) (hx : x.name.size ≤ maxLen) (hri : riseM l = true) :
    Calls Tryz.prog 105 #[.slice a l.length c, x.v] w (RetSetR w (setM l x)) := by
  unfold setM
  by_cases h1 : markB x.name.data.toList = false
  · rw [if_pos h1]
    exact mset_name a l c x w hp hlc hc hl hx h1
  rw [if_neg h1]
  have h1 : markB x.name.data.toList = true := by simpa using h1
  by_cases h2 : l.findIdx (nmB x.name) < l.length
  · rw [if_pos h2]
    exact mset_old a l c x w hp hlc hc hl hx hri h1 h2
  rw [if_neg h2]
  by_cases h3 : 16 ≤ l.length
  · rw [if_pos h3]
    exact mset_many a l c x w hp hlc hc hl hx h1 h2 h3
  · rw [if_neg h3]
    exact mset_new a l c x w hp hlc hc hl hx h1 h2 h3
end Go.Proofs.YtfiobemeogaaiaaGreat
namespace Go.Proofs.YtfiobemeogaaiaaGreat
open Go.RowKit
set_option linter.unusedVariables false
set_option maxHeartbeats 1000000 in
theorem mclone_some (ad : Addr) (l : List Mrk) (c : Nat) (w : World) (hr : Mrks w (· < w.heap.size) (some ad) l) (hl : l.length ≤ 1000000) :
    Calls Tryz.prog 71 #[.slice (some ad) l.length c] w fun e w' => ∃ v, e = .returned v ∧ w'.ownsRow w.heap.size 64 2 v l.length (Mrk.flat l) ∧ v ≠ .slice none 0 0 ∧ Below w.heap.size w w' := by
  obtain ⟨i0, hi, hz0, hz1, hz2⟩ := info_parts mrk_info
  have q22 : ∀ (w : World) (a : Option Addr) (n c n' c' : Nat), (binOp .eql 27 (.slice a n c) (.slice none n' c')).run Tryz.prog w = .ok (.bool a.isNone) w := fun w a n c n' c' => Lib.run_eql_slice_nil w _ _ a n c n' c' Tryz.underlying27
  have HNW := Lib.hid (mrks_news hr); have HFL := Lib.hid (Mrk.flat_len l); have HOF := Lib.hid (one_flat l)
  obtain ⟨n, hn⟩ : ∃ n, l.length = n := ⟨_, rfl⟩
  rw [hn] at hl HFL ⊢
  obtain ⟨F, hF⟩ : ∃ F, Mrk.flat l = F := ⟨_, rfl⟩
  rw [hF] at HNW HFL HOF ⊢
  clear hr hn hF
  go_enter Tryz.func71, Tryz.ntmps71
  go_wp2_with (at_builtin; refine wpList_append_own _ rfl _ _ 27 rfl w.heap.size 64 i0 _ 2 24 Tryz.underlying27 hi hz0 hz1 hz2 rfl (by decide) _ _ _ rfl (World.ownsRow_made w #[] 0 (Nat.le_refl _) (Nat.zero_le _) (by simp)) ad n c F rfl HFL.out (fun j u hj => Lib.cell?_alloc_some _ (HNW.out j u hj)) HOF.out (by unfold maxLen; omega) (by omega) (by simp) ?_)
  intro v' w1 hown hgrow hnil
  go_wp2
  go_ret
  refine ⟨v', rfl, by simpa using hown, ?_, ?_⟩
  · exact hnil
  · exact ((Below.refl _ w).alloc (Nat.le_refl _) _).grown hgrow (by simp) (by intro k hk; simp [Value.ownBlock] at hk; omega)
theorem mclone_nil (w : World) : Calls Tryz.prog 71 #[.slice none 0 0] w fun e w' => e = .returned (.slice none 0 0) ∧ w' = w := by
  have h := AnyE.slices_Clone_nil Tryz.mkClone 0 0 w
  change Calls Tryz.prog 71 _ _ _ at h
  exact h
def mixM (l : List Mrk) (F : Int → Int) (k : Nat) : List Mrk := shfM (l.take k) F ++ l.drop k
theorem mixM_len (l : List Mrk) (F : Int → Int) (k : Nat) : (mixM l F k).length = l.length := by
  unfold mixM
  rw [List.length_append, shfM_len, ← List.length_append, List.take_append_drop]
theorem mixM_get (l : List Mrk) (F : Int → Int) (k : Nat) (h : k < l.length) : (mixM l F k)[k]? = some l[k]! := by
  unfold mixM
  rw [List.getElem?_append_right (by rw [shfM_len, List.length_take]; omega), shfM_len, List.length_take, Nat.min_eq_left (by omega), Nat.sub_self, List.getElem?_drop, Nat.add_zero, List.getElem?_eq_getElem h, mget h]
theorem mixM_next (l : List Mrk) (F : Int → Int) (k : Nat) (h : k < l.length) : mixM l F (k + 1) = (mixM l F k).set k ⟨(l[k]!).name, F (l[k]!).p⟩ := by
  unfold mixM
  have hl : (shfM (l.take k) F).length = k := by rw [shfM_len, List.length_take]; omega
  rw [shfM_take l F k h, List.set_append_right _ _ (by rw [hl]; exact Nat.le_refl _), hl, Nat.sub_self, List.append_assoc]
  congr 1
  rw [List.drop_eq_getElem_cons h, List.set_cons_zero]
  rfl
theorem flat_set (l : List Mrk) (k : Nat) (x : Mrk) (h : k < l.length) (hx : x.name = (l[k]!).name) : (Mrk.flat l).set (k * 2 + 1) (.int .i64 x.p) = Mrk.flat (l.set k x) := by
  induction l generalizing k with
  | nil => simp at h
  | cons a r ih =>
    have e : ∀ y : Mrk, ∀ s, Mrk.flat (y :: s) = .string y.name :: .int .i64 y.p :: Mrk.flat s := fun y s => by simp [Mrk.flat]
    cases k with
    | zero =>
      have hx : x.name = a.name := hx
      rw [e, List.set_cons_zero, e, hx]
      rfl
    | succ k =>
      have e2 : (a :: r).set (k + 1) x = a :: r.set k x := rfl
      rw [e2, e, e, show (k + 1) * 2 + 1 = k * 2 + 1 + 1 + 1 by omega, List.set_cons_succ, List.set_cons_succ, ih k (by simpa using h) (by simpa using hx)]
theorem own_at {w : World} {base g cap : Nat} {t : TypeId} {n : Nat} {l : List Mrk} (h : w.ownsRow base t 2 (.slice (some ⟨g, 0, none⟩) n cap) n (Mrk.flat l)) (k : Nat) (hk : k < l.length) : w.cell? ⟨g, k * 2 + 1, none⟩ = some (.int .i64 (l[k]!).p) := by
  have hl : l.length = n := by have := h.1; rw [Mrk.flat_len] at this; omega
  rw [h.cellAt (k * 2 + 1) (by omega), (Mrk.flat_get l k hk).2, mget hk]
section
variable {wX w2 w3 : World} {b : Nat} {z u v : Value}
theorem sf_grown (h : Below wX.heap.size wX w2 ∧ w2.cell? ⟨b, 0, none⟩ = some z ∧ w2.cell? ⟨b, 1, none⟩ = some u ∧ w2.cell? ⟨b, 2, none⟩ = some v) (hb : Below wX.heap.size wX w3) (hx : b < wX.heap.size) :
    Below wX.heap.size wX w3 ∧ w3.cell? ⟨b, 0, none⟩ = some z ∧ w3.cell? ⟨b, 1, none⟩ = some u ∧ w3.cell? ⟨b, 2, none⟩ = some v := by
  have g : ∀ p : Addr, p.block < wX.heap.size → w3.cell? p = w2.cell? p := fun p hp => (hb.cell hp).trans (h.1.cell hp).symm
  exact ⟨hb, (g _ hx).trans h.2.1, (g _ hx).trans h.2.2.1, (g _ hx).trans h.2.2.2⟩
theorem sf_keep (h : Below wX.heap.size wX w2 ∧ w2.cell? ⟨b, 0, none⟩ = some z ∧ w2.cell? ⟨b, 1, none⟩ = some u ∧ w2.cell? ⟨b, 2, none⟩ = some v) (hb : Below w2.heap.size w2 w3) (hx : b < wX.heap.size) :
    Below wX.heap.size wX w3 ∧ w3.cell? ⟨b, 0, none⟩ = some z ∧ w3.cell? ⟨b, 1, none⟩ = some u ∧ w3.cell? ⟨b, 2, none⟩ = some v := sf_grown h (h.1.trans (hb.mono h.1.size)) hx
end
set_option maxRecDepth 100000 in
set_option maxHeartbeats 800000 in
theorem mshift_nil (c : Nat) (ep : Int) (eo en : ByteArray) (w : World) (hc : c = 0) : Calls Tryz.prog 156 #[.slice none 0 c, edV ep eo en] w (RetMrksR w []) := by
  subst hc
  show Calls Tryz.prog 156 #[.slice none 0 0, .agg #[.int .i64 ep, .string eo, .string en]] w _
  go_enter Tryz.func156, Tryz.ntmps156
  go_wp2_with fail
  refine (mclone_nil _).mono ?_
  rintro e w1 ⟨rfl, rfl⟩
  go_wp2
  refine wp_loop_rounds 1 ?_
  rw [rounds_succ]
  go_wp2
  go_ret
  exact ⟨none, 0, rfl, MrkR.none _ _, (Below.refl w.heap.size w).alloc (Nat.le_refl _) _⟩
set_option maxRecDepth 100000 in
set_option maxHeartbeats 1600000 in
theorem mshift_some (ad : Addr) (l : List Mrk) (c : Nat) (ep : Int) (eo en : ByteArray) (w : World) (hp : Pcs w ⟨some ad, l, c⟩) (hl : l.length ≤ 1000000)
    (ho : eo.size ≤ 4294967296) (hn : en.size ≤ 4294967296) (hpz : -2305843009213693952 ≤ ep ∧ ep ≤ 2305843009213693952) (ha : ∀ x ∈ l, -2305843009213693952 ≤ x.p ∧ x.p ≤ 2305843009213693952) :
    Calls Tryz.prog 156 #[.slice (some ad) l.length c, edV ep eo en] w (RetMrksR w (shfM l (shiftI ep eo.size en.size))) := by
  have cs := fun x (hx : x ∈ l) => shift_any ep x.p eo en ho hn hpz (ha x hx)
  obtain ⟨F, hF⟩ : ∃ F, shiftI ep eo.size en.size = F := ⟨_, rfl⟩
  rw [hF] at cs ⊢
  obtain ⟨wX, hwX⟩ : ∃ wX, w.alloc (.cells #[.int .i64 ep, .string eo, .string en] 87) = wX := ⟨_, rfl⟩
  have hb0 : Below w.heap.size w (w.alloc (.cells #[.int .i64 ep, .string eo, .string en] 87)) := (Below.refl w.heap.size w).alloc (Nat.le_refl _) _
  obtain ⟨x0, x1, x2⟩ := box_ed (N := w.heap.size + 1) (by omega) (Below.refl (w.heap.size + 1) (w.alloc (.cells #[.int .i64 ep, .string eo, .string en] 87)))
  have hX1 : w.heap.size + 1 ≤ wX.heap.size := by rw [← hwX]; simp
  rw [hwX] at x0 x1 x2 hb0
  have cc := mclone_some ad l c wX (hp.later hb0).row hl
  have hend : ∀ w', Below wX.heap.size wX w' → Below w.heap.size w w' := fun w' h => hb0.trans (h.mono (by omega))
  obtain ⟨n, hn2⟩ : ∃ n, l.length = n := ⟨_, rfl⟩
  rw [hn2] at hl cc ⊢
  have HN := Lib.hid hn2; have CS := Lib.hid cs; have HEND := Lib.hid hend; have HXB := Lib.hid (show w.heap.size < wX.heap.size by omega); have CC := Lib.hid cc
  clear hn2 hp cs hF hb0 hend ho hn hpz ha cc
  show Calls Tryz.prog 156 #[.slice (some ad) n c, .agg #[.int .i64 ep, .string eo, .string en]] w _
  go_enter Tryz.func156, Tryz.ntmps156
  go_wp2_with fail
  refine CC.out.mono ?_
  rintro e w1 ⟨v, rfl, hown1, hne, hbel1⟩
  obtain ⟨g, cap, rfl, hg⟩ : ∃ g cap, v = .slice (some ⟨g, 0, none⟩) n cap ∧ wX.heap.size ≤ g := by
    rcases hown1.2 with ⟨e0, -⟩ | ⟨g, cap, cur, e0, hb, -⟩
    · exact absurd e0 hne
    · exact ⟨g, cap, e0, hb⟩
  have HG := Lib.hid hg
  have HO1 := Lib.hid hown1; have HB1 := Lib.hid hbel1
  clear hwX hne hown1 hbel1 hg
  go_wp2
  go_loopw [10] (fun i wr => ∃ k : Nat, k ≤ n ∧ i = .int .i64 k ∧ wr.ownsRow wX.heap.size 64 2 (.slice (some ⟨g, 0, none⟩) n cap) n (Mrk.flat (mixM l F k)) ∧ Below wX.heap.size wX wr) (fun i _ => n - (intOf i).toNat)
  case atStart => exact ⟨0, Nat.zero_le _, rfl, by unfold mixM; simpa [shfM] using HO1.out, HB1.out⟩
  case round =>
    obtain ⟨k, hk, rfl, hown, hbel⟩ := hrel
    by_cases hlt : k < n
    · have hkl : k < l.length := by rw [HN.out]; exact hlt
      have y0 := (hbel.cell (p := ⟨w.heap.size, 0, none⟩) HXB.out).trans x0
      have y1 := (hbel.cell (p := ⟨w.heap.size, 1, none⟩) HXB.out).trans x1
      have y2 := (hbel.cell (p := ⟨w.heap.size, 2, none⟩) HXB.out).trans x2
      have hq := own_at hown k (by rw [mixM_len]; exact hkl)
      have hgk : (mixM l F k)[k]! = l[k]! := by rw [getElem!_def, mixM_get l F k hkl]
      have rs := CS.out _ (List.getElem_mem hkl)
      have hs : Mrk.flat (mixM l F (k + 1)) = (Mrk.flat (mixM l F k)).set (k * 2 + 1) (.int .i64 (F (l[k]!).p)) := by
        rw [mixM_next l F k hkl]
        exact (flat_set (mixM l F k) k ⟨(l[k]!).name, F (l[k]!).p⟩ (by rw [mixM_len]; exact hkl) (by rw [hgk])).symm
      rw [hgk] at hq
      rw [← mget hkl] at rs
      obtain ⟨id, hid⟩ : ∃ x, (l[k]!).p = x := ⟨_, rfl⟩
      rw [hid] at hs hq rs
      obtain ⟨r, hr⟩ : ∃ r, F id = r := ⟨_, rfl⟩
      rw [hr] at hs rs
      have hq2 : wr.drew.cell? ⟨g, k * 2 + 1, none⟩ = some (.int .i64 id) := hq
      have HS := Lib.hid hs; have RS := Lib.hid rs; have HO := Lib.hid hown.drew
      have b0 : (0 : Int) ≤ (k : Int) := by omega
      have b1 : (k : Int) < (n : Int) := by omega
      clear hs rs hr hX1 hown hgk hid hq
      go_wp2_with fail
      refine wp_region_held_drew (S := (fun w' : World => Below wX.heap.size wX w' ∧ w'.cell? ⟨w.heap.size, 0, none⟩ = some (.int .i64 ep) ∧ w'.cell? ⟨w.heap.size, 1, none⟩ = some (.string eo) ∧ w'.cell? ⟨w.heap.size, 2, none⟩ = some (.string en))) (by kernel_rfl) ⟨hbel.drew, y0, y1, y2⟩ (fun hHeld => ?_)
      refine wpAnyH_take (i := 0) (v := ?_) (by simp only [List.getElem?_toArray, List.getElem?_cons_zero]; rfl) (by kernel_rfl) (by kernel_rfl) (by kernel_rfl) (fun _ _ _ h => by exact h) (Or.inl ⟨by rfl, ?_⟩) (by assumption) ?_
      rotate_left
      · (intro w hSw; (try dsimp only at hSw); go_simp; try with_reducible rfl)
      try simp only [Act.put, sqp]
      refine sqt 1 ?_
      try simp only [Act.put, sqp]
      refine sqt 2 ?_
      try simp only [Act.put, sqp]
      refine sqt 3 ?_
      try simp only [Act.put, sqp]
      refine sqt 4 ?_
      try simp only [Act.put, sqp]
      refine sqt 5 ?_
      try simp only [Act.put, sqp]
      refine sqt 6 ?_
      try simp only [Act.put, sqp]
      refine wpAnyH_ready (rs := [7]) (by kernel_rfl) (by simp) ?_
      refine AllReadyH.cons (by simp only [sqg]; rfl) (fun K hK => ?_) AllReadyH.nil
      go_simp
      refine hK.out _ _ ?_ (fun hHeld => ?_)
      · exact hHeld
      clear hK K
      try simp only [Act.put, sqp]
      refine wpAnyH_ready (rs := [8]) (by kernel_rfl) (by simp) ?_
      refine AllReadyH.cons (by simp only [sqg]; rfl) (fun K hK => ?_) AllReadyH.nil
      go_simp
      (go_at_call 180; refine (RS.out _).mono ?_; rintro e w3 ⟨rfl, hb2⟩; have HK := Lib.hid (sf_keep hHeld hb2 HXB.out); have HO3 := Lib.hid (own_later HO.out hb2); clear hb2; have cz := own_at HO3.out k (by rw [mixM_len, HN.out]; exact hlt); have fz := HO3.out.frozenAt (k * 2 + 1))
      try go_wp2_with fail
      refine hK.out _ _ ?_ (fun hHeld => ?_)
      · exact HK.out
      clear hK K
      try simp only [Act.put, sqp]
      refine sqt 9 ?_
      try simp only [Act.put, sqp]
      refine sqt 10 ?_
      try simp only [Act.put, sqp]
      refine wpAnyH_ready (rs := [11]) (by kernel_rfl) (by simp) ?_
      refine AllReadyH.cons (by simp only [sqg]; rfl) (fun K hK => ?_) AllReadyH.nil
      go_simp
      have HB4 := Lib.hid (HK.out.1.setCell (p := ⟨g, k * 2 + 1, none⟩) HG.out (.int .i64 r)); have HK4 := Lib.hid (sf_grown HK.out HB4.out HXB.out); have HO4 := Lib.hid (HO3.out.stored (k * 2 + 1) (.int .i64 r)).1
      try go_wp2_with fail
      refine hK.out _ _ ?_ (fun hHeld => ?_)
      · exact HK4.out
      clear hK K
      try simp only [Act.put, sqp]
      refine wpAnyH_done (by kernel_rfl) ?_ _
      go_wp2_with fail
      go_roundw
      case rel => exact ⟨k + 1, by omega, by go_num, by rw [HS.out]; exact HO4.out, HB4.out⟩
      case measure => simp [intOf]; omega
    · obtain rfl : k = n := by omega
      have e : mixM l F k = shfM l F := by
        unfold mixM
        rw [List.take_of_length_le (by rw [HN.out]; exact Nat.le_refl _), List.drop_eq_nil_of_le (by rw [HN.out]; exact Nat.le_refl _), List.append_nil]
      have hlm : (shfM l F).length = k := by rw [shfM_len, HN.out]
      rw [e] at hown
      have hown2 : wr.ownsRow wX.heap.size 64 2 (.slice (some ⟨g, 0, none⟩) (shfM l F).length cap) (shfM l F).length (Mrk.flat (shfM l F)) := by rw [hlm]; exact hown
      obtain ⟨ad2, cp, he, hn⟩ := own_mrksR hown2
      rw [hlm] at he
      have HNN := Lib.hid hn; have HE := Lib.hid he; have HLM := Lib.hid hlm
      clear hn hown hlm e hown2 he
      go_wp2
      go_ret
      have he := HE.out
      injection he with e1 _ e3
      subst e1
      subst e3
      exact ⟨_, _, by rw [HLM.out]; rfl, HNN.out.more (by have := HXB.out; omega), HEND.out _ hbel⟩
theorem mshift_anyR (a : Option Addr) (l : List Mrk) (c : Nat) (ep : Int) (eo en : ByteArray) (w : World) (hp : Pcs w ⟨a, l, c⟩) (hl : l.length ≤ 1000000)
    (ho : eo.size ≤ 4294967296) (hn : en.size ≤ 4294967296) (hpz : -2305843009213693952 ≤ ep ∧ ep ≤ 2305843009213693952) (ha : ∀ x ∈ l, -2305843009213693952 ≤ x.p ∧ x.p ≤ 2305843009213693952) :
    Calls Tryz.prog 156 #[.slice a l.length c, edV ep eo en] w (RetMrksR w (shfM l (shiftI ep eo.size en.size))) := by
  cases a with
  | none =>
    obtain rfl : l = [] := hp.len rfl
    exact mshift_nil c ep eo en w (hp.nil rfl)
  | some ad => exact mshift_some ad l c ep eo en w hp hl ho hn hpz ha
end Go.Proofs.YtfiobemeogaaiaaGreat
