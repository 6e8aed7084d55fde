/-
  Joined: DkDev5, DkDev6, DkDev7, DkDev8.
-/
import Derived.Test.YtfgecjlccngddaaGreatJDkDevB
import Derived.Test.YtfgecjlccngddaaGreatJDkShelf
import Derived.Deep.LoopGhost
namespace Go.Proofs.YtfgecjlccngddaaGreat
set_option linter.unusedSimpArgs false
set_option linter.unusedVariables false
open Go.RowKit
set_option linter.unusedVariables false

/-- A row of numbers in a block of its own, or none. -/
def RowI (w : World) (B : Nat) (v : Value) (l : List Int) : Prop :=
  v = .slice none 0 0 ∧ l = [] ∨ ∃ g cap, v = .slice (some ⟨g, 0, none⟩) l.length cap ∧ B ≤ g ∧ g < w.heap.size ∧ ∀ (k : Nat) (h : k < l.length), w.cell? ⟨g, k, none⟩ = some (.int .i64 l[k])
theorem row_own {w : World} {B : Nat} {t : TypeId} {v : Value} {l : List Int} (h : w.ownsRow B t 1 v l.length (l.map (Value.int .i64))) : RowI w B v l := by
  rcases own_form h with ⟨rfl, h0⟩ | ⟨g, cap, rfl, h1, h2⟩
  · exact .inl ⟨rfl, List.length_eq_zero_iff.1 h0⟩
  · refine .inr ⟨g, cap, rfl, own_block h g rfl, (h.lt g rfl).2, fun k hk => ?_⟩
    have := h.cells (g := g) rfl k (.int .i64 l[k]) (by rw [List.getElem?_map, List.getElem?_eq_getElem hk]; rfl)
    rwa [show (⟨g, 0, none⟩ : Addr).add k = ⟨g, k, none⟩ from by unfold Addr.add; split <;> simp_all] at this
theorem RowI.keep {w w' : World} {B : Nat} {v : Value} {l : List Int} {S : List Nat} (h : RowI w B v l) (ha : Apart S w w') (hS : ∀ b ∈ S, b < B) : RowI w' B v l := by
  rcases h with h | ⟨g, cap, hv, h1, h2, h3⟩
  · exact .inl h
  · exact .inr ⟨g, cap, hv, h1, Nat.lt_of_lt_of_le h2 ha.size, fun k hk => (ha.cell (p := ⟨g, k, none⟩) h2 (fun m => by have := hS g m; omega)).trans (h3 k hk)⟩
set_option maxRecDepth 100000 in
set_option maxHeartbeats 400000 in
theorem dsea_none (x : Int) (w : World) : Calls Tryz.prog 106 #[.slice none 0 0, .int .i64 x] w fun e w' => e = .returned (.tuple #[.int .i64 0, .bool false]) ∧ w' = w := by
  go_enter Tryz.func106, Tryz.ntmps106
  go_wp2
  go_loopg [7, 8] 0 (fun _ s7 s8 wr => s7 = .int .i64 0 ∧ s8 = .int .i64 0 ∧ wr = w)
  case atStart => exact ⟨rfl, rfl, rfl⟩
  case round =>
    obtain ⟨rfl, rfl, rfl⟩ := hrel
    go_wp2
    go_ret2
    exact ⟨rfl, rfl⟩
theorem dsea_any {w : World} {B : Nat} {v : Value} {l : List Int} (h : RowI w B v l) (hr : riseI l) (hl : l.length ≤ 1000000) (x : Int) :
    Calls Tryz.prog 106 #[v, .int .i64 x] w fun e w' => ∃ p q, e = .returned (.tuple #[.int .i64 p, .bool (decide (x ∈ l))]) ∧ w' = w.drewN q := by
  rcases h with ⟨rfl, rfl⟩ | ⟨g, cap, rfl, h1, h2, h3⟩
  · refine (dsea_none x w).mono ?_
    rintro e w' ⟨rfl, rfl⟩
    exact ⟨0, 0, by simp, rfl⟩
  · refine (AnyG.slices_BinarySearch_int Tryz.dkSea g 0 l.length cap l x w (Nat.le_refl _) (by omega) (fun j hj => ?_) ?_).mono ?_
    · rw [Nat.zero_add, h3 j hj, List.getD_eq_getElem?_getD, List.getElem?_eq_getElem hj]; rfl
    · rw [List.take_of_length_le (Nat.le_refl _)]; exact hr.imp fun h => Int.le_of_lt h
    · rintro e w' ⟨rfl, q, rfl⟩
      rw [List.take_of_length_le (Nat.le_refl _)]
      exact ⟨_, q, by rw [List.contains_eq_mem], rfl⟩
set_option maxRecDepth 100000 in
set_option maxHeartbeats 400000 in
/-- Is a number none of those that are kept? -/
theorem dkeep_c {w : World} {B bx : Nat} {v y : Value} {l : List Int} (h : RowI w B v l) (hr : riseI l) (hl : l.length ≤ 1000000) (c : w.cell? ⟨bx, 0, none⟩ = some v) (x : Int) :
    Calls Tryz.prog 105 #[.int .i64 x, y, .pointer (some ⟨bx, 0, none⟩)] w fun e w' => e = .returned (.bool (!decide (x ∈ l))) ∧ ∃ q, w' = w.drewN q := by
  have CS := Lib.hid (fun w' (hw : ∃ q, w' = w.drewN q) => dsea_any (w := w') (by obtain ⟨q, rfl⟩ := hw; exact h) hr hl x)
  clear h
  go_enter Tryz.func105, Tryz.ntmps105
  go_wp2_with (go_at_call 106; refine (CS.out _ ⟨0, rfl⟩).mono ?_; rintro e w' ⟨p, q, rfl, rfl⟩)
  go_ret
  exact ⟨rfl, q, rfl⟩
section
variable {w w' : World} {ad bm : Nat} {an af : Addr} {Sn Sf : List Nat} {ids : List Int} {blk : Int → Nat} {born : Nat} {D : Dsk}
theorem eKeep : ∀ args w, (callFunc 105 args).run Tryz.prog w = .ok (.enter 105 args) w := enters_of Tryz.func105 (by kernel_rfl) rfl
/-- The entries of a map of tapes are struck. -/
theorem ddel_b {B bx : Nat} {v : Value} {l : List Int} (h : TMap w bm ids blk) (hr : RowI w B v l) (hri : riseI l) (hl : l.length ≤ 1000000) (hbm : bm < B) (hbx : bx < w.heap.size) (hne : bx ≠ bm) (c : w.cell? ⟨bx, 0, none⟩ = some v) :
    Calls Tryz.prog 104 #[.map (some bm), .func (.func 105) #[] #[.pointer (some ⟨bx, 0, none⟩)]] w
      fun e w' => e = .returned (.tuple #[]) ∧ TMap w' bm (ids.filter fun i => decide (i ∈ l)) blk ∧ Apart [bm] w w' := by
  obtain ⟨hn, D0, ho, hrd⟩ := h
  refine (AnyDf.maps_DeleteFunc Tryz.dkDel kInt tapR (pdT fun i => decide (i ∈ l)) 105 #[.pointer (some ⟨bx, 0, none⟩)] bm _ D0 w eKeep ho ?_).mono ?_
  · intro W key val kl yd yp hg hkey hR
    obtain ⟨x, rfl, rfl, _⟩ := Maps.keyOf_int_inv Tryz.underlying3 hkey
    have ha := apart_grownT hg
    refine (dkeep_c (hr.keep ha (fun b hb => by rw [List.mem_singleton.1 hb]; exact hbm)) hri hl ((ha.cell (p := ⟨bx, 0, none⟩) hbx (fun m => hne (List.mem_singleton.1 m))).trans c) x).mono ?_
    rintro e w' ⟨rfl, q, rfl⟩
    exact ⟨by simp [pdT], ⟨rfl, rfl, rfl, Nat.le_refl _, fun _ _ _ => rfl⟩⟩
  · rintro e w' ⟨rfl, ho', hg⟩
    exact ⟨rfl, ⟨hn.filter _, _, ownsMapT_size ho', reads_strike ho hrd _⟩, apart_grownT hg⟩
set_option maxRecDepth 100000 in
set_option maxHeartbeats 400000 in
theorem dforget_b (h : DkM w ad bm an af Sn Sf ids blk born D) (hL : okL 500 D.L) (hl : (idsK D.L).length ≤ 1000000) (hsub : ∀ i ∈ idsK D.L, i ∈ ids) :
    Calls Tryz.prog 52 #[.pointer (some ⟨ad, 0, none⟩)] w fun e w' => e = .returned (.tuple #[]) ∧ DkM w' ad bm an af Sn Sf (idsK D.L) blk born D ∧ Apart [bm] w w' := by
  obtain ⟨c0, c1, c2, c3, c4, c5⟩ := h.cells
  have CI := Lib.hid (foids_row h.fold hL)
  have H := Lib.hid h; have HL := Lib.hid hl; have HS := Lib.hid hsub
  clear h hL hl hsub
  go_enter Tryz.func52, Tryz.ntmps52
  go_wp2_with fail
  refine CI.out.mono ?_
  rintro e w1 ⟨v, rfl, ho, hb⟩
  have h1 := H.out.below hb
  obtain ⟨av, cv, rfl, _⟩ := own_ints ho
  obtain ⟨lv, hlv⟩ : ∃ lv, (idsK D.L).length = lv := ⟨_, rfl⟩
  rw [hlv]
  obtain ⟨w2, hw2⟩ : ∃ w2, w2 = w1.alloc (.cells #[.slice av lv cv] 86) := ⟨_, rfl⟩
  have hb2 : Below w1.heap.size w1 w2 := by rw [hw2]; exact (Below.refl _ _).alloc (Nat.le_refl _) _
  have h2 := h1.below hb2
  have hr2 := (row_own ho).keep (Apart.of_below (S := []) hb2) (by simp)
  have c6 : w2.cell? ⟨w1.heap.size, 0, none⟩ = some (.slice av lv cv) := by rw [hw2]; exact (Blk.new w1 #[.slice av lv cv] 86).cell 0 _ rfl
  have z2 : w2.heap.size = w1.heap.size + 1 := by rw [hw2]; simp
  have hlt := H.out.map.lt
  have hsz := hb.size
  rw [hlv] at hr2
  have CD := ddel_b (bx := w1.heap.size) h2.map hr2 (rise_idsK D.L) HL.out hlt (by omega) (by omega) c6
  have hbb : Below w.heap.size w w2 := hb.trans (hb2.mono hb.size)
  have CD := Lib.hid CD; have H2 := Lib.hid h2; have HB := Lib.hid hbb
  clear h1 hb hb2 hr2 hlt hsz hbb ho c0 c1 c2 c3 c4 c5
  obtain ⟨c0, c1, c2, c3, c4, c5⟩ := h2.cells
  clear h2 z2 c6
  subst hw2
  go_wp2_with fail
  refine CD.out.mono ?_
  rintro e w3 ⟨rfl, hm3, ha3⟩
  have hE : DkM w3 ad bm an af Sn Sf (idsK D.L) blk born D ∧ Apart [bm] w w3 := by
    have e1 : (ids.filter fun i => decide (i ∈ idsK D.L)) = idsK D.L := rise_eq (H2.out.rise.filter _) (rise_idsK D.L) fun n => by
      rw [List.mem_filter, decide_eq_true_iff]
      exact ⟨fun g => g.2, fun g => ⟨HS.out n g, g⟩⟩
    rw [e1] at hm3
    exact ⟨H2.out.onDel hm3 ha3 HS.out (rise_idsK D.L), (Apart.of_below (S := [bm]) HB.out).trans ha3 (fun x hx => .inl hx)⟩
  have HE := Lib.hid hE
  clear hE hm3 ha3
  go_wp2
  go_end0
  exact ⟨rfl, HE.out⟩
end
end Go.Proofs.YtfgecjlccngddaaGreat
namespace Go.Proofs.YtfgecjlccngddaaGreat
set_option linter.unusedSimpArgs false
set_option linter.unusedVariables false
open Go.RowKit
set_option linter.unusedVariables false

theorem tsec_yes {w : World} {b : Nat} {t : Tp} (h : Tap w b t.k t.n) (hk : t.k.size ≤ 4294967296) (hn : t.n.size ≤ 4294967296) :
    Calls Tryz.prog 45 #[.pointer (some ⟨b, 0, none⟩)] w fun e w' => e = .returned (.int .i64 t.sec) ∧ Below w.heap.size w w' :=
  tsectors_v (views_yes h) (Below.refl _ _).drew hk hn
/-- Sectors that are left when those of the numbers that are no more to come are taken off. -/
def Dsk.lefts (D : Dsk) (ids : List Int) (todo : Int → Bool) (s : Int) : Int := ids.foldl (fun n i => if todo i = true then n else n - ((D.t i).sec : Int)) s
theorem Dsk.lefts_add (D : Dsk) (todo : Int → Bool) : ∀ (ids : List Int) (s x : Int), D.lefts ids todo (s - x) = D.lefts ids todo s - x := by
  intro ids
  induction ids with
  | nil => intro s x; rfl
  | cons i r ih =>
    intro s x
    show D.lefts r todo (if todo i = true then s - x else s - x - ((D.t i).sec : Int)) = D.lefts r todo (if todo i = true then s else s - ((D.t i).sec : Int)) - x
    split
    · exact ih s x
    · rw [show s - x - ((D.t i).sec : Int) = s - ((D.t i).sec : Int) - x from by omega]; exact ih _ x
theorem Dsk.lefts_same (D : Dsk) (todo todo' : Int → Bool) : ∀ (ids : List Int) (s : Int), (∀ i ∈ ids, todo' i = todo i) → D.lefts ids todo' s = D.lefts ids todo s := by
  intro ids
  induction ids with
  | nil => intro s _; rfl
  | cons i r ih =>
    intro s h
    show D.lefts r todo' (if todo' i = true then s else s - ((D.t i).sec : Int)) = D.lefts r todo (if todo i = true then s else s - ((D.t i).sec : Int))
    rw [h i (by simp)]
    exact ih _ fun j hj => h j (by simp [hj])
theorem Dsk.lefts_step (D : Dsk) (todo : Int → Bool) (x : Int) (hx : todo x = true) : ∀ (ids : List Int) (s : Int), ids.Nodup → x ∈ ids → D.lefts ids (fun i => todo i && !decide (i = x)) s = D.lefts ids todo s - ((D.t x).sec : Int) := by
  intro ids
  induction ids with
  | nil => intro s _ h; cases h
  | cons i r ih =>
    intro s hn h
    obtain ⟨h1, h2⟩ := List.nodup_cons.1 hn
    by_cases e : i = x
    · subst e
      show D.lefts r _ (if (todo i && !decide (i = i)) = true then s else s - ((D.t i).sec : Int)) = D.lefts r todo (if todo i = true then s else s - ((D.t i).sec : Int)) - _
      rw [if_neg (by simp), if_pos hx, D.lefts_same todo _ r _ (fun j hj => by simp [show j ≠ i from fun g => h1 (g ▸ hj)]), D.lefts_add]
    · show D.lefts r _ (if (todo i && !decide (i = x)) = true then s else s - ((D.t i).sec : Int)) = D.lefts r todo (if todo i = true then s else s - ((D.t i).sec : Int)) - _
      rw [show (todo i && !decide (i = x)) = todo i from by simp [e]]
      exact ih _ h2 ((List.mem_cons.1 h).resolve_left fun g => e g.symm)
theorem Dsk.lefts_all (D : Dsk) (todo : Int → Bool) : ∀ (ids : List Int) (s : Int), (∀ i ∈ ids, todo i = true) → D.lefts ids todo s = s := by
  intro ids
  induction ids with
  | nil => intro s _; rfl
  | cons i r ih =>
    intro s h
    show D.lefts r todo (if todo i = true then s else s - ((D.t i).sec : Int)) = s
    rw [if_pos (h i (by simp))]
    exact ih _ fun j hj => h j (by simp [hj])
theorem Dsk.lefts_no (D : Dsk) (todo : Int → Bool) (ids : List Int) (s : Int) (h : ∀ i, todo i = false) : D.lefts ids todo s = ids.foldl (fun n i => n - ((D.t i).sec : Int)) s := by
  unfold Dsk.lefts
  congr
  funext n i
  rw [h i]
  rfl
theorem Dsk.lefts_is (D : Dsk) (todo : Int → Bool) (m : Nat) (hm : ∀ i, (D.t i).sec ≤ m) : ∀ (ids : List Int) (s : Int), s - (m : Int) * ids.length ≤ D.lefts ids todo s ∧ D.lefts ids todo s ≤ s := by
  intro ids
  induction ids with
  | nil => intro s; simp [Dsk.lefts]
  | cons i r ih =>
    intro s
    have h1 := hm i
    have e : (m : Int) * ((i :: r).length : Int) = (m : Int) * r.length + m := by
      rw [List.length_cons]
      show (m : Int) * ((r.length : Int) + 1) = _
      rw [Int.mul_add, Int.mul_one]
    rw [e]
    show _ ≤ D.lefts r todo (if todo i = true then s else s - ((D.t i).sec : Int)) ∧ D.lefts r todo (if todo i = true then s else s - ((D.t i).sec : Int)) ≤ s
    split
    · have := ih s; omega
    · have := ih (s - ((D.t i).sec : Int)); omega
theorem Dsk.free_fold (D : Dsk) : D.free = (idsK D.L).foldl (fun n i => n - ((D.t i).sec : Int)) D.sec := by
  unfold Dsk.free Dsk.leftK
  rw [List.take_of_length_le (Nat.le_refl _)]
theorem Dsk.sec_le {D : Dsk} (h : D.ok 199) (i : Int) : (D.t i).sec ≤ 39800 ∧ (D.t i).k.size ≤ 39800 ∧ (D.t i).n.size ≤ 39800 := by
  have h1 := D.t_any h i
  have := cntN_le (max (D.t i).k.size (D.t i).n.size)
  unfold Tp.sec
  omega
section
variable {w w' : World} {ad bm : Nat} {an af : Addr} {Sn Sf : List Nat} {ids : List Int} {blk : Int → Nat} {born : Nat} {D : Dsk}
set_option maxRecDepth 100000 in
set_option maxHeartbeats 800000 in
theorem dfree_b (h : DkM w ad bm an af Sn Sf ids blk born D) (hD : D.ok 199) (hl : ids.length ≤ 1000000) :
    Calls Tryz.prog 28 #[.pointer (some ⟨ad, 0, none⟩)] w fun e w' => e = .returned (.int .i64 (ids.foldl (fun n i => n - ((D.t i).sec : Int)) D.sec)) ∧ Below w.heap.size w w' := by
  obtain ⟨c0, c1, c2, c3, c4, c5⟩ := h.cells
  have CM := Lib.hid (dmade_yes h)
  have H := Lib.hid h; have HD := Lib.hid hD; have HL := Lib.hid hl; have HM := Lib.hid h.map
  clear h hD hl
  go_enter Tryz.func28, Tryz.ntmps28
  go_wp2_with (first
    | (go_at_call 33; refine CM.out.mono ?_; rintro e w' ⟨rfl, rfl⟩)
    | (at_range; refine wpList_range_tapes rfl _ rfl bm ids blk rfl HM.out ?_; intro w0 hrg0 hb0 hs0)
    | go_in)
  go_frame
  clear c0 c1 c2 c3 c4 c5
  go_loopw [3, 5] (fun f _ wr => ∃ (todo : Int → Bool) (cnt : Nat), RngT wr bm w.heap.size ids blk todo cnt ∧ f = .int .i64 (D.lefts ids todo D.sec) ∧ Below w.heap.size w wr) (fun _ _ wr => wr.rangeLeft bm w.heap.size)
  case atStart => exact ⟨_, _, hrg0, by rw [D.lefts_all _ ids _ (fun i hi => decide_eq_true hi)], hb0⟩
  case round =>
    obtain ⟨todo, cnt, hrg, rfl, hbel⟩ := hrel
    go_wp2_with (first
      | (at_next; refine wpList_next_tapes rfl _ rfl bm w.heap.size ids blk todo cnt rfl hrg ?_ ?_)
      | go_in)
    · intro _ hl0
      go_wp2
      go_ret
      exact ⟨by rw [D.lefts_no todo ids _ hl0]; rfl, hbel⟩
    · intro x w1 cnt1 hx htx hrg1 hlt ha1 hs1 hen
      have hb1 : Below w.heap.size w w1 := hbel.trans (ha1.to_below (fun b hb => by rw [List.mem_singleton.1 hb]; exact Nat.le_refl _) hbel.size)
      obtain ⟨s1, s2, s3⟩ := D.sec_le HD.out x
      have CT := Lib.hid (tsec_yes (t := D.t x) ((H.out.below hb1).taps x hx) (by omega) (by omega))
      have e1 := D.lefts_step todo x htx ids D.sec HM.out.1 hx
      obtain ⟨b1, b2⟩ := D.lefts_is todo 39800 (fun i => (D.sec_le HD.out i).1) ids D.sec
      have hsec := HD.out.1
      have hl := HL.out
      obtain ⟨v, hv⟩ : ∃ v, D.lefts ids todo D.sec = v := ⟨_, rfl⟩
      rw [hv] at e1 b1 b2 ⊢
      obtain ⟨m, hm⟩ : ∃ m, (D.t x).sec = m := ⟨_, rfl⟩
      rw [hm] at e1 s1 CT
      have hw : wrap64 (v - m) = v - m := by unfold wrap64; omega
      have HE := Lib.hid e1; have HR := Lib.hid hrg1; have HO := Lib.hid hrg; have HB := Lib.hid hb1; have HLT := Lib.hid hlt
      clear e1 hrg1 hrg hb1 hlt hbel ha1 hs1 s1 s2 s3 b1 b2 hsec hl hv hm hrg0 hb0 hs0
      go_wp2_with (go_at_call 45; refine CT.out.mono ?_; rintro e w2 ⟨rfl, hb2⟩)
      have hr2 := HR.out.apart (Apart.of_below (S := []) hb2) (by simp) (by simp)
      go_roundw
      case rel => exact ⟨_, cnt1, hr2, by rw [HE.out, hw], HB.out.trans (hb2.mono HB.out.size)⟩
      case measure => rw [hr2.left_eq, HO.out.left_eq]; exact HLT.out
end
end Go.Proofs.YtfgecjlccngddaaGreat
namespace Go.Proofs.YtfgecjlccngddaaGreat
set_option linter.unusedSimpArgs false
set_option linter.unusedVariables false
open Go.RowKit
set_option linter.unusedVariables false

theorem ids_put {L : List (List Ent)} (h : L ≠ []) (s : ByteArray) (n : Int) (hno : (findE (nowL L) s).isSome = false) (hn : ∀ i ∈ idsK L, i < n) : idsK (putF L s n) = idsK L ++ [n] := by
  have e : putF L s n = L ++ [withE (nowL L) ⟨s, n⟩] := by unfold putF; rw [if_neg (by rw [hno]; simp)]
  rw [e]
  refine rise_eq (rise_idsK _) (List.pairwise_append.2 ⟨rise_idsK L, by simp, fun a ha b hb => by rw [List.mem_singleton.1 hb]; exact hn a ha⟩) fun m => ?_
  rw [mem_idsK, List.mem_append, mem_idsK]
  constructor
  · rintro ⟨l, hl, e, he, rfl⟩
    rcases List.mem_append.1 hl with hl | hl
    · exact .inl ⟨l, hl, e, he, rfl⟩
    · rw [List.mem_singleton.1 hl] at he
      rcases (mem_withE _ _ _).1 he with rfl | he
      · exact .inr (by simp)
      · exact .inl ⟨_, nowL_mem h, e, he, rfl⟩
  · rintro (⟨l, hl, e, he, rfl⟩ | hm)
    · exact ⟨l, by simp [hl], e, he, rfl⟩
    · exact ⟨withE (nowL L) ⟨s, n⟩, by simp, ⟨s, n⟩, (mem_withE _ _ _).2 (.inl rfl), (List.mem_singleton.1 hm).symm⟩
theorem ids_le {M : Nat} {D : Dsk} (h : D.ok M) : ∀ i ∈ idsK D.L, 1 ≤ i ∧ i ≤ D.tp.length := fun i hi => by
  obtain ⟨l, hl, e, he, rfl⟩ := (mem_idsK D.L i).1 hi
  exact h.2.2.2.2.1 l hl e he
theorem ids_few {M : Nat} {D : Dsk} (h : D.ok M) (hM : M ≤ 900) : (idsK D.L).length ≤ 1000000 := by
  have h1 := D.ids_len h
  have h2 : (M + 1) * M ≤ 901 * 900 := Nat.mul_le_mul (by omega) hM
  omega
def Dsk.withFile (D : Dsk) (s : ByteArray) : Dsk := { D with tp := D.tp ++ [Tp.none], L := putF D.L s (D.tp.length + 1 : Nat) }
section
variable {w w' : World} {ad bm : Nat} {an af : Addr} {Sn Sf : List Nat} {ids : List Int} {blk : Int → Nat} {born : Nat} {D : Dsk}
theorem create_end {w1 w2 : World} {Sn' : List Nat} {t : Nat} {s : ByteArray} (hid : idsK (putF D.L s (D.tp.length + 1 : Nat)) = idsK D.L ++ [((D.tp.length + 1 : Nat) : Int)])
    (h2 : DkM w2 ad bm an af Sn' Sf (idsK D.L ++ [((D.tp.length + 1 : Nat) : Int)]) (updB blk (D.tp.length + 1 : Nat) t) (D.tp.length + 1) { D with tp := D.tp ++ [Tp.none], L := putF D.L s (D.tp.length + 1 : Nat) })
    (ha : Apart (dkS ad bm Sn Sf (idsK D.L) blk) w1 w2) (hs : ∀ b ∈ Sn', b ∈ Sn ∨ w1.heap.size ≤ b) (hg : w.drew.heap.size ≤ t) (hb : Below w.drew.heap.size w.drew w1) :
    ∃ S', IsDk w2 S' ⟨ad, 0, none⟩ (D.withFile s) ∧ Apart (dkS ad bm Sn Sf (idsK D.L) blk) w w2 ∧ ∀ b ∈ S', b ∈ dkS ad bm Sn Sf (idsK D.L) blk ∨ w.heap.size ≤ b := by
  have hb' : Below w.heap.size w w1 := ⟨hb.os, hb.tape, hb.output, hb.size, hb.block⟩
  have e1 : (D.withFile s).tp.length = D.tp.length + 1 := by unfold Dsk.withFile; simp
  have h3 : DkM w2 ad bm an af Sn' Sf (idsK (D.withFile s).L) (updB blk (D.tp.length + 1 : Nat) t) (D.withFile s).tp.length (D.withFile s) := by
    rw [e1, show idsK (D.withFile s).L = _ from hid]
    exact h2
  refine ⟨_, h3.is, (Apart.of_below hb').trans ha (fun x hx => .inl hx), fun b hb2 => ?_⟩
  rw [show idsK (D.withFile s).L = _ from hid] at hb2
  rcases mem_dkS.1 hb2 with g | g | g | g | ⟨i, hi, g⟩
  · exact .inl (mem_dkS.2 (.inl g))
  · exact .inl (mem_dkS.2 (.inr (.inl g)))
  · exact (hs b g).imp (fun k => mem_dkS.2 (.inr (.inr (.inl k)))) (Nat.le_trans hb'.size)
  · exact .inl (mem_dkS.2 (.inr (.inr (.inr (.inl g)))))
  · unfold updB at g
    split at g
    · exact .inr (g ▸ hg)
    · next hne => exact .inl (mem_dkS.2 (.inr (.inr (.inr (.inr ⟨i, (List.mem_append.1 hi).resolve_right (fun k => hne (List.mem_singleton.1 k)), g⟩)))))
theorem lt_of_cell {w : World} {b o : Nat} {v : Value} (h : w.cell? ⟨b, o, none⟩ = some v) : b < w.heap.size := by
  refine Nat.lt_of_not_le fun g => ?_
  have : w.heap[b]? = none := by simp [g]
  simp [World.cell?, this] at h
set_option maxRecDepth 100000 in
set_option maxHeartbeats 800000 in
/-- What is done when a file is created. -/
theorem dcreate_c {bd bn : Nat} (h : DkM w ad bm an af Sn Sf (idsK D.L) blk D.tp.length D) (hL : okL 500 D.L) (hl : D.tp.length ≤ 1000000) (hi : (idsK D.L).length ≤ 1000000) (s : ByteArray) (hs : s.size ≤ maxLen) (hno : (findE (nowL D.L) s).isSome = false)
    (c0 : w.cell? ⟨bd, 0, none⟩ = some (.pointer (some ⟨ad, 0, none⟩))) (c1 : w.cell? ⟨bn, 0, none⟩ = some (.string s)) :
    Calls Tryz.prog 40 #[.pointer (some ⟨bd, 0, none⟩), .pointer (some ⟨bn, 0, none⟩)] w (UpdB w.heap.size w (dkS ad bm Sn Sf (idsK D.L) blk) ⟨ad, 0, none⟩ (D.withFile s) (.tuple #[])) := by
  have hlt := h.lt
  have hid := ids_put hL.1 s (D.tp.length + 1 : Nat) hno (fun i hi => by have := (h.rng i hi).2; omega)
  have H := Lib.hid h; have HL := Lib.hid hL; have HT := Lib.hid hl; have HI := Lib.hid hi; have HLT := Lib.hid hlt; have HID := Lib.hid hid
  clear h hL hl hi hlt hid hno
  go_enter Tryz.func40, Tryz.ntmps40
  have hbd : bd < w.heap.size := lt_of_cell c0
  have hbn : bn < w.heap.size := lt_of_cell c1
  go_wp2_with fail
  go_region_with (first
    | (go_at_call 42; refine (tnew_any _).mono ?_; rintro e w1 ⟨t, rfl, hge, ht, hb1⟩; have d0 := (hb1.cell (p := ⟨bd, 0, none⟩) hbd).trans c0; have d1 := (hb1.cell (p := ⟨bn, 0, none⟩) hbn).trans c1; have H1 := Lib.hid (H.out.drew.below hb1); have HT1 := Lib.hid ht; have HG := Lib.hid hge; have HB1 := Lib.hid hb1; clear ht hge hb1)
    | (go_at_call 41; refine (dadd_b H1.out HL.out HT.out HI.out s hs HT1.out (fun g => by have := HLT.out _ g; have e : w.drew.heap.size = w.heap.size := rfl; have := HG.out; omega)).mono ?_; rintro e w2 ⟨rfl, Sn', h2, ha2, hs2⟩; have HE := Lib.hid (create_end HID.out h2 ha2 hs2 HG.out HB1.out); clear h2 ha2 hs2))
  all_goals
    go_wp2
    go_end0
    exact ⟨rfl, HE.out⟩
end
end Go.Proofs.YtfgecjlccngddaaGreat
namespace Go.Proofs.YtfgecjlccngddaaGreat
set_option linter.unusedSimpArgs false
set_option linter.unusedVariables false
open Go.RowKit
set_option linter.unusedVariables false

theorem Dsk.create_eq {M : Nat} {D : Dsk} (h : D.ok M) (s : ByteArray) : D.create s = if D.fu.off = true then (D, 14) else if mayC D (idsK D.L).length s = 0 then Dsk.then (D.ask false) (fun E => E.withFile s) else (D, mayC D (idsK D.L).length s) := by
  unfold Dsk.create mayC
  have hf : (findE (nowL D.L) s).isSome = decide (0 < D.id s) := by
    rcases D.id_is h s with ⟨e1, e2⟩ | ⟨e1, e2, e3⟩
    · rw [e1, e2]; rfl
    · rw [e3]; symm; simp; omega
  rw [hf]
  by_cases h1 : D.fu.off = true
  · rw [if_pos h1, if_pos h1]
  · rw [if_neg h1, if_neg h1]
    by_cases h2 : mayB s.data.toList = false
    · rw [if_pos h2, if_pos h2, if_neg (by decide)]
    · rw [if_neg h2, if_neg h2]
      by_cases h3 : 0 < D.id s
      · rw [if_pos h3, if_pos (decide_eq_true h3), if_neg (by decide)]
      · have h3' : ¬ (decide (0 < D.id s) = true) := by simp only [decide_eq_true_iff]; exact h3
        rw [if_neg h3, if_neg h3']
        by_cases h4 : 64 ≤ (idsK D.L).length
        · rw [if_pos h4, if_pos h4, if_neg (by decide)]
        · rw [if_neg h4, if_neg h4, if_pos rfl]
          rfl
theorem mayC_no {D : Dsk} {n : Nat} {s : ByteArray} (h : mayC D n s = 0) : (findE (nowL D.L) s).isSome = false := by
  unfold mayC at h
  split at h
  · cases h
  · split at h
    · cases h
    · next g => simpa using g
theorem eCreate : ∀ args w, (callFunc 40 args).run Tryz.prog w = .ok (.enter 40 args) w := enters_of Tryz.func40 (by kernel_rfl) rfl
/-- Nothing has turned. -/
theorem upd_same {w w' : World} {S : List Nat} {a : Addr} {D : Dsk} (h : IsDk w S a D) (hb : Below w.heap.size w w') (v : Value) : UpdK w S a D v (.returned v) w' := ⟨rfl, S, h.below hb, Apart.of_below hb, fun b hb => .inl hb⟩
/-- What turned behind new blocks of the call's own. -/
theorem upd_from {w w0 w' : World} {S : List Nat} {a : Addr} {D' : Dsk} {v : Value} {e : Ending} (hb : Below w.heap.size w w0) (h : UpdB w.heap.size w0 S a D' v e w') : UpdK w S a D' v e w' := by
  obtain ⟨he, S', hI, hA, hS⟩ := h
  exact ⟨he, S', hI, (Apart.of_below (S := S) hb).trans hA (fun x hx => .inl hx), hS⟩
section
variable {w w' : World} {ad bm : Nat} {an af : Addr} {Sn Sf : List Nat} {ids : List Int} {blk : Int → Nat} {born : Nat} {D : Dsk}
set_option maxRecDepth 100000 in
set_option maxHeartbeats 800000 in
theorem dcreate_off (h : DkM w ad bm an af Sn Sf (idsK D.L) blk D.tp.length D) (s : ByteArray) (ho : D.fu.off = true) :
    Calls Tryz.prog 10 #[.pointer (some ⟨ad, 0, none⟩), .string s] w (UpdK w (dkS ad bm Sn Sf (idsK D.L) blk) ⟨ad, 0, none⟩ D (.int .i64 14)) := by
  have hb0 : Below w.heap.size w ((w.alloc (.cells #[.pointer (some ⟨ad, 0, none⟩)] 23)).alloc (.cells #[.string s] 9)) := ((Below.refl _ w).alloc (Nat.le_refl _) _).alloc (by simp) _
  have CR := Lib.hid (dready_off (h.below hb0) ho); have HB := Lib.hid hb0; have HI := Lib.hid h.is
  clear h hb0
  go_enter Tryz.func10, Tryz.ntmps10
  go_wp2_with (go_at_call 37; refine CR.out.mono ?_; rintro e w1 ⟨rfl, hb1⟩)
  go_ret
  exact upd_same HI.out (HB.out.trans (hb1.mono HB.out.size)) _
set_option maxRecDepth 100000 in
set_option maxHeartbeats 800000 in
theorem dcreate_bad (h : DkM w ad bm an af Sn Sf (idsK D.L) blk D.tp.length D) (hL : okL 500 D.L) (s : ByteArray) (hs : s.size ≤ maxLen) (ho : D.fu.off = false) {c : Int} (hc : mayC D (idsK D.L).length s = c) (hne : c ≠ 0) :
    Calls Tryz.prog 10 #[.pointer (some ⟨ad, 0, none⟩), .string s] w (UpdK w (dkS ad bm Sn Sf (idsK D.L) blk) ⟨ad, 0, none⟩ D (.int .i64 c)) := by
  obtain ⟨w0, hw0⟩ : ∃ w0, w0 = (w.alloc (.cells #[.pointer (some ⟨ad, 0, none⟩)] 23)).alloc (.cells #[.string s] 9) := ⟨_, rfl⟩
  have hb0 : Below w.heap.size w w0 := by rw [hw0]; exact ((Below.refl _ w).alloc (Nat.le_refl _) _).alloc (by simp) _
  have k0 : Blk w0 w.heap.size #[.pointer (some ⟨ad, 0, none⟩)] 23 := by rw [hw0]; exact (Blk.new w _ _).alloc _
  have k1 : Blk w0 (w.heap.size + 1) #[.string s] 9 := by rw [hw0]; have := Blk.new (w.alloc (.cells #[.pointer (some ⟨ad, 0, none⟩)] 23)) #[.string s] 9; simpa using this
  have CR := Lib.hid (dready_on (h.below hb0) ho); have HB := Lib.hid hb0; have HI := Lib.hid h; have K0 := Lib.hid k0; have K1 := Lib.hid k1; have HW := Lib.hid hw0; have HL := Lib.hid hL; have HC := Lib.hid hc
  have d0 := k0.cell 0 _ rfl; have d1 := k1.cell 0 _ rfl
  clear h hb0 k0 k1 hL hc
  subst hw0
  go_enter Tryz.func10, Tryz.ntmps10
  go_wp2_with fail
  refine CR.out.mono ?_
  rintro e w1 ⟨rfl, hb1⟩
  have hbb := HB.out.trans (hb1.mono HB.out.size)
  have CM := dmay_any (HI.out.below hbb) HL.out s hs
  rw [HC.out] at CM
  have CM := Lib.hid CM; have HBB := Lib.hid hbb
  have e0 := (K0.out.onto hb1).cell 0 _ rfl; have e1 := (K1.out.onto hb1).cell 0 _ rfl
  clear hb1 hbb d0 d1
  go_wp2_with fail
  refine CM.out.mono ?_
  rintro e w2 ⟨rfl, hb2⟩
  have t0 : (c != 0) = true := bne_iff_ne.2 hne
  go_wp2
  go_ret
  exact upd_same HI.out.is (HBB.out.trans (hb2.mono HBB.out.size)) _
set_option maxRecDepth 100000 in
set_option maxHeartbeats 800000 in
theorem dcreate_put (h : DkM w ad bm an af Sn Sf (idsK D.L) blk D.tp.length D) (hD : D.ok 199) (s : ByteArray) (hs : s.size ≤ maxLen) (ho : D.fu.off = false) (hc : mayC D (idsK D.L).length s = 0) :
    Calls Tryz.prog 10 #[.pointer (some ⟨ad, 0, none⟩), .string s] w (UpdK w (dkS ad bm Sn Sf (idsK D.L) blk) ⟨ad, 0, none⟩ (Dsk.then (D.ask false) (fun E => E.withFile s)).1 (.int .i64 (Dsk.then (D.ask false) (fun E => E.withFile s)).2)) := by
  obtain ⟨w0, hw0⟩ : ∃ w0, w0 = (w.alloc (.cells #[.pointer (some ⟨ad, 0, none⟩)] 23)).alloc (.cells #[.string s] 9) := ⟨_, rfl⟩
  have hb0 : Below w.heap.size w w0 := by rw [hw0]; exact ((Below.refl _ w).alloc (Nat.le_refl _) _).alloc (by simp) _
  have k0 : Blk w0 w.heap.size #[.pointer (some ⟨ad, 0, none⟩)] 23 := by rw [hw0]; exact (Blk.new w _ _).alloc _
  have k1 : Blk w0 (w.heap.size + 1) #[.string s] 9 := by rw [hw0]; have := Blk.new (w.alloc (.cells #[.pointer (some ⟨ad, 0, none⟩)] 23)) #[.string s] 9; simpa using this
  have hlt := h.lt
  have CR := Lib.hid (dready_on (h.below hb0) ho); have HB := Lib.hid hb0; have HI := Lib.hid h; have K0 := Lib.hid k0; have K1 := Lib.hid k1; have HD := Lib.hid hD; have HC := Lib.hid hc; have HLT := Lib.hid hlt
  have d0 := k0.cell 0 _ rfl; have d1 := k1.cell 0 _ rfl
  obtain ⟨⟨X, c⟩, hx⟩ : ∃ x, Dsk.then (D.ask false) (fun E => E.withFile s) = x := ⟨_, rfl⟩
  have HX := Lib.hid hx
  rw [hx]
  clear h hb0 k0 k1 hD hc hx hlt
  subst hw0
  go_enter Tryz.func10, Tryz.ntmps10
  go_wp2_with fail
  refine CR.out.mono ?_
  rintro e w1 ⟨rfl, hb1⟩
  have hbb := HB.out.trans (hb1.mono HB.out.size)
  have CM := dmay_any (HI.out.below hbb) (Dsk.okL HD.out) s hs
  rw [HC.out] at CM
  have CM := Lib.hid CM; have HBB := Lib.hid hbb
  have HK0 := Lib.hid (K0.out.onto hb1); have HK1 := Lib.hid (K1.out.onto hb1)
  have e0 := HK0.out.cell 0 _ rfl; have e1 := HK1.out.cell 0 _ rfl
  clear hb1 hbb d0 d1
  go_wp2_with fail
  refine CM.out.mono ?_
  rintro e w2 ⟨rfl, hb2⟩
  have hbc := HBB.out.trans (hb2.mono HBB.out.size)
  have l0 := HK0.out.onto hb2; have l1 := HK1.out.onto hb2
  have CP := dput_of (g := 40) (pre := #[]) (post := #[.pointer (some ⟨w.heap.size, 0, none⟩), .pointer (some ⟨w.heap.size + 1, 0, none⟩)]) (HI.out.below hbc) HD.out eCreate (fun E => E.withFile s) w.heap.size hbc.size (fun w3 Sf1 h3 ha3 _ => by
    have no : ∀ b, w.heap.size ≤ b → b ∉ dkS ad bm Sn Sf (idsK D.L) blk := fun b hb g => by have := HLT.out b g; omega
    have n1 : w.heap.size ≤ w.heap.size + 1 := Nat.le_succ _
    refine (dcreate_c (D := (D.ask false).1) h3 (Dsk.okL (D := D) HD.out) (by have := HD.out.2.1; show D.tp.length ≤ _; omega) (ids_few (M := 199) (D := D) HD.out (by omega)) s hs (mayC_no HC.out) ((ha3.cell (p := ⟨w.heap.size, 0, none⟩) l0.lt (no _ (Nat.le_refl _))).trans (l0.cell 0 _ rfl)) ((ha3.cell (p := ⟨w.heap.size + 1, 0, none⟩) l1.lt (no _ n1)).trans (l1.cell 0 _ rfl))).mono ?_
    rintro e w4 ⟨rfl, S', hI, hA, hS⟩
    exact ⟨rfl, S', hI, hA, fun b hb => (hS b hb).imp id fun k => Nat.le_trans (Nat.le_trans hbc.size ha3.size) k⟩)
  rw [HX.out] at CP
  have CP := Lib.hid CP; have HBC := Lib.hid hbc
  have e0 := l0.cell 0 _ rfl; have e1 := l1.cell 0 _ rfl
  clear hb2 hbc l0 l1
  go_wp2_with (go_at_call 39; refine CP.out.mono ?_; rintro e w3 ⟨rfl, hE⟩; have HE := Lib.hid hE; clear hE)
  go_ret
  exact upd_from HBC.out ⟨rfl, HE.out⟩
end
theorem dkcreate_any {w : World} {S : List Nat} {a : Addr} {D : Dsk} (h : IsDk w S a D) (hD : D.ok 199) (s : ByteArray) (hs : s.size ≤ maxLen) :
    Calls Tryz.prog 10 #[.pointer (some a), .string s] w (UpdK w S a (D.create s).1 (.int .i64 (D.create s).2)) := by
  obtain ⟨ad, bm, an, af, Sn, Sf, blk, rfl, rfl, k⟩ := h.out
  rw [D.create_eq hD]
  cases ho : D.fu.off with
  | true => rw [if_pos rfl]; exact dcreate_off k s ho
  | false =>
    rw [if_neg (by simp)]
    by_cases hc : mayC D (idsK D.L).length s = 0
    · rw [if_pos hc]; exact dcreate_put k hD s hs ho hc
    · rw [if_neg hc]; exact dcreate_bad k (Dsk.okL hD) s hs ho rfl hc
end Go.Proofs.YtfgecjlccngddaaGreat
