/-
  The program's stacks (layer 24), third part: push.
-/
import Derived.Test.YthboipmlkgmofaaStkDev2
import Derived.Deep.RegionWith
namespace Go.Proofs.Ythboipmlkgmofaa
open Go.RowKit
set_option linter.unusedVariables false
set_option linter.unusedSimpArgs false

set_option maxRecDepth 100000 in
set_option maxHeartbeats 1600000 in
theorem push_some (ad : Addr) (l : List EPc) (c : Nat) (y : EPc) (w : World) (hp : SPcs w ⟨some ad, l, c⟩) (hy : EPcs w y) (hl : l.length ≤ 900) :
    Calls Try.prog 18 #[.slice (some ad) l.length c, stpV y.a y.l.length y.c, .int .i64 16] w (RetSRow w ((l ++ [y]).drop (l.length + 1 - 16))) := by
  obtain ⟨ya, yl, yc⟩ := y
  obtain ⟨n, hn⟩ : ∃ n, l.length = n := ⟨_, rfl⟩
  obtain ⟨m, hm⟩ : ∃ n, yl.length = n := ⟨_, rfl⟩
  simp only [hm]
  obtain ⟨W1, hW1⟩ : ∃ W1, w.alloc (.cells #[.slice ya m yc] 25) = W1 := ⟨_, rfl⟩
  have b1 : Below w.heap.size w W1 := by rw [← hW1]; exact (Below.refl _ _).alloc (Nat.le_refl _) _
  have B1 := Blk.new w #[.slice ya m yc] 25
  rw [hW1] at B1
  have x0 : W1.drew.cell? ⟨w.heap.size, 0, none⟩ = some (.slice ya m yc) := B1.cell 0 _ rfl
  have hcm : c ≤ maxLen := hp.cap
  have hnc : l.length ≤ c := hp.le
  rw [hn] at hnc hl ⊢
  unfold maxLen at hcm
  obtain ⟨j, hj⟩ : ∃ j, n + 1 - 16 = j := ⟨_, rfl⟩
  have hw1 : IntKind.i64.wrap ((n : Int) + 1) = (n : Int) + 1 := IntWalk.i64_in _ (by omega)
  have hw2 : IntKind.i64.wrap ((n : Int) + 1 - 16) = (n : Int) + 1 - 16 := IntWalk.i64_in _ (by omega)
  have hM : max 0 ((n : Int) + 1 - 16) = (j : Int) := by omega
  have hM0 : (0 : Int) ≤ (j : Int) := by omega
  have hM1 : (j : Int) ≤ (n : Int) := by omega
  have hA : (if c = j then some ad else some (ad.add j)) = some (ad.add j) := by
    split
    · rw [show j = 0 by omega]; rfl
    · rfl
  have e0 : (l ++ [(⟨ya, yl, yc⟩ : EPc)]).drop (n + 1 - 16) = l.drop j ++ [⟨ya, yl, yc⟩] := by rw [hj, List.drop_append_of_le_length (by omega)]
  rw [e0]
  obtain ⟨W, hW⟩ : ∃ W, W1.drew.alloc (.cells #[.slice ya m yc] 25) = W := ⟨_, rfl⟩
  have b2 : Below W1.heap.size W1 W := by rw [← hW]; exact ((Below.refl W1.heap.size W1).drew).alloc (Nat.le_refl _) _
  have B2 : Blk W W1.heap.size #[.slice ya m yc] 25 := by rw [← hW]; exact Blk.new W1.drew _ _
  have z2 : W.heap.size = W1.heap.size + 1 := by rw [← hW]; simp
  have hpW := (hp.later (b1.trans (b2.mono b1.size))).drop j
  have hyW := hy.later (b1.trans (b2.mono b1.size))
  have hq : SPcs W ⟨some ⟨W1.heap.size, 0, none⟩, [⟨ya, yl, yc⟩], 1⟩ := ⟨fun k hk => by
      match k, hk with
      | 0, _ => exact ⟨_, rfl, by show W1.heap.size < W.heap.size; omega, by rw [← hm] at B2; exact B2.cell 0 _ rfl⟩, fun x hx => by obtain rfl := List.mem_singleton.1 hx; exact hyW, fun e => (by cases e), Nat.le_refl _, by show 1 ≤ maxLen; decide⟩
  have cc := scat2 (n - j) 1 hpW hq (by rw [List.length_drop, hn]) rfl (by omega) 39
  simp only at cc
  rw [← hW, show (W1.drew.alloc (.cells #[.slice ya m yc] 25)).heap.size = W1.heap.size + 1 by simp] at cc
  have hfin : ∀ (L : List EPc) (e : Ending) (w' : World), RetSRow ((W1.drew.alloc (.cells #[.slice ya m yc] 25)).alloc (.cells #[.slice (some (ad.add j)) (n - j) (c - j), .slice (some ⟨W1.heap.size, 0, none⟩) 1 1] 39)) L e w' → RetSRow w L e w' := fun L e w' ⟨a', c', he, hr, hb⟩ => by
    have z : w.heap.size ≤ ((W1.drew.alloc (.cells #[.slice ya m yc] 25)).alloc (.cells #[.slice (some (ad.add j)) (n - j) (c - j), .slice (some ⟨W1.heap.size, 0, none⟩) 1 1] 39)).heap.size := by have := b1.size; simp; omega
    refine ⟨a', c', he, hr.mono z, ?_⟩
    exact (((b1.drew).alloc b1.size _).alloc (by have := b1.size; simp; omega) _).trans (hb.mono z)
  obtain ⟨L, hL⟩ : ∃ L, l.drop j ++ [(⟨ya, yl, yc⟩ : EPc)] = L := ⟨_, rfl⟩
  rw [hL] at cc ⊢
  have cc : Calls Try.prog 28 #[.slice (some ⟨W1.heap.size + 1, 0, none⟩) 2 2] ((W1.alloc (.cells #[.slice ya m yc] 25)).alloc (.cells #[.slice (some (ad.add j)) (n - j) (c - j), .slice (some ⟨W1.heap.size, 0, none⟩) 1 1] 39)).drew (RetSRow ((W1.drew.alloc (.cells #[.slice ya m yc] 25)).alloc (.cells #[.slice (some (ad.add j)) (n - j) (c - j), .slice (some ⟨W1.heap.size, 0, none⟩) 1 1] 39)) L) := cc
  have CC := Lib.hid cc; have HF := Lib.hid (hfin L)
  clear cc hfin hq hyW hpW B2 b2 z2 hW hp hy hn hm b1 B1 e0 hj hL
  go_enter Try.func18, Try.ntmps18
  go_wp2
  go_region_with (go_at_call 28; refine CC.out.mono ?_; intro e w2 hr; have HR := Lib.hid (HF.out _ _ hr); obtain ⟨a2, c2, rfl, -, -⟩ := hr)
  all_goals go_wp2
  all_goals go_ret
  all_goals exact HR.out

set_option maxRecDepth 100000 in
set_option maxHeartbeats 1600000 in
theorem push_none (y : EPc) (w : World) (hy : EPcs w y) :
    Calls Try.prog 18 #[.slice none 0 0, stpV y.a y.l.length y.c, .int .i64 16] w (RetSRow w [y]) := by
  obtain ⟨ya, yl, yc⟩ := y
  obtain ⟨m, hm⟩ : ∃ n, yl.length = n := ⟨_, rfl⟩
  simp only [hm]
  obtain ⟨W1, hW1⟩ : ∃ W1, w.alloc (.cells #[.slice ya m yc] 25) = W1 := ⟨_, rfl⟩
  have b1 : Below w.heap.size w W1 := by rw [← hW1]; exact (Below.refl _ _).alloc (Nat.le_refl _) _
  have B1 := Blk.new w #[.slice ya m yc] 25
  rw [hW1] at B1
  have x0 : W1.drew.cell? ⟨w.heap.size, 0, none⟩ = some (.slice ya m yc) := B1.cell 0 _ rfl
  obtain ⟨W, hW⟩ : ∃ W, W1.drew.alloc (.cells #[.slice ya m yc] 25) = W := ⟨_, rfl⟩
  have b2 : Below W1.heap.size W1 W := by rw [← hW]; exact ((Below.refl W1.heap.size W1).drew).alloc (Nat.le_refl _) _
  have B2 : Blk W W1.heap.size #[.slice ya m yc] 25 := by rw [← hW]; exact Blk.new W1.drew _ _
  have z2 : W.heap.size = W1.heap.size + 1 := by rw [← hW]; simp
  have hyW := hy.later (b1.trans (b2.mono b1.size))
  have hq : SPcs W ⟨some ⟨W1.heap.size, 0, none⟩, [⟨ya, yl, yc⟩], 1⟩ := ⟨fun k hk => by
      match k, hk with
      | 0, _ => exact ⟨_, rfl, by show W1.heap.size < W.heap.size; omega, by rw [← hm] at B2; exact B2.cell 0 _ rfl⟩, fun x hx => by obtain rfl := List.mem_singleton.1 hx; exact hyW, fun e => (by cases e), Nat.le_refl _, by show 1 ≤ maxLen; decide⟩
  have cc := scat2 0 1 (SPcs.empty W) hq rfl rfl (by omega) 39
  simp only [List.nil_append] at cc
  rw [← hW, show (W1.drew.alloc (.cells #[.slice ya m yc] 25)).heap.size = W1.heap.size + 1 by simp] at cc
  have hfin : ∀ (L : List EPc) (e : Ending) (w' : World), RetSRow ((W1.drew.alloc (.cells #[.slice ya m yc] 25)).alloc (.cells #[.slice none 0 0, .slice (some ⟨W1.heap.size, 0, none⟩) 1 1] 39)) L e w' → RetSRow w L e w' := fun L e w' ⟨a', c', he, hr, hb⟩ => by
    have z : w.heap.size ≤ ((W1.drew.alloc (.cells #[.slice ya m yc] 25)).alloc (.cells #[.slice none 0 0, .slice (some ⟨W1.heap.size, 0, none⟩) 1 1] 39)).heap.size := by have := b1.size; simp; omega
    refine ⟨a', c', he, hr.mono z, ?_⟩
    exact (((b1.drew).alloc b1.size _).alloc (by have := b1.size; simp; omega) _).trans (hb.mono z)
  obtain ⟨L, hL⟩ : ∃ L, [(⟨ya, yl, yc⟩ : EPc)] = L := ⟨_, rfl⟩
  rw [hL] at cc ⊢
  have cc : Calls Try.prog 28 #[.slice (some ⟨W1.heap.size + 1, 0, none⟩) 2 2] ((W1.alloc (.cells #[.slice ya m yc] 25)).alloc (.cells #[.slice none 0 0, .slice (some ⟨W1.heap.size, 0, none⟩) 1 1] 39)).drew (RetSRow ((W1.drew.alloc (.cells #[.slice ya m yc] 25)).alloc (.cells #[.slice none 0 0, .slice (some ⟨W1.heap.size, 0, none⟩) 1 1] 39)) L) := cc
  have CC := Lib.hid cc; have HF := Lib.hid (hfin L)
  clear cc hfin hq hyW B2 b2 z2 hW hy hm b1 B1 hL
  go_enter Try.func18, Try.ntmps18
  go_wp2
  go_region_with (go_at_call 28; refine CC.out.mono ?_; intro e w2 hr; have HR := Lib.hid (HF.out _ _ hr); obtain ⟨a2, c2, rfl, -, -⟩ := hr)
  all_goals go_wp2
  all_goals go_ret
  all_goals exact HR.out

/-- A stack with a step more: of these at most 16, the last ones. -/
theorem push_any (a : Option Addr) (l : List EPc) (c : Nat) (y : EPc) (w : World) (hp : SPcs w ⟨a, l, c⟩) (hy : EPcs w y) (hl : l.length ≤ 900) :
    Calls Try.prog 18 #[.slice a l.length c, stpV y.a y.l.length y.c, .int .i64 16] w (RetSRow w ((l ++ [y]).drop (l.length + 1 - 16))) := by
  cases a with
  | some ad => exact push_some ad l c y w hp hy hl
  | none =>
    have e0 : l = [] := hp.len rfl
    have e1 : c = 0 := hp.nil rfl
    subst e0
    subst e1
    exact push_none y w hy

set_option maxRecDepth 100000 in
set_option maxHeartbeats 1600000 in
theorem stk_push_any (a : Option Addr) (l : List EPc) (c : Nat) (y : EPc) (w : World) (hp : SPcs w ⟨a, l, c⟩) (hy : EPcs w y) (hl : l.length ≤ 900) (hb : ∀ x ∈ l, x.l.length ≤ 1000000) (hb2 : y.l.length ≤ 1000000) :
    Calls Try.prog 8 #[.slice a l.length c, stpV y.a y.l.length y.c] w (RetStk w (pushL (lsP l) y.l)) := by
  obtain ⟨ya, yl, yc⟩ := y
  simp only at hb2
  obtain ⟨W1, hW1⟩ : ∃ W1, w.alloc (.cells #[.slice ya yl.length yc] 25) = W1 := ⟨_, rfl⟩
  have b1 : Below w.heap.size w W1 := by rw [← hW1]; exact (Below.refl _ _).alloc (Nat.le_refl _) _
  have B1 := Blk.new w #[.slice ya yl.length yc] 25
  rw [hW1] at B1
  have x0 : W1.cell? ⟨w.heap.size, 0, none⟩ = some (.slice ya yl.length yc) := B1.cell 0 _ rfl
  have cp := push_any a l c ⟨ya, yl, yc⟩ W1 (hp.later b1) (hy.later b1) hl
  have he : lsP ((l ++ [(⟨ya, yl, yc⟩ : EPc)]).drop (l.length + 1 - 16)) = pushL (lsP l) yl := by
    unfold pushL
    rw [lsP_drop, lsP_app, lsP_len]
    rfl
  have hlen : ((l ++ [(⟨ya, yl, yc⟩ : EPc)]).drop (l.length + 1 - 16)).length ≤ 1000 := by rw [List.length_drop, List.length_append]; simp; omega
  have hbb : ∀ x ∈ (l ++ [(⟨ya, yl, yc⟩ : EPc)]).drop (l.length + 1 - 16), x.l.length ≤ 1000000 := fun x hx => by
    rcases List.mem_append.1 (List.mem_of_mem_drop hx) with h | h
    · exact hb x h
    · obtain rfl := List.mem_singleton.1 h
      exact hb2
  obtain ⟨n, hn⟩ : ∃ n, l.length = n := ⟨_, rfl⟩
  obtain ⟨m, hm⟩ : ∃ n, yl.length = n := ⟨_, rfl⟩
  rw [hn] at cp he hlen hbb
  obtain ⟨Q, hQ⟩ : ∃ Q, (l ++ [(⟨ya, yl, yc⟩ : EPc)]).drop (n + 1 - 16) = Q := ⟨_, rfl⟩
  rw [hQ] at cp he hlen hbb
  simp only [hm] at cp x0 hW1 ⊢
  rw [hn]
  rw [← he]
  have ce := fun a2 c2 w2 (h : SRow w2 W1.heap.size ⟨a2, Q, c2⟩) => each_any a2 Q c2 w2 h.in hlen hbb
  obtain ⟨q, hq⟩ : ∃ q, Q.length = q := ⟨_, rfl⟩
  have cp : Calls Try.prog 18 #[.slice a n c, stpV ya m yc, .int .i64 16] W1 fun e w2 => ∃ a2 c2, e = .returned (.slice a2 q c2) ∧ SRow w2 W1.heap.size ⟨a2, Q, c2⟩ ∧ Below W1.heap.size W1 w2 := by rw [← hq]; exact cp
  rw [hq] at ce
  have CP := Lib.hid cp; have CE := Lib.hid ce; have HB1 := Lib.hid b1
  clear cp ce b1 B1 hp hy hb hb2 hlen hbb hQ he hq hn hm
  go_enter Try.func8, Try.ntmps8
  go_wp2_with fail
  refine CP.out.mono ?_
  rintro e w2 ⟨a2, c2, rfl, hr2, hb2⟩
  have HB2 := Lib.hid (HB1.out.trans (hb2.mono HB1.out.size)); have HR2 := Lib.hid hr2; clear hr2 hb2
  go_wp2_with fail
  refine (CE.out _ _ _ HR2.out).mono ?_
  rintro e w3 ⟨a3, c3, l3, rfl, hl3, hr3, ⟨g3, eg3, hg3, hq3⟩, ho3, hb3⟩
  have HB3 := Lib.hid (HB2.out.trans (hb3.mono HB2.out.size)); have HR3 := Lib.hid (hr3.mono HB2.out.size); have HQ3 := Lib.hid (show ∃ g, a3 = some ⟨g, 0, none⟩ ∧ w.heap.size ≤ g ∧ ∀ x ∈ l3, ERow w3 (g + 1) x from ⟨g3, eg3, Nat.le_trans HB2.out.size hg3, hq3⟩); have HO3 := Lib.hid (own_mono ho3 HB2.out.size); clear hr3 hb3 hq3 ho3 eg3 hg3
  go_wp2
  go_ret
  exact ⟨a3, c3, l3, rfl, hl3, HR3.out, HQ3.out, HO3.out, HB3.out⟩
end Go.Proofs.Ythboipmlkgmofaa
