/-
  Joined: SeekAhead, SeekAny, SeekAny2.
-/
import Derived.Test.YteopkjcofcmgoaaJKnotMath
import Derived.Test.YteopkjcofcmgoaaJWeldOf
import Derived.WalkMore
import Derived.Deep.LoopGhost
import Derived.Deep.RegionWith
import Derived.Deep.Cut
import Derived.Deep.CutRange
import Derived.Deep.DeepCutAuto
import Derived.Deep.RegionHeld3
import Derived.Test.YteopkjcofcmgoaaJTallyAdd
namespace Go.Proofs.Yteopkjcofcmgoaa
open Go.RowKit
set_option linter.unusedVariables false
set_option linter.unusedSimpArgs false

/-- What stands ahead of a place. -/
def cntAt (s : ByteArray) (m : Nat) : Value := cntV m (runes (s.data.toList.take m)) (lines (s.data.toList.take m))
def RetAhead (K : List UInt8 → Nat) (s : ByteArray) (n : Int) (w : World) (e : Ending) (w' : World) : Prop :=
  ∃ m, UptoP K s.data.toList n m ∧ e = .returned (cntAt s m) ∧ Below w.heap.size w w'
abbrev zc : Obj := .cells #[.int .i64 0, .int .i64 0, .int .i64 0] 48
theorem ret_all {K : List UInt8 → Nat} {s : ByteArray} {n : Int} {w w' : World} (h : (K s.data.toList : Int) ≤ n) (hb : Below w.heap.size w w') : RetAhead K s n w (.returned (cntV s.size (runes s.data.toList) (lines s.data.toList))) w' := by
  refine ⟨s.size, ?_, ?_, hb⟩
  · have := upto_all h
    rwa [show s.data.toList.length = s.size by simp] at this
  · unfold cntAt
    have e : s.data.toList.take s.size = s.data.toList := List.take_of_length_le (by simp)
    rw [e]

set_option maxRecDepth 100000 in
set_option maxHeartbeats 1600000 in
theorem ahead_all {K : List UInt8 → Nat} {F : FuncId} (key : Key K F) {w : World} {r p : Option Addr} {L : List ByteArray} {s : ByteArray} (h : RopeW w r p L s) {n : Int} (hK : (K s.data.toList : Int) ≤ n) :
    Calls Try.prog 27 #[.pointer r, .int .i64 n, .func (.func F) #[] #[]] w (RetAhead K s n w) := by
  have hb0 : Below w.heap.size w (w.alloc zc) := (Below.refl _ _).alloc (Nat.le_refl _) _
  have c1 := fun W (hW : Below w.heap.size w W) => ro_count (h.later hW)
  have c2 := key.call s
  have ce := key.enter
  have hr := fun w' (hb : Below w.heap.size w w') => ret_all (w := w) (w' := w') hK hb
  obtain ⟨x, hx⟩ : ∃ x, K s.data.toList = x := ⟨_, rfl⟩
  rw [hx] at c2 hK
  obtain ⟨sz, hsz⟩ : ∃ x : Int, (s.size : Int) = x := ⟨_, rfl⟩
  obtain ⟨ru, hru⟩ : ∃ x : Int, (runes s.data.toList : Int) = x := ⟨_, rfl⟩
  obtain ⟨li, hli⟩ : ∃ x : Int, (lines s.data.toList : Int) = x := ⟨_, rfl⟩
  rw [hsz, hru, hli] at c1 c2 hr
  have C1 := Lib.hid c1; have C2 := Lib.hid c2; have HR := Lib.hid hr
  clear c1 c2 hr hx hsz hru hli h
  go_enter Try.func27, Try.ntmps27
  go_wp2
  go_step3
  go_wp2_with fail
  refine (C1.out _ hb0).mono ?_; rintro e w1 ⟨rfl, hb1⟩
  have HB1 := Lib.hid (hb0.trans (hb1.mono hb0.size)); have HN1 := Lib.hid ((Blk3.new w (.int .i64 0) (.int .i64 0) (.int .i64 0) 48).below hb1 (by simp))
  clear hb1
  go_wp2_with fail
  refine (C2.out _).mono ?_; rintro e w2 ⟨rfl, hb2⟩
  have HB2 := Lib.hid (HB1.out.trans (hb2.mono HB1.out.size)); have HN2 := Lib.hid (HN1.out.below hb2 HN1.out.lt)
  clear hb2
  go_wp2_with fail
  refine (C1.out _ HB2.out).mono ?_; rintro e w3 ⟨rfl, hb3⟩
  have HB3 := Lib.hid (HB2.out.trans (hb3.mono HB2.out.size)); have HN3 := Lib.hid (HN2.out.below hb3 HN2.out.lt)
  clear hb3
  have g0 := HN3.out.free 0
  have g1 := HN3.out.free 1
  have g2 := HN3.out.free 2
  have d0 := HN3.out.c0
  have d1 := HN3.out.c1
  have d2 := HN3.out.c2
  have hlt := HN3.out.lt
  go_wp2
  (try rw [Exit.noGoto_ret])
  refine bodyPost_ret (v := cntV sz ru li) (by simp [results, Try.results27, go_sem, g0, g1, g2, d0, d1, d2]) rfl ?_
  exact HR.out _ (((HB3.out.setCell (p := ⟨w.heap.size, 0, none⟩) (Nat.le_refl _) _).setCell (p := ⟨w.heap.size, 1, none⟩) (Nat.le_refl _) _).setCell (p := ⟨w.heap.size, 2, none⟩) (Nat.le_refl _) _)

/-- Going down: the tree that holds the place, and what stands ahead of it. -/
structure DownI (K : List UInt8 → Nat) (s : ByteArray) (n : Int) (w : World) (g : Nat) (h b : Nat) (M : List ByteArray) (P : ByteArray) (wr : World) : Prop where
  knot : KnotH w h b M
  hh : h ≤ 12
  at' : ∃ Q, s = P ++ (wholeL M ++ Q)
  lo : (K P.data.toList : Int) ≤ n
  hi : n < K (P ++ wholeL M).data.toList
  bel : Below w.heap.size w wr
  c6 : Blk3 wr w.heap.size (.int .i64 0) (.int .i64 0) (.int .i64 0) 48
  c8 : Blk3 wr g (.int .i64 P.size) (.int .i64 (runes P.data.toList)) (.int .i64 (lines P.data.toList)) 48
  far : w.heap.size < g

/-- Along the knots under one. -/
structure RowI (K : List UInt8 → Nat) (n : Int) (w : World) (g gr : Nat) (Ks : List Kid) (a : ByteArray) (wx : World) : Prop where
  lo : (K a.data.toList : Int) ≤ n
  bel : Below w.heap.size w wx
  c6 : Blk3 wx w.heap.size (.int .i64 0) (.int .i64 0) (.int .i64 0) 48
  c8 : Blk3 wx g (.int .i64 a.size) (.int .i64 (runes a.data.toList)) (.int .i64 (lines a.data.toList)) 48
  row : PRow wx gr 0 (ptrs Ks)
def upto (P : ByteArray) (Ks : List Kid) (i : Nat) : ByteArray := P ++ wholeL (flat (Ks.take i))
theorem upto_zero (P : ByteArray) (Ks : List Kid) : upto P Ks 0 = P := by unfold upto; rw [List.take_zero, show flat [] = [] from rfl, whole_nil, app_nil' _ ⟨#[]⟩ rfl]
theorem upto_succ (P : ByteArray) (Ks : List Kid) (i : Nat) (h : i < Ks.length) : upto P Ks (i + 1) = upto P Ks i ++ wholeL Ks[i].L := by
  unfold upto
  rw [List.take_succ_eq_append_getElem h, flat_app, flat_one, whole_app, app_assoc']
theorem upto_size (P : ByteArray) (Ks : List Kid) (i : Nat) : (upto P Ks i).size ≤ (P ++ wholeL (flat Ks)).size := by
  have e : flat Ks = flat (Ks.take i) ++ flat (Ks.drop i) := by rw [← flat_app, List.take_append_drop]
  unfold upto
  rw [e, whole_app]
  simp only [ByteArray.size_append]
  omega
theorem upto_last (P : ByteArray) (Ks : List Kid) : upto P Ks Ks.length = P ++ wholeL (flat Ks) := by unfold upto; rw [List.take_length]
/-- What is seen while a round's count is made: the count so far. -/
def Saw (wr : World) (g : Nat) (a : ByteArray) (w' : World) : Prop := Below wr.heap.size wr w' ∧ w'.cell? ⟨g, 0, none⟩ = some (.int .i64 a.size) ∧ w'.cell? ⟨g, 1, none⟩ = some (.int .i64 (runes a.data.toList)) ∧ w'.cell? ⟨g, 2, none⟩ = some (.int .i64 (lines a.data.toList))
theorem Saw.on {wr w1 w2 : World} {g : Nat} {a : ByteArray} (h : Saw wr g a w1) (hb : Below w1.heap.size w1 w2) (hg : g < wr.heap.size) : Saw wr g a w2 := by
  have hg1 : g < w1.heap.size := Nat.lt_of_lt_of_le hg h.1.size
  exact ⟨h.1.trans (hb.mono h.1.size), (hb.cell (p := ⟨g, 0, none⟩) hg1).trans h.2.1, (hb.cell (p := ⟨g, 1, none⟩) hg1).trans h.2.2.1, (hb.cell (p := ⟨g, 2, none⟩) hg1).trans h.2.2.2⟩
theorem Saw.put {wr w1 : World} {g gn : Nat} {a : ByteArray} (h : Saw wr g a w1) (hn : wr.heap.size ≤ gn) (hg : g < wr.heap.size) (x y z : Value) : Saw wr g a (((w1.setCell ⟨gn, 0, none⟩ x).setCell ⟨gn, 1, none⟩ y).setCell ⟨gn, 2, none⟩ z) := by
  have hb : Below wr.heap.size wr (((w1.setCell ⟨gn, 0, none⟩ x).setCell ⟨gn, 1, none⟩ y).setCell ⟨gn, 2, none⟩ z) := ((h.1.setCell (p := ⟨gn, 0, none⟩) hn _).setCell (p := ⟨gn, 1, none⟩) hn _).setCell (p := ⟨gn, 2, none⟩) hn _
  have e := fun o => hb.cell (p := ⟨g, o, none⟩) hg
  have e1 := fun o => h.1.cell (p := ⟨g, o, none⟩) hg
  exact ⟨hb, (e 0).trans ((e1 0).symm.trans h.2.1), (e 1).trans ((e1 1).symm.trans h.2.2.1), (e 2).trans ((e1 2).symm.trans h.2.2.2)⟩
theorem Saw.on2 {w w1 w2 : World} {g : Nat} {a : ByteArray} (h : Saw w g a w1) (hb : Below w1.heap.size w1 w2) : Saw w g a w2 := by
  have hg1 : g < w1.heap.size := World.block_lt_of_cell? _ _ h.2.1
  exact ⟨h.1.trans (hb.mono h.1.size), (hb.cell (p := ⟨g, 0, none⟩) hg1).trans h.2.1, (hb.cell (p := ⟨g, 1, none⟩) hg1).trans h.2.2.1, (hb.cell (p := ⟨g, 2, none⟩) hg1).trans h.2.2.2⟩
theorem Saw.put2 {w w1 : World} {g gn : Nat} {a : ByteArray} (h : Saw w g a w1) (hn : w.heap.size ≤ gn) (hg : g ≠ gn) (x y z : Value) : Saw w g a (((w1.setCell ⟨gn, 0, none⟩ x).setCell ⟨gn, 1, none⟩ y).setCell ⟨gn, 2, none⟩ z) := by
  have e : ∀ o, (((w1.setCell ⟨gn, 0, none⟩ x).setCell ⟨gn, 1, none⟩ y).setCell ⟨gn, 2, none⟩ z).cell? ⟨g, o, none⟩ = w1.cell? ⟨g, o, none⟩ := fun o => World.cell?_of_block (w := w1) ((Below.heap_setCell _ _ _ _ hg).trans ((Below.heap_setCell _ _ _ _ hg).trans (Below.heap_setCell _ _ _ _ hg)))
  exact ⟨((h.1.setCell (p := ⟨gn, 0, none⟩) hn _).setCell (p := ⟨gn, 1, none⟩) hn _).setCell (p := ⟨gn, 2, none⟩) hn _, (e 0).trans h.2.1, (e 1).trans h.2.2.1, (e 2).trans h.2.2.2⟩
/-- What is answered at the chunk. -/
theorem ret_down {K : List UInt8 → Nat} {s P t Q : ByteArray} {n : Int} {i : Nat} {w w' : World} (hs : s = P ++ (t ++ Q)) (hi : i < t.size) (h1 : (K (P ++ t.extract 0 i).data.toList : Int) ≤ n) (h2 : n < (K (P ++ t.extract 0 (i + 1)).data.toList : Int)) (hb : Below w.heap.size w w') :
    RetAhead K s n w (.returned (cntV (P ++ t.extract 0 i).size (runes (P ++ t.extract 0 i).data.toList) (lines (P ++ t.extract 0 i).data.toList))) w' := by
  have hl : ∀ k, (t.extract 0 k).data.toList = t.data.toList.take k := fun k => by rw [extract_list, List.drop_zero, Nat.sub_zero]
  have ht : t.data.toList.length = t.size := by simp
  have hp : P.data.toList.length = P.size := by simp
  have es : s.data.toList = P.data.toList ++ (t.data.toList ++ Q.data.toList) := by rw [hs, app_list, app_list]
  have u := upto_mid (K := K) (p := P.data.toList) (t := t.data.toList) (q := Q.data.toList) (n := n) (m := i) (by omega) (by rw [← hl, ← app_list]; exact h1) (by rw [← hl, ← app_list]; exact h2)
  rw [← es, hp] at u
  refine ⟨P.size + i, u, ?_, hb⟩
  have e : s.data.toList.take (P.size + i) = (P ++ t.extract 0 i).data.toList := by
    rw [es, ← hp, take_mid _ _ _ (by omega), app_list, hl]
  have ez : (P ++ t.extract 0 i).size = P.size + i := by rw [ByteArray.size_append, piece_size t i (by omega)]
  unfold cntAt
  rw [e, ez]
/-- Two counts together, wherever their row lies. -/
theorem tadd_at {a b : ByteArray} (h : (a ++ b).size ≤ 1000000) (gq : Nat) (w : World) (hc : Cnts w w.heap.size (some ⟨gq, 0, none⟩) [cntK a, cntK b]) :
    Calls Try.prog 45 #[.slice (some ⟨gq, 0, none⟩) 2 2] w fun e w' => e = .returned (cntV (a ++ b).size (runes (a ++ b).data.toList) (lines (a ++ b).data.toList)) ∧ Below w.heap.size w w' := by
  have := tadd_any (some ⟨gq, 0, none⟩) [cntK a, cntK b] 2 (by simp) w hc
  rw [sum_two a b h] at this
  exact this

set_option maxRecDepth 100000 in
set_option maxHeartbeats 3200000 in
theorem ahead_down {K : List UInt8 → Nat} {F : FuncId} (key : Key K F) {w : World} {r p : Option Addr} {L : List ByteArray} {s : ByteArray} (h : RopeW w r p L s) {n : Int} (hn : 0 ≤ n) (hK : n < (K s.data.toList : Int)) :
    Calls Try.prog 27 #[.pointer r, .int .i64 n, .func (.func F) #[] #[]] w (RetAhead K s n w) := by
  have hb0 : Below w.heap.size w (w.alloc zc) := (Below.refl _ _).alloc (Nat.le_refl _) _
  have c1 := fun W (hW : Below w.heap.size w W) => ro_count (h.later hW)
  have c2 := key.call s
  have ce := key.enter
  have c3 := fun W (hW : Below w.heap.size w W) => ro_root (h.later hW)
  have htx := h.x.txt
  have hsm := h.x.small
  obtain ⟨b, H, rfl, hk, hH⟩ : ∃ b H, p = some ⟨b, 0, none⟩ ∧ KnotH w H b L ∧ H ≤ 12 := by
    rcases h.x.cases with ⟨rfl, rfl⟩ | ⟨b, H, rfl, hk, -, hH⟩
    · exfalso
      rw [← htx, whole_nil] at hK
      have := key.m.nil
      rw [show (⟨#[]⟩ : ByteArray).data.toList = [] from rfl, this] at hK
      omega
    · exact ⟨b, H, rfl, hk, hH⟩
  have hk0 : K [] = 0 := key.m.nil
  have hstart : ∀ wr g, w.heap.size < g → Below w.heap.size w wr → Blk3 wr w.heap.size (.int .i64 0) (.int .i64 0) (.int .i64 0) 48 → Blk3 wr g (.int .i64 0) (.int .i64 0) (.int .i64 0) 48 → DownI K s n w g H b L ⟨#[]⟩ wr := fun wr g hg hb h6 h8 =>
    ⟨hk, hH, ⟨⟨#[]⟩, by rw [nil_app, htx, app_nil' _ ⟨#[]⟩ rfl]⟩, by rw [show (⟨#[]⟩ : ByteArray).data.toList = [] from rfl, hk0]; exact hn, by rw [nil_app, htx]; exact hK, hb, h6, h8, hg⟩
  obtain ⟨x, hx⟩ : ∃ x, K s.data.toList = x := ⟨_, rfl⟩
  rw [hx] at c2 hK
  obtain ⟨sz, hsz⟩ : ∃ x : Int, (s.size : Int) = x := ⟨_, rfl⟩
  obtain ⟨ru, hru⟩ : ∃ x : Int, (runes s.data.toList : Int) = x := ⟨_, rfl⟩
  obtain ⟨li, hli⟩ : ∃ x : Int, (lines s.data.toList : Int) = x := ⟨_, rfl⟩
  rw [hsz, hru, hli] at c1 c2
  have C1 := Lib.hid c1; have C2 := Lib.hid c2; have C3 := Lib.hid c3; have HST := Lib.hid hstart
  clear c1 c2 c3 hx hsz hru hli h htx hk hstart
  go_enter Try.func27, Try.ntmps27
  go_wp2
  go_step3
  go_wp2_with fail
  refine (C1.out _ hb0).mono ?_; rintro e w1 ⟨rfl, hb1⟩
  have HB1 := Lib.hid (hb0.trans (hb1.mono hb0.size)); have HN1 := Lib.hid ((Blk3.new w (.int .i64 0) (.int .i64 0) (.int .i64 0) 48).below hb1 (by simp))
  clear hb1
  go_wp2_with fail
  refine (C2.out _).mono ?_; rintro e w2 ⟨rfl, hb2⟩
  have HB2 := Lib.hid (HB1.out.trans (hb2.mono HB1.out.size)); have HN2 := Lib.hid (HN1.out.below hb2 HN1.out.lt)
  clear hb2
  go_wp2_with fail
  refine (C3.out _ HB2.out).mono ?_; rintro e w3 ⟨rfl, hb3⟩
  have HB3 := Lib.hid (HB2.out.trans (hb3.mono HB2.out.size)); have HN3 := Lib.hid (HN2.out.below hb3 HN2.out.lt)
  clear hb3
  have hlt := HN3.out.lt
  go_wp2
  go_step3
  go_wp2
  have hI := HST.out (w3.alloc zc) w3.heap.size hlt (HB3.out.alloc HB3.out.size _) (HN3.out.alloc _) (Blk3.new w3 _ _ _ _)
  obtain ⟨g, hg⟩ : ∃ g, w3.heap.size = g := ⟨_, rfl⟩
  rw [hg] at hI ⊢
  have HI := Lib.hid hI
  clear hI hg hlt
  go_loopg [7] H (fun gk v wr => ∃ (h b : Nat) (M : List ByteArray) (P : ByteArray), gk = h ∧ v = .pointer (some ⟨b, 0, none⟩) ∧ DownI K s n w g h b M P wr)
  case atStart => exact ⟨H, b, L, _, rfl, rfl, HI.out⟩
  case round =>
    clear HI
    obtain ⟨h, kb, M, P, rfl, rfl, hD⟩ := hrel
    cases gk with
    | zero =>
      obtain ⟨-, t, rfl, hf, hB⟩ := hD.knot
      have ck : Calls Try.prog 44 #[.pointer (some ⟨kb, 0, none⟩)] wr fun e w' => e = .returned (.slice none 0 0) ∧ Below wr.heap.size wr w' := kids_leaf (hB.below hD.bel hD.knot.lt)
      have cf : ∀ W, Below w.heap.size w W → Calls Try.prog 47 #[.pointer (some ⟨kb, 0, none⟩)] W fun e w' => e = .returned (.string t) ∧ Below W.heap.size W w' := fun W hW => first_blk (hB.below hW hD.knot.lt)
      have CK := Lib.hid ck; have CF := Lib.hid cf; have HD := Lib.hid hD; have HF := Lib.hid hf
      clear ck cf hD hB hf
      go_wp2_with fail
      refine CK.out.mono ?_; rintro e w5 ⟨rfl, hb5⟩
      have HB5 := Lib.hid (HD.out.bel.trans (hb5.mono HD.out.bel.size)); have HS5 := Lib.hid hb5
      clear hb5
      go_wp2
      go_loopg [7, 28] 0 (fun _ v7 v wx => v7 = .pointer (some ⟨kb, 0, none⟩) ∧ v = .int .i64 0 ∧ wx = w5)
      case atStart => exact ⟨rfl, rfl, rfl⟩
      case round =>
        obtain ⟨rfl, rfl, rfl⟩ := hrel
        go_wp2_with fail
        refine (CF.out _ HB5.out).mono ?_; rintro e w6 ⟨rfl, hb6⟩
        have HB6 := Lib.hid (HB5.out.trans (hb6.mono HB5.out.size))
        have H66 := Lib.hid ((HD.out.c6.below HS5.out HD.out.c6.lt).below hb6 (HD.out.c6.below HS5.out HD.out.c6.lt).lt)
        have H68 := Lib.hid ((HD.out.c8.below HS5.out HD.out.c8.lt).below hb6 (HD.out.c8.below HS5.out HD.out.c8.lt).lt)
        clear hb6
        go_wp2
        have hmi : n < (K (P ++ t).data.toList : Int) := by
          have := HD.out.hi
          rwa [whole_one] at this
        have hpl : (K (P ++ t.extract 0 0).data.toList : Int) ≤ n := by
          rw [show t.extract 0 0 = ⟨#[]⟩ from by simp; rfl, app_nil' _ ⟨#[]⟩ rfl]
          exact HD.out.lo
        have hfar := HD.out.far
        have HMI := Lib.hid hmi; have HPL := Lib.hid hpl
        clear hmi hpl
        go_loopg [13] t.size (fun gk v wx => ∃ i : Nat, i + gk = t.size ∧ v = .int .i64 i ∧ (K (P ++ t.extract 0 i).data.toList : Int) ≤ n ∧ Below w.heap.size w wx ∧ Blk3 wx w.heap.size (.int .i64 0) (.int .i64 0) (.int .i64 0) 48 ∧ Blk3 wx g (.int .i64 P.size) (.int .i64 (runes P.data.toList)) (.int .i64 (lines P.data.toList)) 48)
        case atStart => exact ⟨0, by omega, rfl, HPL.out, HB6.out, H66.out, H68.out⟩
        case round =>
          obtain ⟨i, hi, rfl, hlo, hbx, hx6, hx8⟩ := hrel
          cases gk with
          | zero =>
            exfalso
            obtain rfl : i = t.size := by omega
            rw [show t.extract 0 t.size = t from by simp] at hlo
            have := HMI.out
            omega
          | succ gi =>
            have hit : i < t.size := by omega
            have hf := HF.out.2.1
            obtain ⟨Q, hQ⟩ := HD.out.at'
            rw [whole_one] at hQ
            have hps : P.size ≤ 5000 := by
              have : s.size = (P ++ (t ++ Q)).size := by rw [← hQ]
              rw [ByteArray.size_append] at this
              omega
            have ch := thead_any t (by unfold maxLen; omega) ((i + 1 : Nat) : Int)
            rw [headS_1 t (i + 1) hit, show ((i + 1 : Nat) : Int) = (i : Int) + 1 by omega] at ch
            have ch0 := thead_any t (by unfold maxLen; omega) ((i : Nat) : Int)
            rw [headS_1 t i (by omega)] at ch0
            have z1 : (P ++ t.extract 0 (i + 1)).size ≤ 1000000 := by rw [ByteArray.size_append, piece_size t (i + 1) hit]; omega
            have z2 : (P ++ t.extract 0 i).size ≤ 1000000 := by rw [ByteArray.size_append, piece_size t i (by omega)]; omega
            have ca := fun gq W hW => tadd_at (a := P) (b := t.extract 0 (i + 1)) z1 gq W hW
            have ca0 := fun gq W hW => tadd_at (a := P) (b := t.extract 0 i) z2 gq W hW
            have hrd := fun w' (h2 : ¬ (K (P ++ t.extract 0 (i + 1)).data.toList : Int) ≤ n) hb => ret_down (K := K) (n := n) (i := i) (w := w) (w' := w') hQ hit hlo (by omega) hb
            obtain ⟨v, hv⟩ : ∃ v, t.extract 0 (i + 1) = v := ⟨_, rfl⟩
            obtain ⟨v0, hv0⟩ : ∃ v, t.extract 0 i = v := ⟨_, rfl⟩
            have hnxt : ∀ (hy : (K (P ++ v).data.toList : Int) ≤ n), (K (P ++ t.extract 0 (i + 1)).data.toList : Int) ≤ n := fun h => by rw [hv]; exact h
            rw [hv] at ch ca hrd
            rw [hv0] at ch0 ca0 hrd
            have cz := key.call (P ++ v)
            obtain ⟨z, hz⟩ : ∃ z, P ++ v = z := ⟨_, rfl⟩
            obtain ⟨z0, hz0⟩ : ∃ z, P ++ v0 = z := ⟨_, rfl⟩
            rw [hz] at ca cz hrd hnxt
            rw [hz0] at ca0 hrd
            obtain ⟨y, hy⟩ : ∃ y, K z.data.toList = y := ⟨_, rfl⟩
            rw [hy] at cz hrd hnxt
            have CH := Lib.hid ch; have CH0 := Lib.hid ch0; have CA := Lib.hid ca; have CA0 := Lib.hid ca0; have CZ := Lib.hid cz; have HRD := Lib.hid hrd; have HNX := Lib.hid hnxt
            have d0 := hx8.c0
            have d1 := hx8.c1
            have d2 := hx8.c2
            have hlt8 := hx8.lt
            have HSAW := Lib.hid (show Saw wr g P wr.drew from ⟨(Below.refl _ _).drew, d0, d1, d2⟩)
            have b1 : (i : Int) < (t.size : Int) := by omega
            have b2 : (0 : Int) ≤ (i : Int) := by omega
            have b3 : (t.size : Int) ≤ 16 := by omega
            have b4 : IntKind.i64.wrap ((i : Int) + 1) = (i : Int) + 1 := by rw [IntKind.wrap_i64]; omega
            have hne : g ≠ w.heap.size := by omega
            clear ch ch0 ca ca0 cz hrd hnxt z1 z2 hv hv0 hz hz0 hy hQ hps d0 d1 d2 hlo
            by_cases hyn : (y : Int) ≤ n
            · go_wp2_with fail
              -- GEN LOOKYES
              refine wp_region_held_drew (S := Saw wr g P) (by kernel_rfl) HSAW.out (fun hHeld => ?_)
              refine wpAnyH_take (i := 0) (v := ?_) (by simp only [List.getElem?_toArray, List.getElem?_cons_succ, List.getElem?_cons_zero]; rfl) (by kernel_rfl) (by kernel_rfl) (by kernel_rfl) (fun _ _ _ h => by exact h) (Or.inl ⟨by rfl, ?_⟩) (by assumption) ?_
              rotate_left
              · (intro w hSw; (try dsimp only at hSw); go_simp; try with_reducible rfl)
              try simp only [Act.put, List.setIfInBounds_toArray, List.set_cons_zero, List.set_cons_succ]
              refine wpAnyH_take (i := 1) (v := ?_) (by simp only [List.getElem?_toArray, List.getElem?_cons_succ, List.getElem?_cons_zero]; rfl) (by kernel_rfl) (by kernel_rfl) (by kernel_rfl) (fun _ _ _ h => by exact h) (Or.inl ⟨by rfl, ?_⟩) (by assumption) ?_
              rotate_left
              · (intro w hSw; (try dsimp only at hSw); go_simp; try with_reducible rfl)
              try simp only [Act.put, List.setIfInBounds_toArray, List.set_cons_zero, List.set_cons_succ]
              refine wpAnyH_take (i := 2) (v := ?_) (by simp only [List.getElem?_toArray, List.getElem?_cons_succ, List.getElem?_cons_zero]; rfl) (by kernel_rfl) (by kernel_rfl) (by kernel_rfl) (fun _ _ _ h => by exact h) (Or.inl ⟨by rfl, ?_⟩) (by assumption) ?_
              rotate_left
              · (intro w hSw; (try dsimp only at hSw); go_simp; try with_reducible rfl)
              try simp only [Act.put, List.setIfInBounds_toArray, List.set_cons_zero, List.set_cons_succ]
              refine wpAnyH_take (i := 3) (v := ?_) (by simp only [List.getElem?_toArray, List.getElem?_cons_succ, List.getElem?_cons_zero]; rfl) (by kernel_rfl) (by kernel_rfl) (by kernel_rfl) (fun _ _ _ h => by exact h) (Or.inl ⟨by rfl, ?_⟩) (by assumption) ?_
              rotate_left
              · (intro w hSw; (try dsimp only at hSw); go_simp; try with_reducible rfl)
              try simp only [Act.put, List.setIfInBounds_toArray, List.set_cons_zero, List.set_cons_succ]
              refine wpAnyH_take (i := 4) (v := ?_) (by simp only [List.getElem?_toArray, List.getElem?_cons_succ, List.getElem?_cons_zero]; rfl) (by kernel_rfl) (by kernel_rfl) (by kernel_rfl) (fun _ _ _ h => by exact h) (Or.inl ⟨by rfl, ?_⟩) (by assumption) ?_
              rotate_left
              · (intro w hSw; (try dsimp only at hSw); go_simp; try with_reducible rfl)
              try simp only [Act.put, List.setIfInBounds_toArray, List.set_cons_zero, List.set_cons_succ]
              refine wpAnyH_take (i := 5) (v := ?_) (by simp only [List.getElem?_toArray, List.getElem?_cons_succ, List.getElem?_cons_zero]; rfl) (by kernel_rfl) (by kernel_rfl) (by kernel_rfl) (fun _ _ _ h => by exact h) (Or.inl ⟨by rfl, ?_⟩) (by assumption) ?_
              rotate_left
              · (intro w hSw; (try dsimp only at hSw); go_simp; try with_reducible rfl)
              try simp only [Act.put, List.setIfInBounds_toArray, List.set_cons_zero, List.set_cons_succ]
              refine wpAnyH_take (i := 6) (v := ?_) (by simp only [List.getElem?_toArray, List.getElem?_cons_succ, List.getElem?_cons_zero]; rfl) (by kernel_rfl) (by kernel_rfl) (by kernel_rfl) (fun _ _ _ h => by exact h) (Or.inl ⟨by rfl, ?_⟩) (by assumption) ?_
              rotate_left
              · (intro w hSw; obtain ⟨x1, x2, x3, x4⟩ := hSw; go_simp; try with_reducible rfl)
              try simp only [Act.put, List.setIfInBounds_toArray, List.set_cons_zero, List.set_cons_succ]
              refine wpAnyH_take (i := 7) (v := ?_) (by simp only [List.getElem?_toArray, List.getElem?_cons_succ, List.getElem?_cons_zero]; rfl) (by kernel_rfl) (by kernel_rfl) (by kernel_rfl) (fun _ _ _ h => by exact h) (Or.inl ⟨by rfl, ?_⟩) (by assumption) ?_
              rotate_left
              · (intro w hSw; (try dsimp only at hSw); go_simp; try with_reducible rfl)
              try simp only [Act.put, List.setIfInBounds_toArray, List.set_cons_zero, List.set_cons_succ]
              refine wpAnyH_take (i := 8) (v := ?_) (by simp only [List.getElem?_toArray, List.getElem?_cons_succ, List.getElem?_cons_zero]; rfl) (by kernel_rfl) (by kernel_rfl) (by kernel_rfl) (fun _ _ _ h => by exact h) (Or.inl ⟨by rfl, ?_⟩) (by assumption) ?_
              rotate_left
              · (intro w hSw; (try dsimp only at hSw); go_simp; try with_reducible rfl)
              try simp only [Act.put, List.setIfInBounds_toArray, List.set_cons_zero, List.set_cons_succ]
              refine wpAnyH_take (i := 9) (v := ?_) (by simp only [List.getElem?_toArray, List.getElem?_cons_succ, List.getElem?_cons_zero]; rfl) (by kernel_rfl) (by kernel_rfl) (by kernel_rfl) (fun _ _ _ h => by exact h) (Or.inl ⟨by rfl, ?_⟩) (by assumption) ?_
              rotate_left
              · (intro w hSw; (try dsimp only at hSw); go_simp; try with_reducible rfl)
              try simp only [Act.put, List.setIfInBounds_toArray, List.set_cons_zero, List.set_cons_succ]
              refine wpAnyH_take (i := 14) (v := ?_) (by simp only [List.getElem?_toArray, List.getElem?_cons_succ, List.getElem?_cons_zero]; rfl) (by kernel_rfl) (by kernel_rfl) (by kernel_rfl) (fun _ _ _ h => by exact h) (Or.inl ⟨by rfl, ?_⟩) (by assumption) ?_
              rotate_left
              · (intro w hSw; (try dsimp only at hSw); go_simp; try with_reducible rfl)
              try simp only [Act.put, List.setIfInBounds_toArray, List.set_cons_zero, List.set_cons_succ]
              refine wpAnyH_ready (rs := [10]) (by kernel_rfl) (by simp) ?_
              refine AllReadyH.cons (by simp only [List.getElem?_toArray, List.getElem?_cons_succ, List.getElem?_cons_zero]; rfl) (fun K hK => ?_) AllReadyH.nil
              go_simp
              (go_at_call 48; refine (CH.out _).mono ?_; rintro e w1 ⟨rfl, hb1⟩; have HS1 := Lib.hid (hHeld.on hb1 hlt8))
              try go_wp2_with fail
              refine hK.out _ _ ?_ (fun hHeld => ?_)
              · exact HS1.out
              clear hK K
              try simp only [Act.put, List.setIfInBounds_toArray, List.set_cons_zero, List.set_cons_succ]
              refine wpAnyH_ready (rs := [11]) (by kernel_rfl) (by simp) ?_
              refine AllReadyH.cons (by simp only [List.getElem?_toArray, List.getElem?_cons_succ, List.getElem?_cons_zero]; rfl) (fun K hK => ?_) AllReadyH.nil
              go_simp
              have HS2 := Lib.hid (HS1.out.on ((Below.refl _ _).alloc (Nat.le_refl _) (row2 P v)) hlt8); have HC2 := Lib.hid (row2_cnts P v w1)
              try go_wp2_with fail
              refine hK.out _ _ ?_ (fun hHeld => ?_)
              · exact HS2.out
              clear hK K
              try simp only [Act.put, List.setIfInBounds_toArray, List.set_cons_zero, List.set_cons_succ]
              refine wpAnyH_ready (rs := [12]) (by kernel_rfl) (by simp) ?_
              refine AllReadyH.cons (by simp only [List.getElem?_toArray, List.getElem?_cons_succ, List.getElem?_cons_zero]; rfl) (fun K hK => ?_) AllReadyH.nil
              go_simp
              (go_at_call 45; refine (CA.out _ _ HC2.out).mono ?_; rintro e w2 ⟨rfl, hb2⟩; have HS3 := Lib.hid (hHeld.on hb2 hlt8))
              try go_wp2_with fail
              refine hK.out _ _ ?_ (fun hHeld => ?_)
              · exact HS3.out
              clear hK K
              try simp only [Act.put, List.setIfInBounds_toArray, List.set_cons_zero, List.set_cons_succ]
              refine wpAnyH_ready (rs := [13]) (by kernel_rfl) (by simp) ?_
              refine AllReadyH.cons (by simp only [List.getElem?_toArray, List.getElem?_cons_succ, List.getElem?_cons_zero]; rfl) (fun K hK => ?_) AllReadyH.nil
              go_simp
              (refine (CZ.out _).mono ?_; rintro e w3 ⟨rfl, hb3⟩; have HS4 := Lib.hid (hHeld.on hb3 hlt8))
              try go_wp2_with fail
              refine hK.out _ _ ?_ (fun hHeld => ?_)
              · exact HS4.out
              clear hK K
              try simp only [Act.put, List.setIfInBounds_toArray, List.set_cons_zero, List.set_cons_succ]
              refine wpAnyH_take (i := 15) (v := ?_) (by simp only [List.getElem?_toArray, List.getElem?_cons_succ, List.getElem?_cons_zero]; rfl) (by kernel_rfl) (by kernel_rfl) (by kernel_rfl) (fun _ _ _ h => by exact h) (Or.inl ⟨by rfl, ?_⟩) (by assumption) ?_
              rotate_left
              · (intro w hSw; (try dsimp only at hSw); go_simp; try with_reducible rfl)
              try simp only [Act.put, List.setIfInBounds_toArray, List.set_cons_zero, List.set_cons_succ]
              refine wpAnyH_take (i := 16) (v := ?_) (by simp only [List.getElem?_toArray, List.getElem?_cons_succ, List.getElem?_cons_zero]; rfl) (by kernel_rfl) (by kernel_rfl) (by kernel_rfl) (fun _ _ _ h => by exact h) (Or.inl ⟨by rfl, ?_⟩) (by assumption) ?_
              rotate_left
              · (intro w hSw; (try dsimp only at hSw); go_simp; try with_reducible rfl)
              try simp only [Act.put, List.setIfInBounds_toArray, List.set_cons_zero, List.set_cons_succ]
              refine wpAnyH_done (by kernel_rfl) ?_ _
              -- END GEN LOOKYES
              go_wp2
              go_roundg gi
              case measure => omega
              case rel => exact ⟨i + 1, by omega, by go_num, HNX.out hyn, hbx.trans (HS4.out.1.mono hbx.size), hx6.below HS4.out.1 hx6.lt, hx8.below HS4.out.1 hx8.lt⟩
            · go_wp2_with fail
              -- GEN LOOKNO
              refine wp_region_held_drew (S := Saw wr g P) (by kernel_rfl) HSAW.out (fun hHeld => ?_)
              refine wpAnyH_take (i := 0) (v := ?_) (by simp only [List.getElem?_toArray, List.getElem?_cons_succ, List.getElem?_cons_zero]; rfl) (by kernel_rfl) (by kernel_rfl) (by kernel_rfl) (fun _ _ _ h => by exact h) (Or.inl ⟨by rfl, ?_⟩) (by assumption) ?_
              rotate_left
              · (intro w hSw; (try dsimp only at hSw); go_simp; try with_reducible rfl)
              try simp only [Act.put, List.setIfInBounds_toArray, List.set_cons_zero, List.set_cons_succ]
              refine wpAnyH_take (i := 1) (v := ?_) (by simp only [List.getElem?_toArray, List.getElem?_cons_succ, List.getElem?_cons_zero]; rfl) (by kernel_rfl) (by kernel_rfl) (by kernel_rfl) (fun _ _ _ h => by exact h) (Or.inl ⟨by rfl, ?_⟩) (by assumption) ?_
              rotate_left
              · (intro w hSw; (try dsimp only at hSw); go_simp; try with_reducible rfl)
              try simp only [Act.put, List.setIfInBounds_toArray, List.set_cons_zero, List.set_cons_succ]
              refine wpAnyH_take (i := 2) (v := ?_) (by simp only [List.getElem?_toArray, List.getElem?_cons_succ, List.getElem?_cons_zero]; rfl) (by kernel_rfl) (by kernel_rfl) (by kernel_rfl) (fun _ _ _ h => by exact h) (Or.inl ⟨by rfl, ?_⟩) (by assumption) ?_
              rotate_left
              · (intro w hSw; (try dsimp only at hSw); go_simp; try with_reducible rfl)
              try simp only [Act.put, List.setIfInBounds_toArray, List.set_cons_zero, List.set_cons_succ]
              refine wpAnyH_take (i := 3) (v := ?_) (by simp only [List.getElem?_toArray, List.getElem?_cons_succ, List.getElem?_cons_zero]; rfl) (by kernel_rfl) (by kernel_rfl) (by kernel_rfl) (fun _ _ _ h => by exact h) (Or.inl ⟨by rfl, ?_⟩) (by assumption) ?_
              rotate_left
              · (intro w hSw; (try dsimp only at hSw); go_simp; try with_reducible rfl)
              try simp only [Act.put, List.setIfInBounds_toArray, List.set_cons_zero, List.set_cons_succ]
              refine wpAnyH_take (i := 4) (v := ?_) (by simp only [List.getElem?_toArray, List.getElem?_cons_succ, List.getElem?_cons_zero]; rfl) (by kernel_rfl) (by kernel_rfl) (by kernel_rfl) (fun _ _ _ h => by exact h) (Or.inl ⟨by rfl, ?_⟩) (by assumption) ?_
              rotate_left
              · (intro w hSw; (try dsimp only at hSw); go_simp; try with_reducible rfl)
              try simp only [Act.put, List.setIfInBounds_toArray, List.set_cons_zero, List.set_cons_succ]
              refine wpAnyH_take (i := 5) (v := ?_) (by simp only [List.getElem?_toArray, List.getElem?_cons_succ, List.getElem?_cons_zero]; rfl) (by kernel_rfl) (by kernel_rfl) (by kernel_rfl) (fun _ _ _ h => by exact h) (Or.inl ⟨by rfl, ?_⟩) (by assumption) ?_
              rotate_left
              · (intro w hSw; (try dsimp only at hSw); go_simp; try with_reducible rfl)
              try simp only [Act.put, List.setIfInBounds_toArray, List.set_cons_zero, List.set_cons_succ]
              refine wpAnyH_take (i := 6) (v := ?_) (by simp only [List.getElem?_toArray, List.getElem?_cons_succ, List.getElem?_cons_zero]; rfl) (by kernel_rfl) (by kernel_rfl) (by kernel_rfl) (fun _ _ _ h => by exact h) (Or.inl ⟨by rfl, ?_⟩) (by assumption) ?_
              rotate_left
              · (intro w hSw; obtain ⟨x1, x2, x3, x4⟩ := hSw; go_simp; try with_reducible rfl)
              try simp only [Act.put, List.setIfInBounds_toArray, List.set_cons_zero, List.set_cons_succ]
              refine wpAnyH_take (i := 7) (v := ?_) (by simp only [List.getElem?_toArray, List.getElem?_cons_succ, List.getElem?_cons_zero]; rfl) (by kernel_rfl) (by kernel_rfl) (by kernel_rfl) (fun _ _ _ h => by exact h) (Or.inl ⟨by rfl, ?_⟩) (by assumption) ?_
              rotate_left
              · (intro w hSw; (try dsimp only at hSw); go_simp; try with_reducible rfl)
              try simp only [Act.put, List.setIfInBounds_toArray, List.set_cons_zero, List.set_cons_succ]
              refine wpAnyH_take (i := 8) (v := ?_) (by simp only [List.getElem?_toArray, List.getElem?_cons_succ, List.getElem?_cons_zero]; rfl) (by kernel_rfl) (by kernel_rfl) (by kernel_rfl) (fun _ _ _ h => by exact h) (Or.inl ⟨by rfl, ?_⟩) (by assumption) ?_
              rotate_left
              · (intro w hSw; (try dsimp only at hSw); go_simp; try with_reducible rfl)
              try simp only [Act.put, List.setIfInBounds_toArray, List.set_cons_zero, List.set_cons_succ]
              refine wpAnyH_take (i := 9) (v := ?_) (by simp only [List.getElem?_toArray, List.getElem?_cons_succ, List.getElem?_cons_zero]; rfl) (by kernel_rfl) (by kernel_rfl) (by kernel_rfl) (fun _ _ _ h => by exact h) (Or.inl ⟨by rfl, ?_⟩) (by assumption) ?_
              rotate_left
              · (intro w hSw; (try dsimp only at hSw); go_simp; try with_reducible rfl)
              try simp only [Act.put, List.setIfInBounds_toArray, List.set_cons_zero, List.set_cons_succ]
              refine wpAnyH_take (i := 14) (v := ?_) (by simp only [List.getElem?_toArray, List.getElem?_cons_succ, List.getElem?_cons_zero]; rfl) (by kernel_rfl) (by kernel_rfl) (by kernel_rfl) (fun _ _ _ h => by exact h) (Or.inl ⟨by rfl, ?_⟩) (by assumption) ?_
              rotate_left
              · (intro w hSw; (try dsimp only at hSw); go_simp; try with_reducible rfl)
              try simp only [Act.put, List.setIfInBounds_toArray, List.set_cons_zero, List.set_cons_succ]
              refine wpAnyH_ready (rs := [10]) (by kernel_rfl) (by simp) ?_
              refine AllReadyH.cons (by simp only [List.getElem?_toArray, List.getElem?_cons_succ, List.getElem?_cons_zero]; rfl) (fun K hK => ?_) AllReadyH.nil
              go_simp
              (go_at_call 48; refine (CH.out _).mono ?_; rintro e w1 ⟨rfl, hb1⟩; have HS1 := Lib.hid (hHeld.on hb1 hlt8))
              try go_wp2_with fail
              refine hK.out _ _ ?_ (fun hHeld => ?_)
              · exact HS1.out
              clear hK K
              try simp only [Act.put, List.setIfInBounds_toArray, List.set_cons_zero, List.set_cons_succ]
              refine wpAnyH_ready (rs := [11]) (by kernel_rfl) (by simp) ?_
              refine AllReadyH.cons (by simp only [List.getElem?_toArray, List.getElem?_cons_succ, List.getElem?_cons_zero]; rfl) (fun K hK => ?_) AllReadyH.nil
              go_simp
              have HS2 := Lib.hid (HS1.out.on ((Below.refl _ _).alloc (Nat.le_refl _) (row2 P v)) hlt8); have HC2 := Lib.hid (row2_cnts P v w1)
              try go_wp2_with fail
              refine hK.out _ _ ?_ (fun hHeld => ?_)
              · exact HS2.out
              clear hK K
              try simp only [Act.put, List.setIfInBounds_toArray, List.set_cons_zero, List.set_cons_succ]
              refine wpAnyH_ready (rs := [12]) (by kernel_rfl) (by simp) ?_
              refine AllReadyH.cons (by simp only [List.getElem?_toArray, List.getElem?_cons_succ, List.getElem?_cons_zero]; rfl) (fun K hK => ?_) AllReadyH.nil
              go_simp
              (go_at_call 45; refine (CA.out _ _ HC2.out).mono ?_; rintro e w2 ⟨rfl, hb2⟩; have HS3 := Lib.hid (hHeld.on hb2 hlt8))
              try go_wp2_with fail
              refine hK.out _ _ ?_ (fun hHeld => ?_)
              · exact HS3.out
              clear hK K
              try simp only [Act.put, List.setIfInBounds_toArray, List.set_cons_zero, List.set_cons_succ]
              refine wpAnyH_ready (rs := [13]) (by kernel_rfl) (by simp) ?_
              refine AllReadyH.cons (by simp only [List.getElem?_toArray, List.getElem?_cons_succ, List.getElem?_cons_zero]; rfl) (fun K hK => ?_) AllReadyH.nil
              go_simp
              (refine (CZ.out _).mono ?_; rintro e w3 ⟨rfl, hb3⟩; have HS4 := Lib.hid (hHeld.on hb3 hlt8))
              try go_wp2_with fail
              refine hK.out _ _ ?_ (fun hHeld => ?_)
              · exact HS4.out
              clear hK K
              try simp only [Act.put, List.setIfInBounds_toArray, List.set_cons_zero, List.set_cons_succ]
              refine wpAnyH_take (i := 15) (v := ?_) (by simp only [List.getElem?_toArray, List.getElem?_cons_succ, List.getElem?_cons_zero]; rfl) (by kernel_rfl) (by kernel_rfl) (by kernel_rfl) (fun _ _ _ h => by exact h) (Or.inl ⟨by rfl, ?_⟩) (by assumption) ?_
              rotate_left
              · (intro w hSw; (try dsimp only at hSw); go_simp; try with_reducible rfl)
              try simp only [Act.put, List.setIfInBounds_toArray, List.set_cons_zero, List.set_cons_succ]
              refine wpAnyH_take (i := 16) (v := ?_) (by simp only [List.getElem?_toArray, List.getElem?_cons_succ, List.getElem?_cons_zero]; rfl) (by kernel_rfl) (by kernel_rfl) (by kernel_rfl) (fun _ _ _ h => by exact h) (Or.inl ⟨by rfl, ?_⟩) (by assumption) ?_
              rotate_left
              · (intro w hSw; (try dsimp only at hSw); go_simp; try with_reducible rfl)
              try simp only [Act.put, List.setIfInBounds_toArray, List.set_cons_zero, List.set_cons_succ]
              refine wpAnyH_done (by kernel_rfl) ?_ _
              have HSL := Lib.hid (show Saw w g P w3.drew from ⟨(hbx.trans (HS4.out.1.mono hbx.size)).drew, HS4.out.2.1, HS4.out.2.2.1, HS4.out.2.2.2⟩); have H60 := Lib.hid (show Blk3 w3.drew w.heap.size (.int .i64 0) (.int .i64 0) (.int .i64 0) 48 from hx6.below HS4.out.1.drew hx6.lt)
              clear CH CA CZ HSAW hHeld
              go_wp2_with fail
              refine wp_region_held_drew (S := Saw w g P) (by kernel_rfl) HSL.out (fun hHeld => ?_)
              refine wpAnyH_take (i := 0) (v := ?_) (by simp only [List.getElem?_toArray, List.getElem?_cons_succ, List.getElem?_cons_zero]; rfl) (by kernel_rfl) (by kernel_rfl) (by kernel_rfl) (fun _ _ _ h => by exact h) (Or.inl ⟨by rfl, ?_⟩) (by assumption) ?_
              rotate_left
              · (intro w hSw; obtain ⟨x1, x2, x3, x4⟩ := hSw; go_simp; try with_reducible rfl)
              try simp only [Act.put, List.setIfInBounds_toArray, List.set_cons_zero, List.set_cons_succ]
              refine wpAnyH_take (i := 1) (v := ?_) (by simp only [List.getElem?_toArray, List.getElem?_cons_succ, List.getElem?_cons_zero]; rfl) (by kernel_rfl) (by kernel_rfl) (by kernel_rfl) (fun _ _ _ h => by exact h) (Or.inl ⟨by rfl, ?_⟩) (by assumption) ?_
              rotate_left
              · (intro w hSw; (try dsimp only at hSw); go_simp; try with_reducible rfl)
              try simp only [Act.put, List.setIfInBounds_toArray, List.set_cons_zero, List.set_cons_succ]
              refine wpAnyH_take (i := 2) (v := ?_) (by simp only [List.getElem?_toArray, List.getElem?_cons_succ, List.getElem?_cons_zero]; rfl) (by kernel_rfl) (by kernel_rfl) (by kernel_rfl) (fun _ _ _ h => by exact h) (Or.inl ⟨by rfl, ?_⟩) (by assumption) ?_
              rotate_left
              · (intro w hSw; (try dsimp only at hSw); go_simp; try with_reducible rfl)
              try simp only [Act.put, List.setIfInBounds_toArray, List.set_cons_zero, List.set_cons_succ]
              refine wpAnyH_ready (rs := [3]) (by kernel_rfl) (by simp) ?_
              refine AllReadyH.cons (by simp only [List.getElem?_toArray, List.getElem?_cons_succ, List.getElem?_cons_zero]; rfl) (fun K hK => ?_) AllReadyH.nil
              go_simp
              (go_at_call 48; refine (CH0.out _).mono ?_; rintro e w4 ⟨rfl, hb4⟩; have HS5 := Lib.hid (hHeld.on2 hb4); have H61 := Lib.hid (H60.out.below hb4 H60.out.lt))
              try go_wp2_with fail
              refine hK.out _ _ ?_ (fun hHeld => ?_)
              · exact HS5.out
              clear hK K
              try simp only [Act.put, List.setIfInBounds_toArray, List.set_cons_zero, List.set_cons_succ]
              refine wpAnyH_ready (rs := [4]) (by kernel_rfl) (by simp) ?_
              refine AllReadyH.cons (by simp only [List.getElem?_toArray, List.getElem?_cons_succ, List.getElem?_cons_zero]; rfl) (fun K hK => ?_) AllReadyH.nil
              go_simp
              have HS6 := Lib.hid (HS5.out.on2 ((Below.refl _ _).alloc (Nat.le_refl _) (row2 P v0))); have HC2 := Lib.hid (row2_cnts P v0 w4); have H62 := Lib.hid (H61.out.alloc (row2 P v0))
              try go_wp2_with fail
              refine hK.out _ _ ?_ (fun hHeld => ?_)
              · exact HS6.out
              clear hK K
              try simp only [Act.put, List.setIfInBounds_toArray, List.set_cons_zero, List.set_cons_succ]
              refine wpAnyH_ready (rs := [5]) (by kernel_rfl) (by simp) ?_
              refine AllReadyH.cons (by simp only [List.getElem?_toArray, List.getElem?_cons_succ, List.getElem?_cons_zero]; rfl) (fun K hK => ?_) AllReadyH.nil
              go_simp
              (go_at_call 45; refine (CA0.out _ _ HC2.out).mono ?_; rintro e w5 ⟨rfl, hb5⟩; have HS7 := Lib.hid (hHeld.on2 hb5); have H63 := Lib.hid (H62.out.below hb5 H62.out.lt))
              try go_wp2_with fail
              refine hK.out _ _ ?_ (fun hHeld => ?_)
              · exact HS7.out
              clear hK K
              try simp only [Act.put, List.setIfInBounds_toArray, List.set_cons_zero, List.set_cons_succ]
              have f0 := H63.out.free 0
              have f1 := H63.out.free 1
              have f2 := H63.out.free 2
              have e0 := H63.out.c0
              have e1 := H63.out.c1
              have e2 := H63.out.c2
              have hl6 := H63.out.lt
              refine wpAnyH_ready (rs := [6]) (by kernel_rfl) (by simp) ?_
              refine AllReadyH.cons (by simp only [List.getElem?_toArray, List.getElem?_cons_succ, List.getElem?_cons_zero]; rfl) (fun K hK => ?_) AllReadyH.nil
              go_simp
              have HS8 := Lib.hid (hHeld.put2 (Nat.le_refl _) hne (.int .i64 z0.size) (.int .i64 (runes z0.data.toList)) (.int .i64 (lines z0.data.toList)))
              try go_wp2_with fail
              refine hK.out _ _ ?_ (fun hHeld => ?_)
              · exact HS8.out
              clear hK K
              try simp only [Act.put, List.setIfInBounds_toArray, List.set_cons_zero, List.set_cons_succ]
              refine wpAnyH_done (by kernel_rfl) ?_ _
              go_wp2
              (try rw [Exit.noGoto_ret])
              refine bodyPost_ret (v := cntV z0.size (runes z0.data.toList) (lines z0.data.toList)) (by simp [results, Try.results27, go_sem, f0, f1, f2, e0, e1, e2]) rfl ?_
              exact HRD.out _ hyn HS8.out.1
              -- END GEN LOOKNO
    | succ h =>
      obtain ⟨Ks, gr0, c0, hM, rfl, -⟩ := hD.knot.node
      have ck : Calls Try.prog 44 #[.pointer (some ⟨kb, 0, none⟩)] wr (RetRow wr (ptrs Ks)) := by
        have hN := hM.on (fun i hi => hi) hD.bel
        exact kids_row hN.blk (ptrs_len Ks) (by have := hN.eight; omega) hN.row (one_ptrs Ks)
      have CK := Lib.hid ck; have HD := Lib.hid hD; have HM := Lib.hid hM
      clear ck hD hM
      go_wp2_with fail
      refine CK.out.mono ?_; rintro e w5 ⟨gr, cr, rfl, -, hgr, hrow, hb5⟩
      have hRI : RowI K n w g gr Ks (upto P Ks 0) w5 := by
        have hD := HD.out
        rw [upto_zero]
        exact ⟨hD.lo, hD.bel.trans (hb5.mono hD.bel.size), hD.c6.below hb5 hD.c6.lt, hD.c8.below hb5 hD.c8.lt, hrow⟩
      have hgg : g < gr := by have := HD.out.c8.lt; omega
      have HR5 := Lib.hid hRI; have HD5 := Lib.hid (show ∀ i (hi : i < Ks.length), KnotH w h Ks[i].b Ks[i].L from fun i hi => HM.out.kids _ (List.getElem_mem hi))
      rw [ptrs_len]
      obtain ⟨N, hN⟩ : ∃ N, Ks.length = N := ⟨_, rfl⟩
      rw [hN]
      have HN := Lib.hid hN
      have hN8 : N ≤ 8 := by rw [← hN]; exact HM.out.eight
      clear hrow hb5 hRI hgr hN
      go_wp2
      go_loopg [7, 28] N (fun gi v7 v wx => ∃ i : Nat, i + gi = N ∧ v7 = .pointer (some ⟨kb, 0, none⟩) ∧ v = .int .i64 i ∧ RowI K n w g gr Ks (upto P Ks i) wx)
      case atStart => exact ⟨0, by omega, rfl, rfl, HR5.out⟩
      case round =>
        obtain ⟨i, hi, rfl, rfl, hR⟩ := hrel
        cases gk with
        | zero =>
          exfalso
          have e : i = Ks.length := by rw [HN.out]; omega
          have h1 := hR.lo
          rw [e, upto_last] at h1
          have := HD.out.hi
          omega
        | succ gi =>
          have hik : i < Ks.length := by rw [HN.out]; omega
          have hk := HD5.out i hik
          have q0 := hR.row.2 i (by rw [ptrs_len]; exact hik)
          rw [show (ptrs Ks)[i]'(by rw [ptrs_len]; exact hik) = pv Ks[i].b from List.getElem_map _, Nat.zero_add] at q0
          have hup := upto_succ P Ks i hik
          obtain ⟨kid, hkid⟩ : ∃ k, Ks[i] = k := ⟨_, rfl⟩
          rw [hkid] at hk q0 hup
          have cK : ∀ W, Below w.heap.size w W → Calls Try.prog 43 #[pv kid.b] W fun e w' => e = .returned (cntV (wholeL kid.L).size (runes (wholeL kid.L).data.toList) (lines (wholeL kid.L).data.toList)) ∧ Below W.heap.size W w' := fun W hW => by
            obtain ⟨kv, -, hB⟩ := (KnotH.on hk hW).cells
            exact count_blk hB
          obtain ⟨a, ha⟩ : ∃ a, upto P Ks i = a := ⟨_, rfl⟩
          obtain ⟨q, hq⟩ : ∃ q, wholeL kid.L = q := ⟨_, rfl⟩
          rw [ha] at hR hup
          rw [hq] at cK hup
          have hz : (a ++ q).size ≤ 1000000 := by
            rw [← hup]
            have h1 := upto_size P Ks (i + 1)
            obtain ⟨Q, hQ⟩ := HD.out.at'
            have h2 : s.size = (P ++ (wholeL (flat Ks) ++ Q)).size := by rw [← hQ]
            simp only [ByteArray.size_append] at h1 h2
            omega
          have cA := fun gq W hW => tadd_at (a := a) (b := q) hz gq W hW
          have HC := Lib.hid (show ∀ W, row2 a q = .cells #[.int .i64 a.size, .int .i64 (runes a.data.toList), .int .i64 (lines a.data.toList), .int .i64 q.size, .int .i64 (runes q.data.toList), .int .i64 (lines q.data.toList)] 48 ∧ Cnts (World.alloc W (row2 a q)) (World.alloc W (row2 a q)).heap.size (some ⟨W.heap.size, 0, none⟩) [cntK a, cntK q] from fun W => ⟨rfl, row2_cnts a q W⟩)
          have hdn : ∀ W, n < (K (a ++ q).data.toList : Int) → Below w.heap.size w W → Blk3 W w.heap.size (.int .i64 0) (.int .i64 0) (.int .i64 0) 48 → Blk3 W g (.int .i64 a.size) (.int .i64 (runes a.data.toList)) (.int .i64 (lines a.data.toList)) 48 → DownI K s n w g h kid.b kid.L a W := fun W h1 h2 h3 h4 => by
            have hD := HD.out
            refine ⟨hk, by have := hD.hh; omega, ?_, hR.lo, by rw [hq]; exact h1, h2, h3, h4, hD.far⟩
            obtain ⟨Q, hQ⟩ := hD.at'
            refine ⟨wholeL (flat (Ks.drop (i + 1))) ++ Q, ?_⟩
            rw [hQ, flat_pick hik, whole_app, whole_app, hkid, hq, ← ha]
            unfold upto
            simp only [app_assoc']
          have hnx : ∀ W, ((K (a ++ q).data.toList : Int) ≤ n) → Below w.heap.size w W → Blk3 W w.heap.size (.int .i64 0) (.int .i64 0) (.int .i64 0) 48 → Blk3 W g (.int .i64 (a ++ q).size) (.int .i64 (runes (a ++ q).data.toList)) (.int .i64 (lines (a ++ q).data.toList)) 48 → PRow W gr 0 (ptrs Ks) → RowI K n w g gr Ks (upto P Ks (i + 1)) W := fun W h1 h2 h3 h4 h5 => by
            rw [hup]
            exact ⟨h1, h2, h3, h4, h5⟩
          have ch1 : ∀ W, Below w.heap.size w W → Calls Try.prog 46 #[pv kid.b] W fun e w' => e = .returned (.int .i64 h) ∧ Below W.heap.size W w' := fun W hW => (KnotW.hgt (KnotH.on hk hW) (by have := HD.out.hh; omega)).call
          have ch2 : ∀ W, Below w.heap.size w W → Calls Try.prog 46 #[.pointer (some ⟨kb, 0, none⟩)] W fun e w' => e = .returned (.int .i64 ((h + 1 : Nat) : Int)) ∧ Below W.heap.size W w' := fun W hW => (KnotW.hgt (KnotH.on HD.out.knot hW) (by have := HD.out.hh; omega)).call
          obtain ⟨z, hzz⟩ : ∃ z, a ++ q = z := ⟨_, rfl⟩
          rw [hzz] at cA hdn hnx
          have cz := key.call z
          obtain ⟨y, hy⟩ : ∃ y, K z.data.toList = y := ⟨_, rfl⟩
          rw [hy] at cz hdn hnx
          have CZ := Lib.hid cz; have HDN := Lib.hid hdn; have HNX := Lib.hid hnx; have CH1 := Lib.hid ch1; have CH2 := Lib.hid ch2
          clear cz hdn hnx ch1 ch2 hzz hy
          have d0 := hR.c8.c0
          have d1 := hR.c8.c1
          have d2 := hR.c8.c2
          have hlt := hR.c8.lt
          have hgrl := hR.row.1
          have b1 : (i : Int) < (N : Int) := by omega
          have b2 : (0 : Int) ≤ (i : Int) := by omega
          have CK2 := Lib.hid cK; have CA := Lib.hid cA; have HR := Lib.hid hR; have HBW := Lib.hid hR.bel; have HSAW := Lib.hid (show Saw wr g a wr.drew from ⟨(Below.refl _ _).drew, d0, d1, d2⟩); have HUP := Lib.hid hup
          clear cK cA hR hk hq hz ha hkid
          go_wp2_with fail
          go_cut [11, 28] from 28 to 51 (fun v11 v28 wc => v28 = .int .i64 i ∧ ∃ gn, v11 = .pointer (some ⟨gn, 0, none⟩) ∧ Blk3 wc gn (.int .i64 z.size) (.int .i64 (runes z.data.toList)) (.int .i64 (lines z.data.toList)) 48 ∧ Below wr.heap.size wr wc)
          case first =>
            -- GEN NEXT
            clear CZ HDN HNX CH1 CH2 key hn hb0 ce hsm hk0 hK C1 C2 C3 HB1 HN1 HB2 HN2 HB3 HN3 HD HM HR5 HD5 HN HR HUP hup q0 hgrl d0 d1 d2
            refine wp_region_held_drew (S := Saw wr g a) (by kernel_rfl) HSAW.out (fun hHeld => ?_)
            refine wpAnyH_take (i := 0) (v := ?_) (by simp only [List.getElem?_toArray, List.getElem?_cons_succ, List.getElem?_cons_zero]; rfl) (by kernel_rfl) (by kernel_rfl) (by kernel_rfl) (fun _ _ _ h => by exact h) (Or.inl ⟨by rfl, ?_⟩) (by assumption) ?_
            rotate_left
            · (intro w hSw; obtain ⟨x1, x2, x3, x4⟩ := hSw; go_simp; try with_reducible rfl)
            try simp only [Act.put, List.setIfInBounds_toArray, List.set_cons_zero, List.set_cons_succ]
            refine wpAnyH_take (i := 1) (v := ?_) (by simp only [List.getElem?_toArray, List.getElem?_cons_succ, List.getElem?_cons_zero]; rfl) (by kernel_rfl) (by kernel_rfl) (by kernel_rfl) (fun _ _ _ h => by exact h) (Or.inl ⟨by rfl, ?_⟩) (by assumption) ?_
            rotate_left
            · (intro w hSw; (try dsimp only at hSw); go_simp; try with_reducible rfl)
            try simp only [Act.put, List.setIfInBounds_toArray, List.set_cons_zero, List.set_cons_succ]
            refine wpAnyH_ready (rs := [2, 5]) (by kernel_rfl) (by simp) ?_
            refine AllReadyH.cons (by simp only [List.getElem?_toArray, List.getElem?_cons_succ, List.getElem?_cons_zero]; rfl) (fun K hK => ?_) (AllReadyH.cons (by simp only [List.getElem?_toArray, List.getElem?_cons_succ, List.getElem?_cons_zero]; rfl) (fun K hK => ?_) AllReadyH.nil)
            · go_simp
              (go_at_call 43; refine (CK2.out _ (HBW.out.trans (hHeld.1.mono HBW.out.size))).mono ?_; rintro e w1 ⟨rfl, hb1⟩; have HS1 := Lib.hid (hHeld.on hb1 hlt))
              try go_wp2_with fail
              refine hK.out _ _ ?_ (fun hHeld => ?_)
              · exact HS1.out
              clear hK K
              try simp only [Act.put, List.setIfInBounds_toArray, List.set_cons_zero, List.set_cons_succ]
              refine wpAnyH_ready (rs := [3, 5]) (by kernel_rfl) (by simp) ?_
              refine AllReadyH.cons (by simp only [List.getElem?_toArray, List.getElem?_cons_succ, List.getElem?_cons_zero]; rfl) (fun K hK => ?_) (AllReadyH.cons (by simp only [List.getElem?_toArray, List.getElem?_cons_succ, List.getElem?_cons_zero]; rfl) (fun K hK => ?_) AllReadyH.nil)
              · go_simp
                have HS2 := Lib.hid (HS1.out.on ((Below.refl _ _).alloc (Nat.le_refl _) (row2 a q)) hlt); have HC2 := Lib.hid (row2_cnts a q w1)
                try go_wp2_with fail
                refine hK.out _ _ ?_ (fun hHeld => ?_)
                · exact HS2.out
                clear hK K
                try simp only [Act.put, List.setIfInBounds_toArray, List.set_cons_zero, List.set_cons_succ]
                refine wpAnyH_ready (rs := [4, 5]) (by kernel_rfl) (by simp) ?_
                refine AllReadyH.cons (by simp only [List.getElem?_toArray, List.getElem?_cons_succ, List.getElem?_cons_zero]; rfl) (fun K hK => ?_) (AllReadyH.cons (by simp only [List.getElem?_toArray, List.getElem?_cons_succ, List.getElem?_cons_zero]; rfl) (fun K hK => ?_) AllReadyH.nil)
                · go_simp
                  (go_at_call 45; refine (CA.out _ _ HC2.out).mono ?_; rintro e w2 ⟨rfl, hb2⟩; have HS3 := Lib.hid (hHeld.on hb2 hlt))
                  try go_wp2_with fail
                  refine hK.out _ _ ?_ (fun hHeld => ?_)
                  · exact HS3.out
                  clear hK K
                  try simp only [Act.put, List.setIfInBounds_toArray, List.set_cons_zero, List.set_cons_succ]
                  refine wpAnyH_ready (rs := [5]) (by kernel_rfl) (by simp) ?_
                  refine AllReadyH.cons (by simp only [List.getElem?_toArray, List.getElem?_cons_succ, List.getElem?_cons_zero]; rfl) (fun K hK => ?_) AllReadyH.nil
                  go_simp
                  have HS4 := Lib.hid (hHeld.on ((Below.refl _ _).alloc (Nat.le_refl _) zc) hlt); have HZ3 := Lib.hid (Blk3.new w2 (.int .i64 0) (.int .i64 0) (.int .i64 0) 48); have HG := Lib.hid (show wr.heap.size ≤ w2.heap.size from hHeld.1.size)
                  try go_wp2_with fail
                  refine hK.out _ _ ?_ (fun hHeld => ?_)
                  · exact HS4.out
                  clear hK K
                  try simp only [Act.put, List.setIfInBounds_toArray, List.set_cons_zero, List.set_cons_succ]
                  have f0 := HZ3.out.free 0
                  have f1 := HZ3.out.free 1
                  have f2 := HZ3.out.free 2
                  have e0 := HZ3.out.c0
                  have e1 := HZ3.out.c1
                  have e2 := HZ3.out.c2
                  have hl2 := HZ3.out.lt
                  refine wpAnyH_ready (rs := [6]) (by kernel_rfl) (by simp) ?_
                  refine AllReadyH.cons (by simp only [List.getElem?_toArray, List.getElem?_cons_succ, List.getElem?_cons_zero]; rfl) (fun K hK => ?_) AllReadyH.nil
                  go_simp
                  have HS9 := Lib.hid (HS3.out.on ((Below.refl _ _).alloc (Nat.le_refl _) (.cells #[.int .i64 z.size, .int .i64 (runes z.data.toList), .int .i64 (lines z.data.toList)] 48)) hlt)
                  try go_wp2_with fail
                  refine hK.out _ _ ?_ (fun hHeld => ?_)
                  · exact HS9.out
                  clear hK K
                  try simp only [Act.put, List.setIfInBounds_toArray, List.set_cons_zero, List.set_cons_succ]
                  refine wpAnyH_done (by kernel_rfl) ?_ _
                  go_wp2_with fail
                  go_meet
                  exact ⟨rfl, _, rfl, Blk3.new _ _ _ _ _, HS9.out.1⟩
                · go_simp
                  have HS4 := Lib.hid (hHeld.on ((Below.refl _ _).alloc (Nat.le_refl _) zc) hlt); have HZ2 := Lib.hid (blk3_past w1 (row2 a q) (.int .i64 0) (.int .i64 0) (.int .i64 0) 48); have HG := Lib.hid (show wr.heap.size ≤ w1.heap.size + 1 from by have := HS1.out.1.size; omega); have HC3 := Lib.hid (row2_then a q w1 zc)
                  try go_wp2_with fail
                  refine hK.out _ _ ?_ (fun hHeld => ?_)
                  · exact HS4.out
                  clear hK K
                  try simp only [Act.put, List.setIfInBounds_toArray, List.set_cons_zero, List.set_cons_succ]
                  refine wpAnyH_ready (rs := [4]) (by kernel_rfl) (by simp) ?_
                  refine AllReadyH.cons (by simp only [List.getElem?_toArray, List.getElem?_cons_succ, List.getElem?_cons_zero]; rfl) (fun K hK => ?_) AllReadyH.nil
                  go_simp
                  (go_at_call 45; refine (CA.out _ _ HC3.out).mono ?_; rintro e w2 ⟨rfl, hb2⟩; have HS3 := Lib.hid (hHeld.on hb2 hlt); have HZ3 := Lib.hid (HZ2.out.below hb2 HZ2.out.lt))
                  try go_wp2_with fail
                  refine hK.out _ _ ?_ (fun hHeld => ?_)
                  · exact HS3.out
                  clear hK K
                  try simp only [Act.put, List.setIfInBounds_toArray, List.set_cons_zero, List.set_cons_succ]
                  have f0 := HZ3.out.free 0
                  have f1 := HZ3.out.free 1
                  have f2 := HZ3.out.free 2
                  have e0 := HZ3.out.c0
                  have e1 := HZ3.out.c1
                  have e2 := HZ3.out.c2
                  have hl2 := HZ3.out.lt
                  refine wpAnyH_ready (rs := [6]) (by kernel_rfl) (by simp) ?_
                  refine AllReadyH.cons (by simp only [List.getElem?_toArray, List.getElem?_cons_succ, List.getElem?_cons_zero]; rfl) (fun K hK => ?_) AllReadyH.nil
                  go_simp
                  have HS9 := Lib.hid (hHeld.put HG.out hlt (.int .i64 z.size) (.int .i64 (runes z.data.toList)) (.int .i64 (lines z.data.toList)))
                  try go_wp2_with fail
                  refine hK.out _ _ ?_ (fun hHeld => ?_)
                  · exact HS9.out
                  clear hK K
                  try simp only [Act.put, List.setIfInBounds_toArray, List.set_cons_zero, List.set_cons_succ]
                  refine wpAnyH_done (by kernel_rfl) ?_ _
                  go_wp2_with fail
                  go_meet
                  exact ⟨rfl, _, rfl, ((HZ3.out.s0 _).s1 _).s2 _, HS9.out.1⟩
              · go_simp
                have HS4 := Lib.hid (hHeld.on ((Below.refl _ _).alloc (Nat.le_refl _) zc) hlt); have HZ1 := Lib.hid (Blk3.new w1 (.int .i64 0) (.int .i64 0) (.int .i64 0) 48); have HG := Lib.hid (show wr.heap.size ≤ w1.heap.size from hHeld.1.size)
                try go_wp2_with fail
                refine hK.out _ _ ?_ (fun hHeld => ?_)
                · exact HS4.out
                clear hK K
                try simp only [Act.put, List.setIfInBounds_toArray, List.set_cons_zero, List.set_cons_succ]
                refine wpAnyH_ready (rs := [3]) (by kernel_rfl) (by simp) ?_
                refine AllReadyH.cons (by simp only [List.getElem?_toArray, List.getElem?_cons_succ, List.getElem?_cons_zero]; rfl) (fun K hK => ?_) AllReadyH.nil
                go_simp
                have HS2 := Lib.hid (HS4.out.on ((Below.refl _ _).alloc (Nat.le_refl _) (row2 a q)) hlt); have HC2 := Lib.hid (row2_past a q w1 zc); have HZ2 := Lib.hid (HZ1.out.alloc (row2 a q))
                try go_wp2_with fail
                refine hK.out _ _ ?_ (fun hHeld => ?_)
                · exact HS2.out
                clear hK K
                try simp only [Act.put, List.setIfInBounds_toArray, List.set_cons_zero, List.set_cons_succ]
                refine wpAnyH_ready (rs := [4]) (by kernel_rfl) (by simp) ?_
                refine AllReadyH.cons (by simp only [List.getElem?_toArray, List.getElem?_cons_succ, List.getElem?_cons_zero]; rfl) (fun K hK => ?_) AllReadyH.nil
                go_simp
                (go_at_call 45; refine (CA.out _ _ HC2.out).mono ?_; rintro e w2 ⟨rfl, hb2⟩; have HS3 := Lib.hid (hHeld.on hb2 hlt); have HZ3 := Lib.hid (HZ2.out.below hb2 HZ2.out.lt))
                try go_wp2_with fail
                refine hK.out _ _ ?_ (fun hHeld => ?_)
                · exact HS3.out
                clear hK K
                try simp only [Act.put, List.setIfInBounds_toArray, List.set_cons_zero, List.set_cons_succ]
                have f0 := HZ3.out.free 0
                have f1 := HZ3.out.free 1
                have f2 := HZ3.out.free 2
                have e0 := HZ3.out.c0
                have e1 := HZ3.out.c1
                have e2 := HZ3.out.c2
                have hl2 := HZ3.out.lt
                refine wpAnyH_ready (rs := [6]) (by kernel_rfl) (by simp) ?_
                refine AllReadyH.cons (by simp only [List.getElem?_toArray, List.getElem?_cons_succ, List.getElem?_cons_zero]; rfl) (fun K hK => ?_) AllReadyH.nil
                go_simp
                have HS9 := Lib.hid (hHeld.put HG.out hlt (.int .i64 z.size) (.int .i64 (runes z.data.toList)) (.int .i64 (lines z.data.toList)))
                try go_wp2_with fail
                refine hK.out _ _ ?_ (fun hHeld => ?_)
                · exact HS9.out
                clear hK K
                try simp only [Act.put, List.setIfInBounds_toArray, List.set_cons_zero, List.set_cons_succ]
                refine wpAnyH_done (by kernel_rfl) ?_ _
                go_wp2_with fail
                go_meet
                exact ⟨rfl, _, rfl, ((HZ3.out.s0 _).s1 _).s2 _, HS9.out.1⟩
            · go_simp
              have HS4 := Lib.hid (hHeld.on ((Below.refl _ _).alloc (Nat.le_refl _) zc) hlt); have HZ0 := Lib.hid (blk3_drew wr (.int .i64 0) (.int .i64 0) (.int .i64 0) 48); have HG := Lib.hid (show wr.heap.size ≤ wr.heap.size from Nat.le_refl _)
              try go_wp2_with fail
              refine hK.out _ _ ?_ (fun hHeld => ?_)
              · exact HS4.out
              clear hK K
              try simp only [Act.put, List.setIfInBounds_toArray, List.set_cons_zero, List.set_cons_succ]
              refine wpAnyH_ready (rs := [2]) (by kernel_rfl) (by simp) ?_
              refine AllReadyH.cons (by simp only [List.getElem?_toArray, List.getElem?_cons_succ, List.getElem?_cons_zero]; rfl) (fun K hK => ?_) AllReadyH.nil
              go_simp
              (go_at_call 43; refine (CK2.out _ (HBW.out.trans (hHeld.1.mono HBW.out.size))).mono ?_; rintro e w1 ⟨rfl, hb1⟩; have HS1 := Lib.hid (hHeld.on hb1 hlt); have HZ1 := Lib.hid (HZ0.out.below hb1 HZ0.out.lt))
              try go_wp2_with fail
              refine hK.out _ _ ?_ (fun hHeld => ?_)
              · exact HS1.out
              clear hK K
              try simp only [Act.put, List.setIfInBounds_toArray, List.set_cons_zero, List.set_cons_succ]
              refine wpAnyH_ready (rs := [3]) (by kernel_rfl) (by simp) ?_
              refine AllReadyH.cons (by simp only [List.getElem?_toArray, List.getElem?_cons_succ, List.getElem?_cons_zero]; rfl) (fun K hK => ?_) AllReadyH.nil
              go_simp
              have HS2 := Lib.hid (HS1.out.on ((Below.refl _ _).alloc (Nat.le_refl _) (row2 a q)) hlt); have HC2 := Lib.hid (row2_cnts a q w1); have HZ2 := Lib.hid (HZ1.out.alloc (row2 a q))
              try go_wp2_with fail
              refine hK.out _ _ ?_ (fun hHeld => ?_)
              · exact HS2.out
              clear hK K
              try simp only [Act.put, List.setIfInBounds_toArray, List.set_cons_zero, List.set_cons_succ]
              refine wpAnyH_ready (rs := [4]) (by kernel_rfl) (by simp) ?_
              refine AllReadyH.cons (by simp only [List.getElem?_toArray, List.getElem?_cons_succ, List.getElem?_cons_zero]; rfl) (fun K hK => ?_) AllReadyH.nil
              go_simp
              (go_at_call 45; refine (CA.out _ _ HC2.out).mono ?_; rintro e w2 ⟨rfl, hb2⟩; have HS3 := Lib.hid (hHeld.on hb2 hlt); have HZ3 := Lib.hid (HZ2.out.below hb2 HZ2.out.lt))
              try go_wp2_with fail
              refine hK.out _ _ ?_ (fun hHeld => ?_)
              · exact HS3.out
              clear hK K
              try simp only [Act.put, List.setIfInBounds_toArray, List.set_cons_zero, List.set_cons_succ]
              have f0 := HZ3.out.free 0
              have f1 := HZ3.out.free 1
              have f2 := HZ3.out.free 2
              have e0 := HZ3.out.c0
              have e1 := HZ3.out.c1
              have e2 := HZ3.out.c2
              have hl2 := HZ3.out.lt
              refine wpAnyH_ready (rs := [6]) (by kernel_rfl) (by simp) ?_
              refine AllReadyH.cons (by simp only [List.getElem?_toArray, List.getElem?_cons_succ, List.getElem?_cons_zero]; rfl) (fun K hK => ?_) AllReadyH.nil
              go_simp
              have HS9 := Lib.hid (hHeld.put HG.out hlt (.int .i64 z.size) (.int .i64 (runes z.data.toList)) (.int .i64 (lines z.data.toList)))
              try go_wp2_with fail
              refine hK.out _ _ ?_ (fun hHeld => ?_)
              · exact HS9.out
              clear hK K
              try simp only [Act.put, List.setIfInBounds_toArray, List.set_cons_zero, List.set_cons_succ]
              refine wpAnyH_done (by kernel_rfl) ?_ _
              go_wp2_with fail
              go_meet
              exact ⟨rfl, _, rfl, ((HZ3.out.s0 _).s1 _).s2 _, HS9.out.1⟩
            -- END GEN NEXT
          case rest =>
            obtain ⟨rfl, gn, rfl, hn8, hbn⟩ := hcut
            have HBC := Lib.hid (HBW.out.trans (hbn.mono HBW.out.size)); have HN8 := Lib.hid hn8
            have HRC := Lib.hid (show Blk3 wc w.heap.size (.int .i64 0) (.int .i64 0) (.int .i64 0) 48 ∧ Blk3 wc g (.int .i64 a.size) (.int .i64 (runes a.data.toList)) (.int .i64 (lines a.data.toList)) 48 ∧ PRow wc gr 0 (ptrs Ks) from ⟨HR.out.c6.below hbn HR.out.c6.lt, HR.out.c8.below hbn HR.out.c8.lt, HR.out.row.on hbn⟩)
            have e0 := hn8.c0
            have e1 := hn8.c1
            have e2 := hn8.c2
            have hl8 := hn8.lt
            clear hn8 hbn d0 d1 d2 HSAW HC CA CK2 q0
            by_cases hgt : n < (y : Int)
            · have b3 : (h : Int) < ((h + 1 : Nat) : Int) := by omega
              go_wp2_with fail
              refine (CZ.out _).mono ?_; rintro e w6 ⟨rfl, hb6⟩
              have HB6 := Lib.hid (HBC.out.trans (hb6.mono HBC.out.size)); have HS6 := Lib.hid hb6
              clear hb6 e0 e1 e2 hl8
              go_wp2_with fail
              refine (CH1.out _ HB6.out).mono ?_; rintro e w7 ⟨rfl, hb7⟩
              have HB7 := Lib.hid (HB6.out.trans (hb7.mono HB6.out.size)); have HS7 := Lib.hid (HS6.out.trans (hb7.mono HS6.out.size))
              clear hb7
              go_wp2_with fail
              refine (CH2.out _ HB7.out).mono ?_; rintro e w8 ⟨rfl, hb8⟩
              have HB8 := Lib.hid (HB7.out.trans (hb8.mono HB7.out.size)); have HS8 := Lib.hid (HS7.out.trans (hb8.mono HS7.out.size))
              clear hb8
              go_wp2
              go_roundg h
              case measure => omega
              case rel => exact ⟨h, kid.b, kid.L, a, rfl, rfl, HDN.out _ hgt HB8.out (HRC.out.1.below HS8.out HRC.out.1.lt) (HRC.out.2.1.below HS8.out HRC.out.2.1.lt)⟩
            · have b3 : ((y : Int) ≤ n) := by omega
              go_wp2_with fail
              refine (CZ.out _).mono ?_; rintro e w6 ⟨rfl, hb6⟩
              have HB6 := Lib.hid (HBC.out.trans (hb6.mono HBC.out.size)); have HS6 := Lib.hid hb6
              have h86 := HN8.out.below hb6 HN8.out.lt
              have e3 := h86.c0
              have e4 := h86.c1
              have e5 := h86.c2
              have hl9 := h86.lt
              have hg6 := HRC.out.2.1.below hb6 HRC.out.2.1.lt
              have f0 := hg6.free 0
              have f1 := hg6.free 1
              have f2 := hg6.free 2
              have f3 := hg6.c0
              have f4 := hg6.c1
              have f5 := hg6.c2
              have hl10 := hg6.lt
              have HG6 := Lib.hid hg6
              clear hb6 e0 e1 e2 hl8 h86 hg6
              go_wp2
              go_roundg gi
              case measure => omega
              case rel =>
                refine ⟨i + 1, by omega, rfl, by go_num, HNX.out _ b3 ?_ ?_ (((HG6.out.s0 _).s1 _).s2 _) ?_⟩
                · exact ((HB6.out.setCell (p := ⟨g, 0, none⟩) (Nat.le_of_lt HD.out.far) _).setCell (p := ⟨g, 1, none⟩) (Nat.le_of_lt HD.out.far) _).setCell (p := ⟨g, 2, none⟩) (Nat.le_of_lt HD.out.far) _
                · have hne : (g : Nat) ≠ w.heap.size := by have := HD.out.far; omega
                  exact (((HRC.out.1.below HS6.out HRC.out.1.lt).other ⟨g, 0, none⟩ hne _).other ⟨g, 1, none⟩ hne _).other ⟨g, 2, none⟩ hne _
                · have hne : gr ≠ g := by omega
                  have hr6 := HRC.out.2.2.on HS6.out
                  exact hr6.keep (by simp) ((Below.heap_setCell _ _ _ _ hne).trans ((Below.heap_setCell _ _ _ _ hne).trans (Below.heap_setCell _ _ _ _ hne)))

theorem ahead_any {K : List UInt8 → Nat} {F : FuncId} (key : Key K F) {w : World} {r p : Option Addr} {L : List ByteArray} {s : ByteArray} (h : RopeW w r p L s) {n : Int} (hn : 0 ≤ n) :
    Calls Try.prog 27 #[.pointer r, .int .i64 n, .func (.func F) #[] #[]] w (RetAhead K s n w) := by
  by_cases hK : (K s.data.toList : Int) ≤ n
  · exact ahead_all key h hK
  · exact ahead_down key h hn (by omega)
end Go.Proofs.Yteopkjcofcmgoaa
namespace Go.Proofs.Yteopkjcofcmgoaa
open Go.RowKit
set_option linter.unusedVariables false
set_option linter.unusedSimpArgs false

theorem cntAt_is {s : ByteArray} {m : Nat} (h : m ≤ s.size) : cntAt s m = cntV (s.extract 0 m).size (runes (s.extract 0 m).data.toList) (lines (s.extract 0 m).data.toList) := by
  unfold cntAt
  rw [head_list, piece_size s m h]
theorem cntAt_zero (s : ByteArray) : cntAt s 0 = cntV 0 0 0 := by unfold cntAt; rw [List.take_zero]; rfl
theorem start_ex (s : ByteArray) {n : Nat} (h : n ≤ lines s.data.toList) : ∃ p, StartP s.data.toList n p := by
  have hl := starts_count s
  exact ⟨_, starts_get s n (by omega)⟩
theorem lines_take_le (s : ByteArray) (k : Nat) : lines (s.data.toList.take k) ≤ lines s.data.toList := by
  have h : s.data.toList = s.data.toList.take k ++ s.data.toList.drop k := (List.take_append_drop _ _).symm
  conv => rhs; rw [h, lines_app]
  omega

set_option maxRecDepth 100000 in
set_option maxHeartbeats 800000 in
theorem ro_slice {w : World} {r p : Option Addr} {L : List ByteArray} {s : ByteArray} (h : RopeW w r p L s) {i m : Nat} (him : i + m ≤ s.size) :
    Calls Try.prog 33 #[.pointer r, .int .i64 i, .int .i64 m] w fun e w' => e = .returned (.tuple #[.string (s.extract i (i + m)), .int .i64 0]) ∧ Below w.heap.size w w' := by
  have hsm := h.x.small
  have c1 := ro_text h
  have c2 := ro_stand (z := s.size) (i := i) (n := m) hsm (by unfold i64P; omega)
  rw [stand_iff.2 (by omega)] at c2
  have h1 : (0 : Int) ≤ (i : Int) + (m : Int) := by omega
  have h2 : (i : Int) + (m : Int) ≤ (s.size : Int) := by omega
  have h3 : ((i : Int) + (m : Int)).toNat = i + m := by omega
  have h4 : (i : Int) ≤ (i : Int) + (m : Int) := by omega
  have h5 : (0 : Int) ≤ (i : Int) := by omega
  have h6 : (i : Int) ≤ (s.size : Int) := by omega
  have C1 := Lib.hid c1; have C2 := Lib.hid c2
  clear c1 c2 h
  go_enter Try.func33, Try.ntmps33
  go_wp2_with fail
  refine C1.out.mono ?_; rintro e w1 ⟨rfl, hb1⟩
  have HB1 := Lib.hid hb1
  clear hb1
  go_wp2_with fail
  refine (C2.out _).mono ?_; rintro e w2 ⟨rfl, rfl⟩
  go_wp2
  go_ret2
  exact ⟨ret_se (by first | rfl | simp [h3]) rfl, HB1.out⟩

set_option maxRecDepth 100000 in
set_option maxHeartbeats 800000 in
theorem sk_lines {w : World} {r p : Option Addr} {L : List ByteArray} {s : ByteArray} (h : RopeW w r p L s) :
    Calls Try.prog 15 #[.pointer r] w fun e w' => e = .returned (.int .i64 ((lines s.data.toList : Int) + 1)) ∧ Below w.heap.size w w' := by
  have hsm := h.x.small
  have hle := lines_le s.data.toList
  rw [list_size] at hle
  have c1 := ro_count h
  obtain ⟨sz, hsz⟩ : ∃ x : Int, (s.size : Int) = x := ⟨_, rfl⟩
  obtain ⟨ru, hru⟩ : ∃ x : Int, (runes s.data.toList : Int) = x := ⟨_, rfl⟩
  obtain ⟨li, hli⟩ : ∃ x : Int, (lines s.data.toList : Int) = x := ⟨_, rfl⟩
  rw [hsz, hru, hli] at c1
  rw [hli]
  have cf : ∀ w, (Instr.field 48 (cntV sz ru li) 2).run Try.prog w = .ok (.int .i64 li) w := fun w => by kernel_rfl
  have b1 : 0 ≤ li := by omega
  have b2 : li ≤ 5000 := by omega
  have C1 := Lib.hid c1
  clear c1 h hsz hru hli hle hsm
  go_enter Try.func15, Try.ntmps15
  go_wp2_with fail
  refine C1.out.mono ?_; rintro e w1 ⟨rfl, hb1⟩
  go_wp2
  go_ret
  exact ⟨rfl, hb1⟩
/-- Is there such a line? -/
def lineB (s : ByteArray) (n : Int) : Bool := decide (0 ≤ n ∧ n ≤ (lines s.data.toList : Int))
set_option maxRecDepth 100000 in
set_option maxHeartbeats 800000 in
theorem sk_stands {w : World} {r p : Option Addr} {L : List ByteArray} {s : ByteArray} (h : RopeW w r p L s) (n : Int) :
    Calls Try.prog 31 #[.pointer r, .int .i64 n] w fun e w' => e = .returned (.bool (lineB s n)) ∧ Below w.heap.size w w' := by
  have c1 := sk_lines h
  unfold lineB
  obtain ⟨li, hli⟩ : ∃ x : Int, (lines s.data.toList : Int) = x := ⟨_, rfl⟩
  rw [hli] at c1 ⊢
  have C1 := Lib.hid c1
  clear c1 h hli
  by_cases h0 : 0 ≤ n
  · have e : decide (0 ≤ n ∧ n ≤ li) = decide (n < li + 1) := by
      by_cases g : n ≤ li
      · rw [decide_eq_true (by omega), decide_eq_true (by omega)]
      · rw [decide_eq_false (by omega), decide_eq_false (by omega)]
    rw [e]
    clear e
    go_enter Try.func31, Try.ntmps31
    go_wp2_with fail
    refine C1.out.mono ?_; rintro e w1 ⟨rfl, hb1⟩
    go_wp2
    go_ret
    exact ⟨ret_bool (by simp), hb1⟩
  · rw [decide_eq_false (by omega)]
    go_enter Try.func31, Try.ntmps31
    go_wp2
    go_ret
    exact ⟨rfl, Below.refl _ _⟩

theorem head_line (s : ByteArray) {m : Nat} (hm : m < s.size) (h : bt s.data.toList m = 10) : s.extract 0 (m + 1) = s.extract 0 m ++ ⟨#[10]⟩ := by
  refine str_ext ?_
  rw [app_list, head_list, head_list, take_succ _ _ (by rw [list_size]; exact hm)]
  congr 1
  have h2 : (s.data.toList.getD m 0).toNat = 10 := h
  have h3 : s.data.toList.getD m 0 = 10 := UInt8.toNat_inj.1 (by rw [h2]; rfl)
  rw [h3]
set_option maxRecDepth 100000 in
set_option maxHeartbeats 800000 in
theorem sk_begin_zero (r : Option Addr) (s : ByteArray) (w : World) :
    Calls Try.prog 30 #[.pointer r, .int .i64 0] w fun e w' => e = .returned (cntAt s 0) ∧ Below w.heap.size w w' := by
  rw [cntAt_zero]
  go_enter Try.func30, Try.ntmps30
  go_wp2
  refine bodyPost_ret (v := cntV 0 0 0) (by simp [results, Try.results30, go_sem]) rfl ⟨rfl, ?_⟩
  exact (Below.refl _ _).alloc (Nat.le_refl _) _
set_option maxRecDepth 100000 in
set_option maxHeartbeats 800000 in
theorem sk_begin_succ {w : World} {r p : Option Addr} {L : List ByteArray} {s : ByteArray} (h : RopeW w r p L s) {n q : Nat} (hn : n < lines s.data.toList) (hq : StartP s.data.toList (n + 1) q) :
    Calls Try.prog 30 #[.pointer r, .int .i64 ((n : Int) + 1)] w fun e w' => e = .returned (cntAt s q) ∧ Below w.heap.size w w' := by
  have hsm := h.x.small
  have hle := lines_le s.data.toList
  rw [list_size] at hle
  have hb0 : Below w.heap.size w (w.alloc zc) := (Below.refl _ _).alloc (Nat.le_refl _) _
  have c1 := fun W (hW : Below w.heap.size w W) => ahead_any key_ends (h.later hW) (n := (n : Int)) (by omega)
  obtain ⟨nl, hnl⟩ : ∃ x : ByteArray, x = ⟨#[10]⟩ := ⟨_, rfl⟩
  have c2 : ∀ W, Calls Try.prog 49 #[.string ⟨#[10]⟩] W fun e w' => e = .returned (cntV nl.size (runes nl.data.toList) (lines nl.data.toList)) ∧ Below W.heap.size W w' := fun W => by
    subst hnl; exact tof_any _ (by decide) W
  have hst : ∀ m, UptoP lines s.data.toList n m → m < s.size ∧ m + 1 = q ∧ s.extract 0 (m + 1) = s.extract 0 m ++ nl := fun m u => by
    obtain ⟨h1, h2, h3⟩ := upto_lines u hn
    rw [list_size] at h1
    exact ⟨h1, (start_next u hn).same hq, by rw [hnl]; exact head_line s h1 h2⟩
  have b1 : ((n : Int) + 1 == 0) = false := by simpa using (show ¬ (n : Int) + 1 = 0 by omega)
  have b2 : ¬ (n : Int) + 1 = 0 := by omega
  have b3 : (n : Int) + 1 - 1 = n := by omega
  have b4 : (n : Int) ≤ 5000 := by omega
  have C1 := Lib.hid c1; have C2 := Lib.hid c2; have HST := Lib.hid hst
  clear c1 c2 hst h hle hnl hq hn
  go_enter Try.func30, Try.ntmps30
  go_wp2_with fail
  refine (C1.out _ hb0).mono ?_; rintro e w1 ⟨m, u, rfl, hb1⟩
  obtain ⟨hm, hmq, hx⟩ := HST.out m u
  have hv : cntV (s.extract 0 m ++ nl).size (runes (s.extract 0 m ++ nl).data.toList) (lines (s.extract 0 m ++ nl).data.toList) = cntAt s q := by rw [← hmq, cntAt_is hm, hx]
  rw [cntAt_is (Nat.le_of_lt hm)]
  have HB1 := Lib.hid (hb0.trans (hb1.mono hb0.size)); have HN1 := Lib.hid ((Blk3.new w (.int .i64 0) (.int .i64 0) (.int .i64 0) 48).below hb1 (by simp))
  have hz : (s.extract 0 m ++ nl).size ≤ 1000000 := by rw [← hx, piece_size s (m + 1) hm]; omega
  have ca := fun gq W hW => tadd_at (a := s.extract 0 m) (b := nl) hz gq W hW
  obtain ⟨a, ha⟩ : ∃ a, s.extract 0 m = a := ⟨_, rfl⟩
  rw [ha] at ca hv ⊢
  obtain ⟨z, hzz⟩ : ∃ z, a ++ nl = z := ⟨_, rfl⟩
  rw [hzz] at ca hv
  have CA := Lib.hid ca; have HV := Lib.hid hv
  clear hb1 ca ha hzz hz u hx hv
  go_wp2_with fail
  refine (C2.out _).mono ?_; rintro e w2 ⟨rfl, hb2⟩
  have HB2 := Lib.hid (HB1.out.trans (hb2.mono HB1.out.size)); have HN2 := Lib.hid ((HN1.out.below hb2 HN1.out.lt).alloc (row2 a nl))
  have HB3 := Lib.hid (HB2.out.alloc HB2.out.size (row2 a nl)); have HC := Lib.hid (row2_cnts a nl w2)
  clear hb2
  go_wp2_with fail
  refine (CA.out _ _ HC.out).mono ?_; rintro e w3 ⟨rfl, hb3⟩
  have HB4 := Lib.hid (HB3.out.trans (hb3.mono HB3.out.size)); have HN4 := Lib.hid (HN2.out.below hb3 HN2.out.lt)
  clear hb3
  have g0 := HN4.out.free 0
  have g1 := HN4.out.free 1
  have g2 := HN4.out.free 2
  have d0 := HN4.out.c0
  have d1 := HN4.out.c1
  have d2 := HN4.out.c2
  have hlt := HN4.out.lt
  go_wp2
  refine bodyPost_ret (v := cntV z.size (runes z.data.toList) (lines z.data.toList)) (by simp [results, Try.results30, go_sem, g0, g1, g2, d0, d1, d2]) rfl ⟨congrArg Ending.returned HV.out, ?_⟩
  exact ((HB4.out.setCell (p := ⟨w.heap.size, 0, none⟩) (Nat.le_refl _) _).setCell (p := ⟨w.heap.size, 1, none⟩) (Nat.le_refl _) _).setCell (p := ⟨w.heap.size, 2, none⟩) (Nat.le_refl _) _
theorem sk_begin {w : World} {r p : Option Addr} {L : List ByteArray} {s : ByteArray} (h : RopeW w r p L s) {n q : Nat} (hn : n ≤ lines s.data.toList) (hq : StartP s.data.toList n q) :
    Calls Try.prog 30 #[.pointer r, .int .i64 n] w fun e w' => e = .returned (cntAt s q) ∧ Below w.heap.size w w' := by
  cases n with
  | zero =>
    obtain rfl : q = 0 := hq.same (.inl ⟨rfl, rfl⟩)
    exact sk_begin_zero r s w
  | succ n =>
    have e : ((n + 1 : Nat) : Int) = (n : Int) + 1 := by omega
    rw [e]
    exact sk_begin_succ h hn hq

set_option maxRecDepth 100000 in
set_option maxHeartbeats 800000 in
theorem sk_edge_no {w : World} {r p : Option Addr} {L : List ByteArray} {s : ByteArray} (h : RopeW w r p L s) {q : Int} (hq : i64P q) (hE : placeE s q ≠ 0) :
    Calls Try.prog 23 #[.pointer r, .int .i64 q] w fun e w' => e = .returned (.tuple #[cntV 0 0 0, .int .i64 (placeE s q)]) ∧ Below w.heap.size w w' := by
  have hsm := h.x.small
  have hb0 : Below w.heap.size w (w.alloc zc) := (Below.refl _ _).alloc (Nat.le_refl _) _
  have c1 := fun W (hW : Below w.heap.size w W) => ro_len (h.later hW)
  have c2 := fun W (hW : Below w.heap.size w W) => ro_edge (h.later hW) hq
  by_cases h0 : q < 0
  · have e : placeE s q = 3 := by unfold placeE; rw [if_pos (.inl h0)]
    rw [e]
    clear hE e c1 c2 hq
    go_enter Try.func23, Try.ntmps23
    go_wp2
    refine bodyPost_ret (v := .tuple #[cntV 0 0 0, .int .i64 3]) (by simp [results, Try.results23, go_sem]) rfl ⟨rfl, hb0⟩
  by_cases h1 : (s.size : Int) < q
  · have e : placeE s q = 3 := by unfold placeE; rw [if_pos (.inr h1)]
    rw [e]
    have C1 := Lib.hid c1
    clear hE e c1 c2 hq h
    go_enter Try.func23, Try.ntmps23
    go_wp2_with fail
    refine (C1.out _ hb0).mono ?_; rintro e w1 ⟨rfl, hb1⟩
    have HB1 := Lib.hid (hb0.trans (hb1.mono hb0.size)); have HN1 := (Blk3.new w (.int .i64 0) (.int .i64 0) (.int .i64 0) 48).below hb1 (by simp)
    have g0 := HN1.free 0
    have g1 := HN1.free 1
    have g2 := HN1.free 2
    have d0 := HN1.c0
    have d1 := HN1.c1
    have d2 := HN1.c2
    have hlt := HN1.lt
    clear hb1 HN1
    go_wp2
    refine bodyPost_ret (v := .tuple #[cntV 0 0 0, .int .i64 3]) (by simp [results, Try.results23, go_sem, g0, g1, g2, d0, d1, d2]) rfl ⟨rfl, ?_⟩
    exact ((HB1.out.setCell (p := ⟨w.heap.size, 0, none⟩) (Nat.le_refl _) _).setCell (p := ⟨w.heap.size, 1, none⟩) (Nat.le_refl _) _).setCell (p := ⟨w.heap.size, 2, none⟩) (Nat.le_refl _) _
  · have he : edgeB s.data.toList q = false := by
      cases hh : edgeB s.data.toList q with
      | false => rfl
      | true => exact absurd (by unfold placeE; rw [if_neg (by omega), if_neg (by rw [hh]; decide)]) hE
    have e : placeE s q = 4 := by unfold placeE; rw [if_neg (by omega), if_pos he]
    rw [e]
    rw [he] at c2
    have C1 := Lib.hid c1; have C2 := Lib.hid c2
    have t1 : 0 ≤ q := by omega
    have t2 : q ≤ (s.size : Int) := by omega
    clear hE e c1 c2 hq h he h0 h1
    go_enter Try.func23, Try.ntmps23
    go_wp2_with fail
    refine (C1.out _ hb0).mono ?_; rintro e w1 ⟨rfl, hb1⟩
    have HB1 := Lib.hid (hb0.trans (hb1.mono hb0.size)); have HN1 := Lib.hid ((Blk3.new w (.int .i64 0) (.int .i64 0) (.int .i64 0) 48).below hb1 (by simp))
    clear hb1
    go_wp2_with fail
    refine (C2.out _ HB1.out).mono ?_; rintro e w2 ⟨rfl, hb2⟩
    have HB2 := Lib.hid (HB1.out.trans (hb2.mono HB1.out.size)); have HN2 := HN1.out.below hb2 HN1.out.lt
    have g0 := HN2.free 0
    have g1 := HN2.free 1
    have g2 := HN2.free 2
    have d0 := HN2.c0
    have d1 := HN2.c1
    have d2 := HN2.c2
    have hlt := HN2.lt
    clear hb2 HN2
    go_wp2
    refine bodyPost_ret (v := .tuple #[cntV 0 0 0, .int .i64 4]) (by simp [results, Try.results23, go_sem, g0, g1, g2, d0, d1, d2]) rfl ⟨rfl, ?_⟩
    exact ((HB2.out.setCell (p := ⟨w.heap.size, 0, none⟩) (Nat.le_refl _) _).setCell (p := ⟨w.heap.size, 1, none⟩) (Nat.le_refl _) _).setCell (p := ⟨w.heap.size, 2, none⟩) (Nat.le_refl _) _
set_option maxRecDepth 100000 in
set_option maxHeartbeats 800000 in
theorem sk_edge_yes {w : World} {r p : Option Addr} {L : List ByteArray} {s : ByteArray} (h : RopeW w r p L s) {k : Nat} (hk : k ≤ s.size) (he : edge s.data.toList k) :
    Calls Try.prog 23 #[.pointer r, .int .i64 k] w fun e w' => e = .returned (.tuple #[cntAt s k, .int .i64 0]) ∧ Below w.heap.size w w' := by
  have hsm := h.x.small
  have hb0 : Below w.heap.size w (w.alloc zc) := (Below.refl _ _).alloc (Nat.le_refl _) _
  have c1 := fun W (hW : Below w.heap.size w W) => ro_len (h.later hW)
  have c2 := fun W (hW : Below w.heap.size w W) => ro_edge (h.later hW) (q := (k : Int)) (by unfold i64P; omega)
  have c3 := fun W (hW : Below w.heap.size w W) => ahead_any key_sizes (h.later hW) (n := (k : Int)) (by omega)
  rw [show edgeB s.data.toList k = true by unfold edgeB; rw [decide_eq_true_eq, Int.toNat_natCast]; exact ⟨by omega, he⟩] at c2
  have hm : ∀ m, UptoP List.length s.data.toList k m → m = k := fun m u => upto_len (by rw [list_size]; exact hk) u
  unfold cntAt
  obtain ⟨ru, hru⟩ : ∃ x, runes (s.data.toList.take k) = x := ⟨_, rfl⟩
  obtain ⟨li, hli⟩ : ∃ x, lines (s.data.toList.take k) = x := ⟨_, rfl⟩
  have hv : ∀ m, UptoP List.length s.data.toList k m → cntAt s m = cntV k ru li := fun m u => by rw [hm m u, cntAt, hru, hli]
  rw [hru, hli]
  have t1 : (0 : Int) ≤ (k : Int) := by omega
  have t2 : (k : Int) ≤ (s.size : Int) := by omega
  have C1 := Lib.hid c1; have C2 := Lib.hid c2; have C3 := Lib.hid c3; have HV := Lib.hid hv
  clear c1 c2 c3 h he hm hv hru hli
  go_enter Try.func23, Try.ntmps23
  go_wp2_with fail
  refine (C1.out _ hb0).mono ?_; rintro e w1 ⟨rfl, hb1⟩
  have HB1 := Lib.hid (hb0.trans (hb1.mono hb0.size)); have HN1 := Lib.hid ((Blk3.new w (.int .i64 0) (.int .i64 0) (.int .i64 0) 48).below hb1 (by simp))
  clear hb1
  go_wp2_with fail
  refine (C2.out _ HB1.out).mono ?_; rintro e w2 ⟨rfl, hb2⟩
  have HB2 := Lib.hid (HB1.out.trans (hb2.mono HB1.out.size)); have HN2 := Lib.hid (HN1.out.below hb2 HN1.out.lt)
  clear hb2
  go_wp2_with fail
  refine (C3.out _ HB2.out).mono ?_; rintro e w3 ⟨m, u, rfl, hb3⟩
  rw [HV.out m u]
  have HB3 := Lib.hid (HB2.out.trans (hb3.mono HB2.out.size)); have HN3 := HN2.out.below hb3 HN2.out.lt
  have g0 := HN3.free 0
  have g1 := HN3.free 1
  have g2 := HN3.free 2
  have d0 := HN3.c0
  have d1 := HN3.c1
  have d2 := HN3.c2
  have hlt := HN3.lt
  clear hb3 HN3 u
  go_wp2
  refine bodyPost_ret (v := .tuple #[cntV k ru li, .int .i64 0]) (by simp [results, Try.results23, go_sem, g0, g1, g2, d0, d1, d2]) rfl ⟨rfl, ?_⟩
  exact ((HB3.out.setCell (p := ⟨w.heap.size, 0, none⟩) (Nat.le_refl _) _).setCell (p := ⟨w.heap.size, 1, none⟩) (Nat.le_refl _) _).setCell (p := ⟨w.heap.size, 2, none⟩) (Nat.le_refl _) _
end Go.Proofs.Yteopkjcofcmgoaa
namespace Go.Proofs.Yteopkjcofcmgoaa
open Go.RowKit
set_option linter.unusedVariables false
set_option linter.unusedSimpArgs false

/-- What is seen while a result is made: a count in a block. -/
def See (w : World) (g : Nat) (x y z : Value) (w' : World) : Prop := Below w.heap.size w w' ∧ w'.cell? ⟨g, 0, none⟩ = some x ∧ w'.cell? ⟨g, 1, none⟩ = some y ∧ w'.cell? ⟨g, 2, none⟩ = some z
theorem See.on2 {w w1 w2 : World} {g : Nat} {x y z : Value} (h : See w g x y z w1) (hb : Below w1.heap.size w1 w2) : See w g x y z w2 := by
  have hg1 : g < w1.heap.size := World.block_lt_of_cell? _ _ h.2.1
  exact ⟨h.1.trans (hb.mono h.1.size), (hb.cell (p := ⟨g, 0, none⟩) hg1).trans h.2.1, (hb.cell (p := ⟨g, 1, none⟩) hg1).trans h.2.2.1, (hb.cell (p := ⟨g, 2, none⟩) hg1).trans h.2.2.2⟩
set_option maxRecDepth 100000 in
set_option maxHeartbeats 800000 in
theorem sk_rune_at {w : World} {r : Option Addr} {q a b c E : Int} (ce : Calls Try.prog 23 #[.pointer r, .int .i64 q] w fun e w' => e = .returned (.tuple #[cntV a b c, .int .i64 E]) ∧ Below w.heap.size w w') :
    Calls Try.prog 9 #[.pointer r, .int .i64 q] w fun e w' => e = .returned (.tuple #[.int .i64 b, .int .i64 E]) ∧ Below w.heap.size w w' := by
  have CE := Lib.hid ce
  clear ce
  go_enter Try.func9, Try.ntmps9
  go_wp2_with fail
  refine CE.out.mono ?_; rintro e w1 ⟨rfl, hb1⟩
  have HB1 := Lib.hid hb1
  clear hb1
  go_wp2
  go_ret2
  exact ⟨rfl, HB1.out.alloc HB1.out.size _⟩
theorem sk_rune {w : World} {r p : Option Addr} {L : List ByteArray} {s : ByteArray} (h : RopeW w r p L s) {q : Int} (hq : i64P q) :
    Calls Try.prog 9 #[.pointer r, .int .i64 q] w fun e w' => e = .returned (.tuple #[.int .i64 (placeV s q), .int .i64 (placeE s q)]) ∧ Below w.heap.size w w' := by
  by_cases hE : placeE s q = 0
  · obtain ⟨k, rfl, hk, he, -⟩ := place_zero hE
    have hV : placeV s k = runes (s.data.toList.take k) := by unfold placeV; rw [hE, if_pos rfl, Int.toNat_natCast]
    rw [hE, hV]
    exact sk_rune_at (sk_edge_yes h hk he)
  · have hV : placeV s q = 0 := by unfold placeV; rw [if_neg hE]
    rw [hV]
    exact sk_rune_at (sk_edge_no h hq hE)

set_option maxRecDepth 100000 in
set_option maxHeartbeats 800000 in
theorem sk_byte_no {w : World} {r p : Option Addr} {L : List ByteArray} {s : ByteArray} (h : RopeW w r p L s) {n : Int} (hn : n < 0 ∨ (runes s.data.toList : Int) < n) :
    Calls Try.prog 11 #[.pointer r, .int .i64 n] w fun e w' => e = .returned (.tuple #[.int .i64 0, .int .i64 3]) ∧ Below w.heap.size w w' := by
  have c1 := ro_count h
  obtain ⟨sz, hsz⟩ : ∃ x : Int, (s.size : Int) = x := ⟨_, rfl⟩
  obtain ⟨ru, hru⟩ : ∃ x : Int, (runes s.data.toList : Int) = x := ⟨_, rfl⟩
  obtain ⟨li, hli⟩ : ∃ x : Int, (lines s.data.toList : Int) = x := ⟨_, rfl⟩
  rw [hsz, hru, hli] at c1
  rw [hru] at hn
  have cf : ∀ w, (Instr.field 48 (cntV sz ru li) 1).run Try.prog w = .ok (.int .i64 ru) w := fun w => by kernel_rfl
  have C1 := Lib.hid c1
  clear c1 h hsz hru hli
  by_cases h0 : n < 0
  · clear hn
    go_enter Try.func11, Try.ntmps11
    go_wp2
    go_ret2
    exact ⟨rfl, Below.refl _ _⟩
  · have h1 : ru < n := by omega
    have h2 : 0 ≤ n := by omega
    clear hn h0
    go_enter Try.func11, Try.ntmps11
    go_wp2_with fail
    refine C1.out.mono ?_; rintro e w1 ⟨rfl, hb1⟩
    go_wp2
    go_ret2
    exact ⟨rfl, hb1⟩
set_option maxRecDepth 100000 in
set_option maxHeartbeats 800000 in
theorem sk_byte_yes {w : World} {r p : Option Addr} {L : List ByteArray} {s : ByteArray} (h : RopeW w r p L s) {n m : Nat} (hn : n ≤ runes s.data.toList) (u : UptoP runes s.data.toList n m) :
    Calls Try.prog 11 #[.pointer r, .int .i64 n] w fun e w' => e = .returned (.tuple #[.int .i64 m, .int .i64 0]) ∧ Below w.heap.size w w' := by
  have c1 := ro_count h
  have c2 := fun W (hW : Below w.heap.size w W) => ahead_any key_runes (h.later hW) (n := (n : Int)) (by omega)
  have hm : ∀ m', UptoP runes s.data.toList n m' → m' = m := fun m' u' => u'.same meas_runes u
  obtain ⟨sz, hsz⟩ : ∃ x : Int, (s.size : Int) = x := ⟨_, rfl⟩
  obtain ⟨ru, hru⟩ : ∃ x : Int, (runes s.data.toList : Int) = x := ⟨_, rfl⟩
  obtain ⟨li, hli⟩ : ∃ x : Int, (lines s.data.toList : Int) = x := ⟨_, rfl⟩
  rw [hsz, hru, hli] at c1
  obtain ⟨b, hb⟩ : ∃ x : Int, (runes (s.data.toList.take m) : Int) = x := ⟨_, rfl⟩
  obtain ⟨c, hc⟩ : ∃ x : Int, (lines (s.data.toList.take m) : Int) = x := ⟨_, rfl⟩
  have hv : ∀ m', UptoP runes s.data.toList n m' → cntAt s m' = cntV m b c := fun m' u' => by rw [hm m' u', cntAt, hb, hc]
  have cf : ∀ w, (Instr.field 48 (cntV sz ru li) 1).run Try.prog w = .ok (.int .i64 ru) w := fun w => by kernel_rfl
  have cg : ∀ w, (Instr.field 48 (cntV m b c) 0).run Try.prog w = .ok (.int .i64 m) w := fun w => by kernel_rfl
  have h1 : (n : Int) ≤ ru := by omega
  have h2 : (0 : Int) ≤ (n : Int) := by omega
  have C1 := Lib.hid c1; have C2 := Lib.hid c2; have HV := Lib.hid hv
  clear c1 c2 hv h hsz hru hli hb hc hm hn u
  go_enter Try.func11, Try.ntmps11
  go_wp2_with fail
  refine C1.out.mono ?_; rintro e w1 ⟨rfl, hb1⟩
  have HB1 := Lib.hid hb1
  clear hb1
  go_wp2_with fail
  refine (C2.out _ HB1.out).mono ?_; rintro e w2 ⟨m', u, rfl, hb2⟩
  rw [HV.out m' u]
  have HB2 := Lib.hid (HB1.out.trans (hb2.mono HB1.out.size))
  clear hb2 u
  go_wp2
  go_ret2
  exact ⟨rfl, HB2.out⟩

set_option maxRecDepth 100000 in
set_option maxHeartbeats 800000 in
theorem sk_start_no {w : World} {r p : Option Addr} {L : List ByteArray} {s : ByteArray} (h : RopeW w r p L s) {n : Int} (hn : lineB s n = false) :
    Calls Try.prog 17 #[.pointer r, .int .i64 n] w fun e w' => e = .returned (.tuple #[.int .i64 0, .int .i64 3]) ∧ Below w.heap.size w w' := by
  have c1 := sk_stands h n
  rw [hn] at c1
  have C1 := Lib.hid c1
  clear c1 h hn
  go_enter Try.func17, Try.ntmps17
  go_wp2_with fail
  refine C1.out.mono ?_; rintro e w1 ⟨rfl, hb1⟩
  go_wp2
  go_ret2
  exact ⟨rfl, hb1⟩
theorem line_yes {s : ByteArray} {n : Nat} (h : n ≤ lines s.data.toList) : lineB s n = true := by unfold lineB; exact decide_eq_true ⟨by omega, by omega⟩
theorem line_no {s : ByteArray} {n : Int} (h : lineB s n = false) : n < 0 ∨ (lines s.data.toList : Int) < n := by
  unfold lineB at h
  rw [decide_eq_false_iff_not] at h
  omega
theorem line_is {s : ByteArray} {n : Int} (h : lineB s n = true) : ∃ k : Nat, n = k ∧ k ≤ lines s.data.toList := by
  unfold lineB at h
  rw [decide_eq_true_eq] at h
  obtain ⟨k, rfl⟩ := Int.eq_ofNat_of_zero_le h.1
  exact ⟨k, rfl, by omega⟩
set_option maxRecDepth 100000 in
set_option maxHeartbeats 800000 in
theorem sk_start_yes {w : World} {r p : Option Addr} {L : List ByteArray} {s : ByteArray} (h : RopeW w r p L s) {n q : Nat} (hn : n ≤ lines s.data.toList) (hq : StartP s.data.toList n q) :
    Calls Try.prog 17 #[.pointer r, .int .i64 n] w fun e w' => e = .returned (.tuple #[.int .i64 q, .int .i64 0]) ∧ Below w.heap.size w w' := by
  have c1 := sk_stands h n
  rw [line_yes hn] at c1
  have c2 := fun W (hW : Below w.heap.size w W) => sk_begin (h.later hW) hn hq
  unfold cntAt at c2
  obtain ⟨b, hb⟩ : ∃ x : Int, (runes (s.data.toList.take q) : Int) = x := ⟨_, rfl⟩
  obtain ⟨c, hc⟩ : ∃ x : Int, (lines (s.data.toList.take q) : Int) = x := ⟨_, rfl⟩
  rw [hb, hc] at c2
  have cg : ∀ w, (Instr.field 48 (cntV q b c) 0).run Try.prog w = .ok (.int .i64 q) w := fun w => by kernel_rfl
  have C1 := Lib.hid c1; have C2 := Lib.hid c2
  clear c1 c2 h hn hq hb hc
  go_enter Try.func17, Try.ntmps17
  go_wp2_with fail
  refine C1.out.mono ?_; rintro e w1 ⟨rfl, hb1⟩
  have HB1 := Lib.hid hb1
  clear hb1
  go_wp2_with fail
  refine (C2.out _ HB1.out).mono ?_; rintro e w2 ⟨rfl, hb2⟩
  have HB2 := Lib.hid (HB1.out.trans (hb2.mono HB1.out.size))
  clear hb2
  go_wp2
  go_ret2
  exact ⟨rfl, HB2.out⟩

set_option maxRecDepth 100000 in
set_option maxHeartbeats 800000 in
theorem sk_line_no {w : World} {r p : Option Addr} {L : List ByteArray} {s : ByteArray} (h : RopeW w r p L s) {q : Int} (hq : i64P q) (hE : placeE s q ≠ 0) :
    Calls Try.prog 13 #[.pointer r, .int .i64 q] w fun e w' => e = .returned (.tuple #[.int .i64 0, .int .i64 0, .int .i64 (placeE s q)]) ∧ Below w.heap.size w w' := by
  have c1 := sk_edge_no h hq hE
  obtain ⟨E, he⟩ : ∃ E, placeE s q = E := ⟨_, rfl⟩
  rw [he] at c1 hE ⊢
  have C1 := Lib.hid c1
  clear c1 h hq he
  go_enter Try.func13, Try.ntmps13
  go_wp2_with fail
  refine C1.out.mono ?_; rintro e w1 ⟨rfl, hb1⟩
  have HB1 := Lib.hid hb1
  clear hb1
  go_wp2
  refine bodyPost_ret (v := .tuple #[.int .i64 0, .int .i64 0, .int .i64 E]) (by simp [results, Try.results13, go_sem]) rfl ⟨rfl, ?_⟩
  exact HB1.out.alloc HB1.out.size _
set_option maxRecDepth 100000 in
set_option maxHeartbeats 1600000 in
theorem sk_line_yes {w : World} {r p : Option Addr} {L : List ByteArray} {s : ByteArray} (h : RopeW w r p L s) {k q : Nat} (hk : k ≤ s.size) (he : edge s.data.toList k) (hq : StartP s.data.toList (lines (s.data.toList.take k)) q) :
    Calls Try.prog 13 #[.pointer r, .int .i64 k] w fun e w' => e = .returned (.tuple #[.int .i64 (lines (s.data.toList.take k)), .int .i64 ((runes (s.data.toList.take k) - runes (s.data.toList.take q) : Nat)), .int .i64 0]) ∧ Below w.heap.size w w' := by
  have hsm := h.x.small
  have c1 := sk_edge_yes h hk he
  have c2 := fun W (hW : Below w.heap.size w W) => sk_begin (h.later hW) (lines_take_le s k) hq
  have hqk : q ≤ k := hq.le_iff.2 (Nat.le_refl _)
  have hrm := meas_runes.mono s.data.toList hqk
  have hrl := runes_le (s.data.toList.take k)
  rw [List.length_take] at hrl
  unfold cntAt at c1 c2
  obtain ⟨b, hb⟩ : ∃ x, runes (s.data.toList.take k) = x := ⟨_, rfl⟩
  obtain ⟨c, hc⟩ : ∃ x, lines (s.data.toList.take k) = x := ⟨_, rfl⟩
  obtain ⟨b', hb'⟩ : ∃ x, runes (s.data.toList.take q) = x := ⟨_, rfl⟩
  obtain ⟨c', hc'⟩ : ∃ x, lines (s.data.toList.take q) = x := ⟨_, rfl⟩
  rw [hb, hc] at c1
  rw [hb', hc', hc] at c2
  rw [hb, hb'] at hrm ⊢
  rw [hb] at hrl
  rw [hc]
  have c3 := tsub_any (k : Int) b c q b' c'
  have e1 : wrap64 ((b : Int) - (b' : Int)) = ((b - b' : Nat) : Int) := by unfold wrap64; omega
  rw [e1] at c3
  obtain ⟨d, hd⟩ : ∃ d, b - b' = d := ⟨_, rfl⟩
  obtain ⟨x1, hx1⟩ : ∃ x, wrap64 ((k : Int) - (q : Int)) = x := ⟨_, rfl⟩
  obtain ⟨x3, hx3⟩ : ∃ x, wrap64 ((c : Int) - (c' : Int)) = x := ⟨_, rfl⟩
  rw [hd, hx1, hx3] at c3
  rw [hd]
  have cg : ∀ w, (Instr.field 48 (cntV x1 d x3) 1).run Try.prog w = .ok (.int .i64 d) w := fun w => by kernel_rfl
  have C1 := Lib.hid c1; have C2 := Lib.hid c2; have C3 := Lib.hid c3
  clear c1 c2 c3 h he hq hb hc hb' hc' hd hx1 hx3 e1 hrm hrl
  go_enter Try.func13, Try.ntmps13
  go_wp2_with fail
  refine C1.out.mono ?_; rintro e w1 ⟨rfl, hb1⟩
  have HB1 := Lib.hid (hb1.alloc hb1.size (.cells #[.int .i64 k, .int .i64 b, .int .i64 c] 48))
  have HN := Blk3.new w1 (.int .i64 k) (.int .i64 b) (.int .i64 c) 48
  have HSEE := Lib.hid (show See w w1.heap.size (.int .i64 k) (.int .i64 b) (.int .i64 c) (w1.alloc (.cells #[.int .i64 k, .int .i64 b, .int .i64 c] 48)).drew from ⟨HB1.out.drew, HN.c0, HN.c1, HN.c2⟩)
  clear hb1 HN
  go_wp2_with fail
  -- GEN LINE
  refine wp_region_held_drew (S := See w w1.heap.size (.int .i64 k) (.int .i64 b) (.int .i64 c)) (by kernel_rfl) HSEE.out (fun hHeld => ?_)
  refine wpAnyH_take (i := 0) (v := ?_) (by simp only [List.getElem?_toArray, List.getElem?_cons_succ, List.getElem?_cons_zero]; rfl) (by kernel_rfl) (by kernel_rfl) (by kernel_rfl) (fun _ _ _ h => by exact h) (Or.inl ⟨by rfl, ?_⟩) (by assumption) ?_
  rotate_left
  · (intro w hSw; (try dsimp only at hSw); go_simp; try with_reducible rfl)
  try simp only [Act.put, List.setIfInBounds_toArray, List.set_cons_zero, List.set_cons_succ]
  refine wpAnyH_take (i := 1) (v := ?_) (by simp only [List.getElem?_toArray, List.getElem?_cons_succ, List.getElem?_cons_zero]; rfl) (by kernel_rfl) (by kernel_rfl) (by kernel_rfl) (fun _ _ _ h => by exact h) (Or.inl ⟨by rfl, ?_⟩) (by assumption) ?_
  rotate_left
  · (intro w hSw; obtain ⟨x1, x2, x3, x4⟩ := hSw; go_simp; try with_reducible rfl)
  try simp only [Act.put, List.setIfInBounds_toArray, List.set_cons_zero, List.set_cons_succ]
  refine wpAnyH_take (i := 2) (v := ?_) (by simp only [List.getElem?_toArray, List.getElem?_cons_succ, List.getElem?_cons_zero]; rfl) (by kernel_rfl) (by kernel_rfl) (by kernel_rfl) (fun _ _ _ h => by exact h) (Or.inl ⟨by rfl, ?_⟩) (by assumption) ?_
  rotate_left
  · (intro w hSw; obtain ⟨x1, x2, x3, x4⟩ := hSw; go_simp; try with_reducible rfl)
  try simp only [Act.put, List.setIfInBounds_toArray, List.set_cons_zero, List.set_cons_succ]
  refine wpAnyH_take (i := 3) (v := ?_) (by simp only [List.getElem?_toArray, List.getElem?_cons_succ, List.getElem?_cons_zero]; rfl) (by kernel_rfl) (by kernel_rfl) (by kernel_rfl) (fun _ _ _ h => by exact h) (Or.inl ⟨by rfl, ?_⟩) (by assumption) ?_
  rotate_left
  · (intro w hSw; (try dsimp only at hSw); go_simp; try with_reducible rfl)
  try simp only [Act.put, List.setIfInBounds_toArray, List.set_cons_zero, List.set_cons_succ]
  refine wpAnyH_take (i := 4) (v := ?_) (by simp only [List.getElem?_toArray, List.getElem?_cons_succ, List.getElem?_cons_zero]; rfl) (by kernel_rfl) (by kernel_rfl) (by kernel_rfl) (fun _ _ _ h => by exact h) (Or.inl ⟨by rfl, ?_⟩) (by assumption) ?_
  rotate_left
  · (intro w hSw; (try dsimp only at hSw); go_simp; try with_reducible rfl)
  try simp only [Act.put, List.setIfInBounds_toArray, List.set_cons_zero, List.set_cons_succ]
  refine wpAnyH_take (i := 5) (v := ?_) (by simp only [List.getElem?_toArray, List.getElem?_cons_succ, List.getElem?_cons_zero]; rfl) (by kernel_rfl) (by kernel_rfl) (by kernel_rfl) (fun _ _ _ h => by exact h) (Or.inl ⟨by rfl, ?_⟩) (by assumption) ?_
  rotate_left
  · (intro w hSw; obtain ⟨x1, x2, x3, x4⟩ := hSw; go_simp; try with_reducible rfl)
  try simp only [Act.put, List.setIfInBounds_toArray, List.set_cons_zero, List.set_cons_succ]
  refine wpAnyH_ready (rs := [6]) (by kernel_rfl) (by simp) ?_
  refine AllReadyH.cons (by simp only [List.getElem?_toArray, List.getElem?_cons_succ, List.getElem?_cons_zero]; rfl) (fun K hK => ?_) AllReadyH.nil
  go_simp
  (go_at_call 30; refine (C2.out _ hHeld.1).mono ?_; rintro e w2 ⟨rfl, hb2⟩; have HS1 := Lib.hid (hHeld.on2 hb2))
  try go_wp2_with fail
  refine hK.out _ _ ?_ (fun hHeld => ?_)
  · exact HS1.out
  clear hK K
  try simp only [Act.put, List.setIfInBounds_toArray, List.set_cons_zero, List.set_cons_succ]
  refine wpAnyH_ready (rs := [7]) (by kernel_rfl) (by simp) ?_
  refine AllReadyH.cons (by simp only [List.getElem?_toArray, List.getElem?_cons_succ, List.getElem?_cons_zero]; rfl) (fun K hK => ?_) AllReadyH.nil
  go_simp
  (go_at_call 29; refine (C3.out _).mono ?_; rintro e w3 ⟨rfl, hb3⟩; have HS2 := Lib.hid (hHeld.on2 hb3))
  try go_wp2_with fail
  refine hK.out _ _ ?_ (fun hHeld => ?_)
  · exact HS2.out
  clear hK K
  try simp only [Act.put, List.setIfInBounds_toArray, List.set_cons_zero, List.set_cons_succ]
  refine wpAnyH_take (i := 8) (v := ?_) (by simp only [List.getElem?_toArray, List.getElem?_cons_succ, List.getElem?_cons_zero]; rfl) (by kernel_rfl) (by kernel_rfl) (by kernel_rfl) (fun _ _ _ h => by exact h) (Or.inl ⟨by rfl, ?_⟩) (by assumption) ?_
  rotate_left
  · (intro w hSw; (try dsimp only at hSw); go_simp; try with_reducible rfl)
  try simp only [Act.put, List.setIfInBounds_toArray, List.set_cons_zero, List.set_cons_succ]
  refine wpAnyH_take (i := 9) (v := ?_) (by simp only [List.getElem?_toArray, List.getElem?_cons_succ, List.getElem?_cons_zero]; rfl) (by kernel_rfl) (by kernel_rfl) (by kernel_rfl) (fun _ _ _ h => by exact h) (Or.inl ⟨by rfl, ?_⟩) (by assumption) ?_
  rotate_left
  · (intro w hSw; (try dsimp only at hSw); go_simp; try with_reducible rfl)
  try simp only [Act.put, List.setIfInBounds_toArray, List.set_cons_zero, List.set_cons_succ]
  refine wpAnyH_take (i := 10) (v := ?_) (by simp only [List.getElem?_toArray, List.getElem?_cons_succ, List.getElem?_cons_zero]; rfl) (by kernel_rfl) (by kernel_rfl) (by kernel_rfl) (fun _ _ _ h => by exact h) (Or.inl ⟨by rfl, ?_⟩) (by assumption) ?_
  rotate_left
  · (intro w hSw; (try dsimp only at hSw); go_simp; try with_reducible rfl)
  try simp only [Act.put, List.setIfInBounds_toArray, List.set_cons_zero, List.set_cons_succ]
  refine wpAnyH_take (i := 11) (v := ?_) (by simp only [List.getElem?_toArray, List.getElem?_cons_succ, List.getElem?_cons_zero]; rfl) (by kernel_rfl) (by kernel_rfl) (by kernel_rfl) (fun _ _ _ h => by exact h) (Or.inl ⟨by rfl, ?_⟩) (by assumption) ?_
  rotate_left
  · (intro w hSw; (try dsimp only at hSw); go_simp; try with_reducible rfl)
  try simp only [Act.put, List.setIfInBounds_toArray, List.set_cons_zero, List.set_cons_succ]
  refine wpAnyH_done (by kernel_rfl) ?_ _
  -- END GEN LINE
  go_wp2
  refine bodyPost_ret (v := .tuple #[.int .i64 c, .int .i64 d, .int .i64 0]) (by simp [results, Try.results13, go_sem]) rfl ⟨rfl, ?_⟩
  exact HS2.out.1

set_option maxRecDepth 100000 in
set_option maxHeartbeats 800000 in
theorem sk_row_no {w : World} {r p : Option Addr} {L : List ByteArray} {s : ByteArray} (h : RopeW w r p L s) {n : Int} (hn : lineB s n = false) :
    Calls Try.prog 19 #[.pointer r, .int .i64 n] w fun e w' => e = .returned (.tuple #[.string ⟨#[]⟩, .int .i64 3]) ∧ Below w.heap.size w w' := by
  have c1 := sk_stands h n
  rw [hn] at c1
  have C1 := Lib.hid c1
  clear c1 h hn
  go_enter Try.func19, Try.ntmps19
  go_wp2_with fail
  refine C1.out.mono ?_; rintro e w1 ⟨rfl, hb1⟩
  go_wp2
  go_ret2
  exact ⟨rfl, hb1⟩
set_option maxRecDepth 100000 in
set_option maxHeartbeats 1600000 in
theorem sk_row_yes {w : World} {r p : Option Addr} {L : List ByteArray} {s : ByteArray} (h : RopeW w r p L s) {n q m : Nat} (hn : n ≤ lines s.data.toList) (hq : StartP s.data.toList n q) (u : UptoP lines s.data.toList n m) :
    Calls Try.prog 19 #[.pointer r, .int .i64 n] w fun e w' => e = .returned (.tuple #[.string (s.extract q m), .int .i64 0]) ∧ Below w.heap.size w w' := by
  have hsm := h.x.small
  have hqm := upto_start hq u
  have hms : m ≤ s.size := by have := u.1; rwa [list_size] at this
  have c1 := sk_stands h n
  rw [line_yes hn] at c1
  have c2 := fun W (hW : Below w.heap.size w W) => sk_begin (h.later hW) hn hq
  have c3 := fun W (hW : Below w.heap.size w W) => ahead_any key_ends (h.later hW) (n := (n : Int)) (by omega)
  have c5 := fun W (hW : Below w.heap.size w W) => ro_slice (h.later hW) (i := q) (m := m - q) (by omega)
  rw [show q + (m - q) = m by omega] at c5
  have hm : ∀ m', UptoP lines s.data.toList n m' → m' = m := fun m' u' => u'.same meas_lines u
  unfold cntAt at c2
  obtain ⟨b, hb⟩ : ∃ x, runes (s.data.toList.take q) = x := ⟨_, rfl⟩
  obtain ⟨c, hc⟩ : ∃ x, lines (s.data.toList.take q) = x := ⟨_, rfl⟩
  obtain ⟨b', hb'⟩ : ∃ x, runes (s.data.toList.take m) = x := ⟨_, rfl⟩
  obtain ⟨c', hc'⟩ : ∃ x, lines (s.data.toList.take m) = x := ⟨_, rfl⟩
  rw [hb, hc] at c2
  have hv : ∀ m', UptoP lines s.data.toList n m' → cntAt s m' = cntV m b' c' := fun m' u' => by rw [hm m' u', cntAt, hb', hc']
  have c4 := tsub_any (m : Int) b' c' q b c
  have e1 : wrap64 ((m : Int) - (q : Int)) = ((m - q : Nat) : Int) := by unfold wrap64; omega
  rw [e1] at c4
  obtain ⟨d, hd⟩ : ∃ d, m - q = d := ⟨_, rfl⟩
  obtain ⟨x1, hx1⟩ : ∃ x, wrap64 ((b' : Int) - (b : Int)) = x := ⟨_, rfl⟩
  obtain ⟨x3, hx3⟩ : ∃ x, wrap64 ((c' : Int) - (c : Int)) = x := ⟨_, rfl⟩
  rw [hd, hx1, hx3] at c4
  rw [hd] at c5
  obtain ⟨t, ht⟩ : ∃ t, s.extract q m = t := ⟨_, rfl⟩
  rw [ht] at c5 ⊢
  have cg : ∀ w, (Instr.field 48 (cntV d x1 x3) 0).run Try.prog w = .ok (.int .i64 d) w := fun w => by kernel_rfl
  have C1 := Lib.hid c1; have C2 := Lib.hid c2; have C3 := Lib.hid c3; have C4 := Lib.hid c4; have C5 := Lib.hid c5; have HV := Lib.hid hv
  clear c1 c2 c3 c4 c5 hv h hq hb hc hb' hc' hd hx1 hx3 e1 u hm ht hn
  go_enter Try.func19, Try.ntmps19
  go_wp2_with fail
  refine C1.out.mono ?_; rintro e w1 ⟨rfl, hb1⟩
  have HB1 := Lib.hid hb1
  clear hb1
  go_wp2_with fail
  refine (C2.out _ HB1.out).mono ?_; rintro e w2 ⟨rfl, hb2⟩
  have HB2 := Lib.hid (HB1.out.trans (hb2.mono HB1.out.size))
  clear hb2
  go_wp2_with fail
  refine (C3.out _ HB2.out).mono ?_; rintro e w3 ⟨m', u', rfl, hb3⟩
  rw [HV.out m' u']
  have HB3 := Lib.hid (HB2.out.trans (hb3.mono HB2.out.size))
  clear hb3 u'
  have hb4 := (HB3.out.alloc HB3.out.size (.cells #[.int .i64 q, .int .i64 b, .int .i64 c] 48)).alloc (by have := HB3.out.size; simp; omega) (.cells #[.int .i64 m, .int .i64 b', .int .i64 c'] 48)
  have hn1 := (Blk3.new w3 (.int .i64 q) (.int .i64 b) (.int .i64 c) 48).alloc (.cells #[.int .i64 m, .int .i64 b', .int .i64 c'] 48)
  have hn2 := blk3_past w3 (.cells #[.int .i64 q, .int .i64 b, .int .i64 c] 48) (.int .i64 m) (.int .i64 b') (.int .i64 c') 48
  have HSEE := Lib.hid (show See w w3.heap.size (.int .i64 q) (.int .i64 b) (.int .i64 c) ((w3.alloc (.cells #[.int .i64 q, .int .i64 b, .int .i64 c] 48)).alloc (.cells #[.int .i64 m, .int .i64 b', .int .i64 c'] 48)).drew ∧ See w (w3.heap.size + 1) (.int .i64 m) (.int .i64 b') (.int .i64 c') ((w3.alloc (.cells #[.int .i64 q, .int .i64 b, .int .i64 c] 48)).alloc (.cells #[.int .i64 m, .int .i64 b', .int .i64 c'] 48)).drew from ⟨⟨hb4.drew, hn1.c0, hn1.c1, hn1.c2⟩, ⟨hb4.drew, hn2.c0, hn2.c1, hn2.c2⟩⟩)
  clear hb4 hn1 hn2
  go_wp2_with fail
  -- GEN ROW
  refine wp_region_held_drew (S := (fun w' : World => See w w3.heap.size (.int .i64 q) (.int .i64 b) (.int .i64 c) w' ∧ See w (w3.heap.size + 1) (.int .i64 m) (.int .i64 b') (.int .i64 c') w')) (by kernel_rfl) HSEE.out (fun hHeld => ?_)
  refine wpAnyH_take (i := 0) (v := ?_) (by simp only [List.getElem?_toArray, List.getElem?_cons_succ, List.getElem?_cons_zero]; rfl) (by kernel_rfl) (by kernel_rfl) (by kernel_rfl) (fun _ _ _ h => by exact h) (Or.inl ⟨by rfl, ?_⟩) (by assumption) ?_
  rotate_left
  · (intro w hSw; (try dsimp only at hSw); go_simp; try with_reducible rfl)
  try simp only [Act.put, List.setIfInBounds_toArray, List.set_cons_zero, List.set_cons_succ]
  refine wpAnyH_take (i := 1) (v := ?_) (by simp only [List.getElem?_toArray, List.getElem?_cons_succ, List.getElem?_cons_zero]; rfl) (by kernel_rfl) (by kernel_rfl) (by kernel_rfl) (fun _ _ _ h => by exact h) (Or.inl ⟨by rfl, ?_⟩) (by assumption) ?_
  rotate_left
  · (intro w hSw; (try dsimp only at hSw); go_simp; try with_reducible rfl)
  try simp only [Act.put, List.setIfInBounds_toArray, List.set_cons_zero, List.set_cons_succ]
  refine wpAnyH_take (i := 2) (v := ?_) (by simp only [List.getElem?_toArray, List.getElem?_cons_succ, List.getElem?_cons_zero]; rfl) (by kernel_rfl) (by kernel_rfl) (by kernel_rfl) (fun _ _ _ h => by exact h) (Or.inl ⟨by rfl, ?_⟩) (by assumption) ?_
  rotate_left
  · (intro w hSw; obtain ⟨⟨x1, x2, x3, x4⟩, ⟨x5, x6, x7, x8⟩⟩ := hSw; go_simp; try with_reducible rfl)
  try simp only [Act.put, List.setIfInBounds_toArray, List.set_cons_zero, List.set_cons_succ]
  refine wpAnyH_take (i := 3) (v := ?_) (by simp only [List.getElem?_toArray, List.getElem?_cons_succ, List.getElem?_cons_zero]; rfl) (by kernel_rfl) (by kernel_rfl) (by kernel_rfl) (fun _ _ _ h => by exact h) (Or.inl ⟨by rfl, ?_⟩) (by assumption) ?_
  rotate_left
  · (intro w hSw; obtain ⟨⟨x1, x2, x3, x4⟩, ⟨x5, x6, x7, x8⟩⟩ := hSw; go_simp; try with_reducible rfl)
  try simp only [Act.put, List.setIfInBounds_toArray, List.set_cons_zero, List.set_cons_succ]
  refine wpAnyH_take (i := 4) (v := ?_) (by simp only [List.getElem?_toArray, List.getElem?_cons_succ, List.getElem?_cons_zero]; rfl) (by kernel_rfl) (by kernel_rfl) (by kernel_rfl) (fun _ _ _ h => by exact h) (Or.inl ⟨by rfl, ?_⟩) (by assumption) ?_
  rotate_left
  · (intro w hSw; obtain ⟨⟨x1, x2, x3, x4⟩, ⟨x5, x6, x7, x8⟩⟩ := hSw; go_simp; try with_reducible rfl)
  try simp only [Act.put, List.setIfInBounds_toArray, List.set_cons_zero, List.set_cons_succ]
  refine wpAnyH_ready (rs := [5]) (by kernel_rfl) (by simp) ?_
  refine AllReadyH.cons (by simp only [List.getElem?_toArray, List.getElem?_cons_succ, List.getElem?_cons_zero]; rfl) (fun K hK => ?_) AllReadyH.nil
  go_simp
  (go_at_call 29; refine (C4.out _).mono ?_; rintro e w4 ⟨rfl, hb4⟩; have HS1 := Lib.hid (And.intro (hHeld.1.on2 hb4) (hHeld.2.on2 hb4)))
  try go_wp2_with fail
  refine hK.out _ _ ?_ (fun hHeld => ?_)
  · exact HS1.out
  clear hK K
  try simp only [Act.put, List.setIfInBounds_toArray, List.set_cons_zero, List.set_cons_succ]
  refine wpAnyH_take (i := 6) (v := ?_) (by simp only [List.getElem?_toArray, List.getElem?_cons_succ, List.getElem?_cons_zero]; rfl) (by kernel_rfl) (by kernel_rfl) (by kernel_rfl) (fun _ _ _ h => by exact h) (Or.inl ⟨by rfl, ?_⟩) (by assumption) ?_
  rotate_left
  · (intro w hSw; (try dsimp only at hSw); go_simp; try with_reducible rfl)
  try simp only [Act.put, List.setIfInBounds_toArray, List.set_cons_zero, List.set_cons_succ]
  refine wpAnyH_ready (rs := [7]) (by kernel_rfl) (by simp) ?_
  refine AllReadyH.cons (by simp only [List.getElem?_toArray, List.getElem?_cons_succ, List.getElem?_cons_zero]; rfl) (fun K hK => ?_) AllReadyH.nil
  go_simp
  (go_at_call 33; refine (C5.out _ hHeld.1.1).mono ?_; rintro e w5 ⟨rfl, hb5⟩; have HS2 := Lib.hid (And.intro (hHeld.1.on2 hb5) (hHeld.2.on2 hb5)))
  try go_wp2_with fail
  refine hK.out _ _ ?_ (fun hHeld => ?_)
  · exact HS2.out
  clear hK K
  try simp only [Act.put, List.setIfInBounds_toArray, List.set_cons_zero, List.set_cons_succ]
  refine wpAnyH_take (i := 8) (v := ?_) (by simp only [List.getElem?_toArray, List.getElem?_cons_succ, List.getElem?_cons_zero]; rfl) (by kernel_rfl) (by kernel_rfl) (by kernel_rfl) (fun _ _ _ h => by exact h) (Or.inl ⟨by rfl, ?_⟩) (by assumption) ?_
  rotate_left
  · (intro w hSw; (try dsimp only at hSw); go_simp; try with_reducible rfl)
  try simp only [Act.put, List.setIfInBounds_toArray, List.set_cons_zero, List.set_cons_succ]
  refine wpAnyH_take (i := 9) (v := ?_) (by simp only [List.getElem?_toArray, List.getElem?_cons_succ, List.getElem?_cons_zero]; rfl) (by kernel_rfl) (by kernel_rfl) (by kernel_rfl) (fun _ _ _ h => by exact h) (Or.inl ⟨by rfl, ?_⟩) (by assumption) ?_
  rotate_left
  · (intro w hSw; (try dsimp only at hSw); go_simp; try with_reducible rfl)
  try simp only [Act.put, List.setIfInBounds_toArray, List.set_cons_zero, List.set_cons_succ]
  refine wpAnyH_take (i := 10) (v := ?_) (by simp only [List.getElem?_toArray, List.getElem?_cons_succ, List.getElem?_cons_zero]; rfl) (by kernel_rfl) (by kernel_rfl) (by kernel_rfl) (fun _ _ _ h => by exact h) (Or.inl ⟨by rfl, ?_⟩) (by assumption) ?_
  rotate_left
  · (intro w hSw; (try dsimp only at hSw); go_simp; try with_reducible rfl)
  try simp only [Act.put, List.setIfInBounds_toArray, List.set_cons_zero, List.set_cons_succ]
  refine wpAnyH_take (i := 11) (v := ?_) (by simp only [List.getElem?_toArray, List.getElem?_cons_succ, List.getElem?_cons_zero]; rfl) (by kernel_rfl) (by kernel_rfl) (by kernel_rfl) (fun _ _ _ h => by exact h) (Or.inl ⟨by rfl, ?_⟩) (by assumption) ?_
  rotate_left
  · (intro w hSw; (try dsimp only at hSw); go_simp; try with_reducible rfl)
  try simp only [Act.put, List.setIfInBounds_toArray, List.set_cons_zero, List.set_cons_succ]
  refine wpAnyH_done (by kernel_rfl) ?_ _
  -- END GEN ROW
  go_wp2
  go_ret2
  exact ⟨rfl, HS2.out.1.1⟩
end Go.Proofs.Yteopkjcofcmgoaa
