/-
  Layer 16's laws: leaves, lives.
-/
import Derived.Test.YtmdcdkmokaejbaaKnotDev6
import Derived.Test.YtmdcdkmokaejbaaOpenTexts
import Derived.Deep.Cut
namespace Go.Proofs.Ytmdcdkmokaejbaa
open Go.RowKit
set_option linter.unusedVariables false
set_option linter.unusedSimpArgs false

/-- Those of the first so many texts that are chunks. -/
def chunksK (l : List ByteArray) (k : Nat) : List ByteArray := (l.take k).filter fitsB
theorem chunksK_yes (l : List ByteArray) (k : Nat) (h : k < l.length) (hf : fitsB l[k] = true) : chunksK l (k + 1) = chunksK l k ++ [l[k]] := by
  unfold chunksK
  rw [List.take_succ_eq_append_getElem h, List.filter_append, List.filter_cons_of_pos hf]; rfl
theorem chunksK_no (l : List ByteArray) (k : Nat) (h : k < l.length) (hf : fitsB l[k] = false) : chunksK l (k + 1) = chunksK l k := by
  unfold chunksK
  rw [List.take_succ_eq_append_getElem h, List.filter_append, List.filter_cons_of_neg (by rw [hf]; decide), List.filter_nil, List.append_nil]
theorem chunksK_len (l : List ByteArray) (k : Nat) : (chunksK l k).length ≤ k := by
  unfold chunksK
  have := List.length_filter_le fitsB (l.take k)
  rw [List.length_take] at this
  omega
theorem chunksK_fits (l : List ByteArray) (k : Nat) : ∀ s ∈ chunksK l k, fitsP s := fun s hs => (fitsB_iff s).1 (List.mem_filter.1 hs).2
theorem leaf_keep {w w' : World} {b : Nat} {L : List ByteArray} (k : KnotH w 0 b L) (hs : w.heap.size ≤ w'.heap.size) (hb : w'.heap[b]? = w.heap[b]?) : KnotH w' 0 b L := by
  obtain ⟨h1, s, e, hf, hB⟩ := k
  exact ⟨Nat.lt_of_lt_of_le h1 hs, s, e, hf, hb.trans hB⟩
theorem own_far {w : World} {base b n size : Nat} {t T : TypeId} {v : Value} {xs : List Value} {cs : Array Value} (h : w.ownsRow base t size v n xs) (hb : Blk w b cs T) (hT : T ≠ t) : some b ≠ v.ownBlock := by
  intro e
  rcases h.2 with ⟨rfl, -⟩ | ⟨g, cap, cur, rfl, -, hB, -⟩
  · simp [Value.ownBlock] at e
  · simp [Value.ownBlock] at e
    subst e
    unfold Blk at hb
    rw [hB] at hb
    simp at hb
    exact hT hb.2.symm
theorem own_apart {w : World} {base base' n n' size size' : Nat} {t t' : TypeId} {v v' : Value} {xs xs' : List Value} (h : w.ownsRow base t size v n xs) (h' : w.ownsRow base' t' size' v' n' xs') (hT : t ≠ t') : v.ownBlock = none ∨ v.ownBlock ≠ v'.ownBlock := by
  rcases h.2 with ⟨rfl, -⟩ | ⟨g, cap, cur, rfl, -, hB, -⟩
  · exact .inl rfl
  · refine .inr fun e => ?_
    rcases h'.2 with ⟨rfl, -⟩ | ⟨g', cap', cur', rfl, -, hB', -⟩
    · simp [Value.ownBlock] at e
    · simp [Value.ownBlock] at e
      subst e
      rw [hB] at hB'
      simp at hB'
      exact hT hB'.2
/-- Leaves under way. -/
structure LvI (w : World) (M : List ByteArray) (v1 v2 : Value) (K : List Kid) (wr : World) : Prop where
  o1 : wr.ownsRow w.heap.size 26 1 v1 M.length (ptrs K)
  o2 : wr.ownsRow w.heap.size 9 1 v2 M.length (strVs M)
  fl : flat K = M
  len : K.length = M.length
  kids : ∀ x ∈ K, KnotW wr (Since w.heap.size wr) 0 x.b x.L
  bel : Below w.heap.size w wr
theorem LvI.grown {w wr w1 w2 : World} {M : List ByteArray} {v1 v1' v2 v2' : Value} {K : List Kid} {s : ByteArray} {b : Nat} {o1 o2 : Obj} {wm : World} (I : LvI w M v1 v2 K wr) (hf : fitsP s)
    (hb1 : Below wr.heap.size wr w1) (hlb : w.heap.size ≤ b) (hB : Blk w1 b (kcs 1 s s s (.slice none 0 0)) 48)
    (h1 : wm.ownsRow w.heap.size 26 1 v1' (M.length + 1) (ptrs K ++ [pv b])) (g1 : (w1.alloc o1).grownBy wm v1.ownBlock)
    (h2 : w2.ownsRow w.heap.size 9 1 v2' (M.length + 1) (strVs M ++ [.string s])) (g2 : (wm.alloc o2).grownBy w2 v2.ownBlock) :
    LvI w (M ++ [s]) v1' v2' (K ++ [⟨b, [s]⟩]) w2 := by
  have hsz := I.bel.size
  have hs1 := hb1.size
  have e1 := g1.size
  have e2 := g2.size
  simp at e1 e2
  have q1 := own_on I.o1 hb1
  have q2 := own_on I.o2 hb1
  have m2 : wm.ownsRow w.heap.size 9 1 v2 M.length (strVs M) := (q2.alloc o1).kept g1 (own_apart (q2.alloc o1) (q1.alloc o1) (by decide))
  have hbel : Below w.heap.size w w2 := ((((I.bel.trans (hb1.mono hsz)).alloc (by omega) o1).grown g1 (by simp; omega) (own_block q1)).alloc (by omega) o2).grown g2 (by simp; omega) (own_block m2)
  have step : ∀ {x : Nat} {L : List ByteArray}, KnotW w1 (Since w.heap.size w1) 0 x L → KnotW w2 (Since w.heap.size w2) 0 x L := by
    intro x L hx
    obtain ⟨⟨hxo, hxl⟩, s', e, hf', hxB⟩ := hx
    have k1 : wm.heap[x]? = w1.heap[x]? := (g1.block x (by simp; omega) (own_far (q1.alloc o1) (hxB.alloc o1) (by decide))).trans (Below.heap_alloc w1 o1 x hxl)
    have hxm : Blk wm x _ _ := k1.trans hxB
    have k2 : w2.heap[x]? = wm.heap[x]? := (g2.block x (by simp; omega) (own_far (m2.alloc o2) (hxm.alloc o2) (by decide))).trans (Below.heap_alloc wm o2 x (by omega))
    exact ⟨⟨hxo, by omega⟩, s', e, hf', k2.trans hxm⟩
  refine ⟨?_, ?_, by rw [flat_app, flat_one, I.fl], by rw [List.length_append, List.length_append, I.len]; rfl, fun x hx => ?_, hbel⟩
  · have n1 : w2.ownsRow w.heap.size 26 1 v1' (M.length + 1) (ptrs K ++ [pv b]) := (h1.alloc o2).kept g2 (own_apart (h1.alloc o2) (m2.alloc o2) (by decide))
    rw [ptrs_one, List.length_append]; exact n1
  · rw [strVs_one, List.length_append]; exact h2
  · rcases List.mem_append.1 hx with q | q
    · exact step (((I.kids x q).below hb1 fun i hi => hi.2).weak fun i hi => ⟨hi.1, Nat.lt_of_lt_of_le hi.2 hs1⟩)
    · rw [List.mem_singleton.1 q]
      exact step ⟨⟨hlb, hB.lt⟩, s, rfl, hf, hB⟩
theorem LvI.on {w wr w' : World} {M : List ByteArray} {v1 v2 : Value} {K : List Kid} (I : LvI w M v1 v2 K wr) (hb : Below wr.heap.size wr w') : LvI w M v1 v2 K w' :=
  ⟨own_on I.o1 hb, own_on I.o2 hb, I.fl, I.len, fun x hx => ((I.kids x hx).below hb fun i hi => hi.2).weak fun i hi => ⟨hi.1, Nat.lt_of_lt_of_le hi.2 hb.size⟩, I.bel.trans (hb.mono I.bel.size)⟩
set_option maxRecDepth 100000 in
set_option maxHeartbeats 400000 in
theorem rfits_all (s : ByteArray) (w : World) : Calls Try.prog 25 #[.string s] w fun e w' => e = .returned (.bool (fitsB s)) ∧ Below w.heap.size w w' := by
  by_cases h : s.size ≤ 4294967296
  · exact rfits_any s h w
  · rw [fits_long s (by omega)]
    have h1 : ¬ (s.size : Int) < 1 := by omega
    have h2 : ¬ s.size ≤ 16 := by omega
    have h3 : (1 : Int) ≤ (s.size : Int) := by omega
    have h4 : ¬ (s.size : Int) ≤ 16 := by omega
    clear h
    go_enter Try.func25, Try.ntmps25
    go_wp2
    go_ret
    exact ⟨ret_bool (by simp), Below.refl _ _⟩
/-- Leaves are answered, and their texts. -/
def RetLeaves (w : World) (M : List ByteArray) (e : Ending) (w' : World) : Prop := ∃ v1 v2 K, e = .returned (.tuple #[v1, v2]) ∧ LvI w M v1 v2 K w'

set_option maxRecDepth 100000 in
set_option maxHeartbeats 1600000 in
theorem leaves_any (a : Option Addr) (l : List ByteArray) (c : Nat) (w : World) (hr : StrsH w a l) (hf : ∀ s ∈ l, s.size ≤ maxLen) :
    Calls Try.prog 7 #[.slice a l.length c] w (RetLeaves w (chunksK l 200)) := by
  obtain ⟨i0, hi, hz0, hz1, hz2⟩ := info_parts ptr_info16
  obtain ⟨j0, hj, hj0, hj1, hj2⟩ := info_parts string_info
  obtain ⟨n, hn⟩ : ∃ n, l.length = n := ⟨_, rfl⟩
  rw [hn]
  have HN := Lib.hid hn; have HR := Lib.hid hr; have HF := Lib.hid hf
  clear hn hr hf
  go_enter Try.func7, Try.ntmps7
  go_wp2
  go_loopw [4, 5, 6] (fun u1 u2 i wr => ∃ (k : Nat) (v1 v2 : Value) (K : List Kid), k ≤ n ∧ k ≤ 200 ∧ i = .int .i64 k ∧ v1 = u1 ∧ v2 = u2 ∧ LvI w (chunksK l k) v1 v2 K wr) (fun _ _ i _ => 200 - (intOf i).toNat)
  case atStart => exact ⟨0, _, _, [], Nat.zero_le _, Nat.zero_le _, rfl, rfl, rfl, World.ownsRow_nil _ _ _ _, World.ownsRow_nil _ _ _ _, rfl, rfl, fun x hx => absurd hx (by simp), Below.refl _ _⟩
  case round =>
    obtain ⟨k, v1, v2, K, hk, hk2, rfl, rfl, rfl, hI⟩ := hrel
    by_cases hlt : k < n ∧ k < 200
    · obtain ⟨hlt, hlt2⟩ := hlt
      have hkl : k < l.length := by rw [HN.out]; exact hlt
      obtain ⟨ad, rfl, hab, q0⟩ := (HR.out.below (fun b h => h) hI.bel) k hkl
      have hx := HF.out l[k] (List.getElem_mem hkl)
      have cf := rfits_all l[k]
      have hyes := chunksK_yes l k hkl
      have hno := chunksK_no l k hkl
      have hml := chunksK_len l k
      obtain ⟨x, hxx⟩ : ∃ x, l[k] = x := ⟨_, rfl⟩
      rw [hxx] at q0 cf hyes hno hx
      have t1 : decide ((k : Int) < (n : Int)) = true := decide_eq_true (by omega)
      have t2 : decide (k < n) = true := decide_eq_true (by omega)
      have t3 : decide ((k : Int) < 200) = true := decide_eq_true (by omega)
      have t4 : decide (k < 200) = true := decide_eq_true (by omega)
      have b1 : (k : Int) < (n : Int) := by omega
      have b2 : (0 : Int) ≤ (k : Int) := by omega
      by_cases hfit : fitsB x = true
      · have cl := leaf_yes x hx hfit
        rw [hfit] at cf
        have HY := Lib.hid (hyes hfit)
        have HFP := Lib.hid ((fitsB_iff x).1 hfit)
        have o1 := hI.o1
        have o2 := hI.o2
        obtain ⟨M, hM⟩ : ∃ M, chunksK l k = M := ⟨_, rfl⟩
        rw [hM] at HY hI o1 o2 hml
        obtain ⟨N, hN⟩ : ∃ N, M.length = N := ⟨_, rfl⟩
        have HG := Lib.hid (fun s b o1 o2 w1 w2 wm v1' v2' => @LvI.grown w wr w1 w2 M v1 v1' v2 v2' K s b o1 o2 wm hI)
        rw [hN] at o1 o2 hml HG
        have hsz : w.heap.size ≤ wr.heap.size := hI.bel.size
        have CF := Lib.hid cf; have CL := Lib.hid cl; have HI := Lib.hid hI; have O1 := Lib.hid o1; have O2 := Lib.hid o2
        have HQ := Lib.hid ((hI.bel.cell (p := ad.add k) (by rw [add_block]; exact hab)).symm.trans q0)
        have HAB := Lib.hid (show (ad.add k).block < w.heap.size by rw [add_block]; exact hab)
        have hbw := hI.bel
        have HBW := Lib.hid hbw
        clear cf cl hI hyes hno hM hN hab hxx o1 o2 hkl hbw
        go_wp2_with fail
        refine (CF.out _).mono ?_; rintro e w1 ⟨rfl, hb1⟩
        have HB1 := Lib.hid (HBW.out.trans (hb1.mono hsz))
        have HX1 := Lib.hid hb1
        have q1 := (HB1.out.cell HAB.out).trans HQ.out
        clear hb1
        go_wp2_with fail
        refine (CL.out w1).mono ?_; rintro e w2 ⟨bn, rfl, hbn, hB, hb2⟩
        have HLB := Lib.hid (Nat.le_trans HB1.out.size hbn)
        have hX2 := HX1.out.trans (hb2.mono HX1.out.size)
        have HB2 := Lib.hid (HB1.out.trans (hb2.mono HB1.out.size))
        have p1 := own_on O1.out hX2
        have hs2 : w.heap.size ≤ w2.heap.size := HB2.out.size
        have HX2 := Lib.hid hX2; have HBN := Lib.hid hB
        clear hbn hB hb2 hX2
        go_upto_region 8 with (at_builtin; refine wpList_append_own _ rfl _ _ 23 rfl w.heap.size 26 i0 (.pointer none) 1 8 Try.underlying23 hi hz0 hz1 hz2 rfl (by decide) _ _ _ rfl (p1.alloc _) ⟨w2.heap.size, 0, none⟩ 1 1 [pv bn] rfl rfl (news_one _ _ _) (one_cell _ rfl) (by unfold maxLen; omega) (by omega) (Nat.le_trans hs2 (by simp)) ?_; intro v1' wm ho1 hg1 _)
        have hBm : Below w.heap.size w wm := (HB2.out.alloc hs2 _).grown hg1 (Nat.le_trans hs2 (by simp)) (own_block p1)
        have q2 := (hBm.cell HAB.out).trans HQ.out
        have p2 := ((own_on O2.out HX2.out).alloc (.cells #[pv bn] 26)).kept hg1 (own_apart ((own_on O2.out HX2.out).alloc (.cells #[pv bn] 26)) (p1.alloc (.cells #[pv bn] 26)) (by decide))
        have hsm : w.heap.size ≤ wm.heap.size := hBm.size
        have HO1 := Lib.hid ho1; have HG1 := Lib.hid hg1
        clear ho1 hg1 p1 hBm
        go_wp2_with (at_builtin; refine wpList_append_own _ rfl _ _ 22 rfl w.heap.size 9 j0 _ 1 16 Try.underlying22 hj hj0 hj1 hj2 rfl (by decide) _ _ _ rfl (p2.alloc _) ⟨wm.heap.size, 0, none⟩ 1 1 [.string x] rfl rfl (news_one _ _ _) (one_cell _ rfl) (by unfold maxLen; omega) (by omega) (Nat.le_trans hsm (by simp)) ?_; intro v2' w4 ho2 hg2 _)
        have HNX := Lib.hid (HG.out x bn _ _ w2 w4 wm v1' v2' HFP.out HX2.out HLB.out HBN.out HO1.out HG1.out ho2 hg2)
        clear ho2 hg2 p2
        rw [← HY.out] at HNX
        go_wp2
        go_roundw
        case rel => exact ⟨k + 1, _, _, _, by omega, by omega, by go_num, rfl, rfl, HNX.out⟩
        case measure => simp [intOf]; omega
      · have hfit : fitsB x = false := Bool.eq_false_iff.2 hfit
        rw [hfit] at cf
        rw [← hno hfit] at hI
        have CF := Lib.hid cf; have HI := Lib.hid hI
        clear cf hI hyes hno hab hxx hkl hx
        go_wp2_with fail
        refine (CF.out _).mono ?_; rintro e w1 ⟨rfl, hb1⟩
        have HNX := Lib.hid (HI.out.on hb1)
        clear hb1
        go_wp2
        go_roundw
        case rel => exact ⟨k + 1, _, _, _, by omega, by omega, by go_num, rfl, rfl, HNX.out⟩
        case measure => simp [intOf]; omega
    · have hend : chunksK l k = chunksK l 200 := by
        by_cases h2 : k < 200
        · have hkn : ¬ k < n := fun h => hlt ⟨h, h2⟩
          unfold chunksK
          rw [List.take_of_length_le (by rw [HN.out]; omega), List.take_of_length_le (by rw [HN.out]; omega)]
        · rw [show k = 200 by omega]
      rw [hend] at hI
      have HI := Lib.hid hI
      clear hI hend
      by_cases hkn : k < n
      · have t1 : decide ((k : Int) < (n : Int)) = true := decide_eq_true (by omega)
        have t2 : decide (k < n) = true := decide_eq_true (by omega)
        have t3 : decide ((k : Int) < 200) = false := decide_eq_false (by omega)
        have t4 : decide (k < 200) = false := decide_eq_false (by omega)
        go_wp2
        go_ret2
        exact ⟨_, _, _, rfl, HI.out⟩
      · have t1 : decide ((k : Int) < (n : Int)) = false := decide_eq_false (by omega)
        have t2 : decide (k < n) = false := decide_eq_false (by omega)
        go_wp2
        go_ret2
        exact ⟨_, _, _, rfl, HI.out⟩
/-- What a tree tells, in whatever world comes later. -/
structure Tells (w : World) (h b : Nat) (L : List ByteArray) : Prop where
  height : ∀ W, Below w.heap.size w W → Calls Try.prog 15 #[pv b] W fun e w' => e = .returned (.int .i64 h) ∧ Below W.heap.size W w'
  text : ∀ W, Below w.heap.size w W → Calls Try.prog 12 #[pv b] W fun e w' => e = .returned (.string (wholeL L)) ∧ Below W.heap.size W w'
  first : ∀ W, Below w.heap.size w W → Calls Try.prog 18 #[pv b] W fun e w' => e = .returned (.string (fstL L)) ∧ Below W.heap.size W w'
  last : ∀ W, Below w.heap.size w W → Calls Try.prog 19 #[pv b] W fun e w' => e = .returned (.string (lstL L)) ∧ Below W.heap.size W w'
  right : ∀ W, Below w.heap.size w W → Calls Try.prog 17 #[pv b] W fun e w' => e = .returned (.bool true) ∧ Below W.heap.size W w'
  count : ∀ W, Below w.heap.size w W → Calls Try.prog 13 #[pv b] W fun e w' => e = .returned (cntV (wholeL L).size (runes (wholeL L).data.toList) (lines (wholeL L).data.toList)) ∧ Below W.heap.size W w'
theorem KnotW.tells {w : World} {h b : Nat} {L : List ByteArray} (k : KnotH w h b L) (hh : h ≤ 900) (hl : L.length ≤ 60000) : Tells w h b L := by
  have hz : (wholeL L).size ≤ 1000000 := by have := whole_size k.chunks.1; omega
  have cells : ∀ W, Below w.heap.size w W → ∃ kv : Value, (∃ a n c, kv = .slice a n c) ∧ Blk W b (kcs (h + 1) (wholeL L) (fstL L) (lstL L) kv) 48 := fun W hW => (KnotH.on k hW).cells
  refine ⟨fun W hW => ((KnotH.on k hW).hgt (by omega)).call, fun W hW => text_any (KnotH.on k hW) hh (by omega) hz, fun W hW => ?_, fun W hW => ?_, fun W hW => right_any (KnotH.on k hW) hh hz, fun W hW => ?_⟩
  · obtain ⟨kv, -, hB⟩ := cells W hW
    exact first_blk hB
  · obtain ⟨kv, -, hB⟩ := cells W hW
    exact last_blk hB
  · obtain ⟨kv, -, hB⟩ := cells W hW
    exact count_blk hB
/-- The letters a and b. -/
def sA : ByteArray := ⟨#[97]⟩
def sB : ByteArray := ⟨#[98]⟩
theorem sA_fits : fitsP sA := ⟨by decide, by decide, by unfold vld; decide +kernel⟩
theorem sB_fits : fitsP sB := ⟨by decide, by decide, by unfold vld; decide +kernel⟩
theorem two_row (w : World) (a b : Nat) : PRow (w.alloc (.cells #[pv a, pv b] 26)) w.heap.size 0 [pv a, pv b] :=
  ⟨by simp, fun j hj => by
    match j, hj with
    | 0, _ => simp [World.cell?_alloc_new]
    | 1, _ => simp [World.cell?_alloc_new]⟩
theorem one_row (w : World) (p : Option Addr) : PRow (w.alloc (.cells #[.pointer p] 26)) w.heap.size 0 [.pointer p] :=
  ⟨by simp, fun j hj => by
    match j, hj with
    | 0, _ => simp [World.cell?_alloc_new]⟩

set_option maxRecDepth 100000 in
set_option maxHeartbeats 800000 in
theorem lives16_any (w : World) : Calls Try.prog 20 #[] w fun e w' => e = .returned (.bool true) ∧ Below w.heap.size w w' := by
  have ca : ∀ W, Calls Try.prog 24 #[.string ⟨#[97]⟩] W fun e w' => ∃ b, e = .returned (pv b) ∧ KnotH w' 0 b [sA] ∧ Below W.heap.size W w' := fun W =>
    (leaf_yes sA (by unfold maxLen; decide) ((fitsB_iff _).2 sA_fits) W).mono fun e w' ⟨b, he, hb, hB, hbel⟩ => ⟨b, he, ⟨hB.lt, sA, rfl, sA_fits, hB⟩, hbel⟩
  have cb : ∀ W, Calls Try.prog 24 #[.string ⟨#[98]⟩] W fun e w' => ∃ b, e = .returned (pv b) ∧ KnotH w' 0 b [sB] ∧ Below W.heap.size W w' := fun W =>
    (leaf_yes sB (by unfold maxLen; decide) ((fitsB_iff _).2 sB_fits) W).mono fun e w' ⟨b, he, hb, hB, hbel⟩ => ⟨b, he, ⟨hB.lt, sB, rfl, sB_fits, hB⟩, hbel⟩
  have CA := Lib.hid ca; have CB := Lib.hid cb
  clear ca cb
  go_enter Try.func20, Try.ntmps20
  go_wp2_with fail
  refine (CA.out _).mono ?_; rintro e w1 ⟨a, rfl, ka, hb1⟩
  have KA := Lib.hid ka; have HB1 := Lib.hid hb1
  clear ka hb1
  go_wp2_with fail
  refine (CB.out _).mono ?_; rintro e w2 ⟨b, rfl, kb, hb2⟩
  have hrow := two_row w2 a b
  have hbel : Below w2.heap.size w2 (w2.alloc (.cells #[pv a, pv b] 26)) := (Below.refl _ _).alloc (Nat.le_refl _) _
  have ka2 := (KnotH.on KA.out hb2).on hbel
  have kb2 := KnotH.on kb hbel
  have hjp : JoinP (w2.alloc (.cells #[pv a, pv b] 26)) (· < (w2.alloc (.cells #[pv a, pv b] 26)).heap.size) w2.heap.size 0 2 0 [⟨a, [sA]⟩, ⟨b, [sB]⟩] :=
    ⟨rfl, hrow, fun k hk => by
      simp at hk
      rcases hk with rfl | rfl
      · exact ka2
      · exact kb2, fun i hi => hi, by decide, by show (wholeL [sA, sB]).size ≤ 1000000; decide +kernel⟩
  have cj := kjoin_yes (c := 2) hjp (by decide) (by decide)
  have CJ := Lib.hid cj; have HB2 := Lib.hid ((HB1.out.trans (hb2.mono HB1.out.size)).trans (hbel.mono (by have := HB1.out.size; have := hb2.size; omega)))
  clear hb2 hrow hbel ka2 kb2 hjp cj kb
  go_wp2_with fail
  refine CJ.out.mono ?_; rintro e w3 ⟨t, g, c, rfl, -, -, hkn, hb3⟩
  have kt := (hkn.knot (B' := (· < w3.heap.size)) (fun i hi => Nat.lt_of_lt_of_le hi hb3.size) hkn.blk.lt hkn.row.1).tells (by decide) (by show 2 ≤ 60000; decide)
  have e1 : wholeL (flat [⟨a, [sA]⟩, ⟨b, [sB]⟩]) = ⟨#[97, 98]⟩ := by show wholeL [sA, sB] = ⟨#[97, 98]⟩; decide +kernel
  have e2 : fstL (flat [⟨a, [sA]⟩, ⟨b, [sB]⟩]) = ⟨#[97]⟩ := rfl
  have k1 := kt.height
  have k2 := kt.text
  have k3 := kt.first
  have k4 := kt.right
  rw [e1] at k2
  rw [e2] at k3
  rw [show ((0 + 1 : Nat) : Int) = 1 from rfl] at k1
  have K1 := Lib.hid k1; have K2 := Lib.hid k2; have K3 := Lib.hid k3; have K4 := Lib.hid k4; have HB3 := Lib.hid hb3
  clear hkn hb3 kt e1 e2 k1 k2 k3 k4
  go_wp2_with fail
  refine (K1.out _ (Below.refl _ _)).mono ?_; rintro e w4 ⟨rfl, hb4⟩
  have HB4 := Lib.hid hb4
  clear hb4
  go_wp2_with fail
  refine (onward HB4.out (K2.out _ HB4.out)).mono ?_; rintro e w5 ⟨rfl, hb5⟩
  have HB5 := Lib.hid hb5
  clear hb5
  go_wp2_with fail
  refine (onward HB5.out (K3.out _ HB5.out)).mono ?_; rintro e w6 ⟨rfl, hb6⟩
  have HB6 := Lib.hid hb6
  clear hb6
  go_wp2_with fail
  refine (onward HB6.out (K4.out _ HB6.out)).mono ?_; rintro e w7 ⟨rfl, hb7⟩
  have HB7 := Lib.hid hb7
  clear hb7
  go_wp2
  go_ret
  exact ⟨by simp, HB2.out.trans ((HB3.out.trans (HB7.out.mono HB3.out.size)).mono HB2.out.size)⟩
end Go.Proofs.Ytmdcdkmokaejbaa
