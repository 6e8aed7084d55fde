/-
  Contracts of the program's folder (layer 9), third part: a change is made, and waits; Put, Drop, Move.
-/
import Derived.Test.YtpcbfkcpefcnjaaFoldDev2
namespace Go.Proofs.Ytpcbfkcpefcnjaa
open Go.RowKit
set_option linter.unusedVariables false

theorem chg_info : (Try.prog.info? 60).map (fun i => (i.zero, i.size, i.bytes)) = some (some (.agg #[.int .i64 0, .string ByteArray.empty, .string ByteArray.empty, .int .i64 0]), 4, 48) := by kernel_rfl
theorem one_chg (k n : Int) (s d : ByteArray) : ∀ u ∈ ([.int .i64 k, .string s, .string d, .int .i64 n] : List Value), u.oneCell' = true := by
  intro u hu
  simp at hu
  rcases hu with rfl | rfl | rfl | rfl <;> rfl
theorem news_chg (w : World) (k n : Int) (s d : ByteArray) (t : TypeId) : ∀ j u, ([.int .i64 k, .string s, .string d, .int .i64 n] : List Value)[j]? = some u → (w.alloc (.cells #[.int .i64 k, .string s, .string d, .int .i64 n] t)).cell? ((⟨w.heap.size, 0, none⟩ : Addr).add j) = some u := fun j u hj => by
  refine (World.news_of_block (w := w.alloc (.cells #[.int .i64 k, .string s, .string d, .int .i64 n] t)) (B := w.heap.size) (MapKept.heap_alloc w _).1) j u ?_
  exact hj
/-- What stands when a change was made: the block, the boxed change. -/
theorem fodo_mid {w w3 : World} {a bn bk : Nat} {v : Value} {cs : List Chg} {l : List Ent} {c : Chg} (h : Fold w a bn bk v cs l) (hc : c.may (allE l cs)) (hm : MapE w3 bn (chgE (allE l cs) c))
    (ha : Apart [bn] (w.alloc (.cells c.cells 60)) w3) :
    w3.heap[a]? = some (.cells #[.map (some bn), .map (some bk), v] 51 (0, 0)) ∧ w3.heap[w.heap.size]? = some (.cells c.cells 60 (0, 0)) ∧ w3.ownsRow 0 60 4 v cs.length (Chg.flat cs) ∧ MapE w3 bk l ∧ Apart [bn] w w3 := by
  obtain ⟨n1, n2, n3, n4, n5⟩ := h.ab
  have hal := MapKept.heap_alloc w (.cells c.cells 60)
  have hla := h.lt a ((foS_mem a).2 (.inl rfl))
  have hlk := h.kept.lt
  have hln := h.now.lt
  have e : ∀ k, k < w.heap.size → k ≠ bn → w3.heap[k]? = w.heap[k]? := fun k hk hn => (ha.block k (Nat.lt_of_lt_of_le hk (by simp)) (fun g => hn (List.mem_singleton.1 g))).trans (hal.2 k hk)
  refine ⟨(e a hla n1).trans h.blk, (ha.block _ (by simp) (fun g => by have := List.mem_singleton.1 g; omega)).trans hal.1, own_keep h.row (fun g hg => e g (h.row.lt g hg).2 (fun q => n4 (by rw [hg, q]))), h.kept.keep (e bk hlk (fun q => h.ne q.symm)), ((Apart.refl [bn] w).alloc _).trans ha (fun x hx => .inl hx)⟩
theorem fodo_end {w w3 w5 : World} {a bn bk : Nat} {v : Value} {cs : List Chg} {l : List Ent} {c : Chg} {g cap : Nat} {W : World} (h : Fold w a bn bk v cs l) (hc : c.may (allE l cs)) (hm : MapE w3 bn (chgE (allE l cs) c)) (hk : MapE w3 bk l) (ha : Apart [bn] w w3)
    (hb : w3.heap[a]? = some (.cells #[.map (some bn), .map (some bk), v] 51 (0, 0)))
    (hW : Below w3.heap.size w3 W) (hg : W.grownBy w5 v.ownBlock) (hown : w5.ownsRow 0 60 4 (.slice (some ⟨g, 0, none⟩) (cs.length + 1) cap) (cs.length + 1) (Chg.flat cs ++ [.int .i64 c.kind, .string c.name, .string c.dest, .int .i64 c.id])) (hat : v.ownBlock = some g ∨ g = W.heap.size) :
    ∃ v', Fold (w5.setCell ⟨a, 2, none⟩ (.slice (some ⟨g, 0, none⟩) (cs.length + 1) cap)) a bn bk v' (cs ++ [c]) l ∧ Apart (foS a bn bk v) w (w5.setCell ⟨a, 2, none⟩ (.slice (some ⟨g, 0, none⟩) (cs.length + 1) cap)) ∧ ∀ q, v'.ownBlock = some q → v.ownBlock = some q ∨ w.heap.size ≤ q := by
  obtain ⟨n1, n2, n3, n4, n5⟩ := h.ab
  have hla : a < w3.heap.size := lt_of_block hb
  have hln := hm.lt
  have hlk := hk.lt
  have e : ∀ k, k < w3.heap.size → v.ownBlock ≠ some k → w5.heap[k]? = w3.heap[k]? := fun k hk hn => (hg.block k (Nat.lt_of_lt_of_le hk hW.size) (fun q => hn q.symm)).trans (hW.block k hk)
  have hb5 : w5.heap[a]? = some (.cells #[.map (some bn), .map (some bk), v] 51 (0, 0)) := (e a hla n3).trans hb
  have hga : g ≠ a := fun q => by
    obtain ⟨cur, hc⟩ := own_cells hown (g := g) rfl
    rw [q, hb5] at hc
    exact absurd (Obj.cells.inj (Option.some.inj hc)).2.1 (by decide)
  have hs : ∀ k, k ≠ a → (w5.setCell ⟨a, 2, none⟩ (.slice (some ⟨g, 0, none⟩) (cs.length + 1) cap)).heap[k]? = w5.heap[k]? := fun k hk => Below.heap_setCell _ _ _ k (fun q => hk q)
  refine ⟨.slice (some ⟨g, 0, none⟩) (cs.length + 1) cap, ⟨?_, ?_, ?_, ?_, h.ne, h.oke, mays_snoc cs h.may hc, fun q => absurd q (by simp)⟩, ?_, ?_⟩
  · simp [World.setCell, Array.getElem?_modify, hb5]
  · have : allE l (cs ++ [c]) = chgE (allE l cs) c := by unfold allE; rw [List.foldl_append]; rfl
    rw [this]
    exact hm.keep ((hs bn (fun q => n1 q.symm)).trans (e bn hln n4))
  · exact hk.keep ((hs bk (fun q => n2 q.symm)).trans (e bk hlk n5))
  · rw [List.length_append, Chg.flat_app]
    exact own_keep hown (fun q hq => hs q (by cases hq; exact hga))
  · have a1 : Apart (foS a bn bk v) w w3 := ha.more (fun x hx => (foS_mem x).2 (.inr (.inl (List.mem_singleton.1 hx))))
    have a2 : Apart (foS a bn bk v) w3 W := .of_below hW
    have a3 : Apart (foS a bn bk v) W w5 := ⟨hg.os, hg.tape, hg.output, hg.size, fun k hk hn => hg.block k hk (fun q => hn ((foS_mem k).2 (.inr (.inr (.inr q.symm)))))⟩
    exact ((a1.trans a2 (fun x hx => .inl hx)).trans a3 (fun x hx => .inl hx)).setCell (.inl ((foS_mem a).2 (.inl rfl))) _
  · intro q hq
    cases hq
    rcases hat with r | r
    · exact .inl r
    · exact .inr (by rw [r]; exact Nat.le_trans ha.size hW.size)

set_option maxRecDepth 100000 in
set_option maxHeartbeats 1600000 in
theorem fodo_any {w : World} {a bn bk : Nat} {v : Value} {cs : List Chg} {l : List Ent} (h : Fold w a bn bk v cs l) (hn : (allE l cs).length ≤ 1000000) (hcs : cs.length ≤ 1000000) (c : Chg) (hc : c.may (allE l cs)) :
    Calls Try.prog 28 #[.pointer (some ⟨a, 0, none⟩), c.v] w fun e w' => e = .returned (.tuple #[]) ∧ ∃ v', Fold w' a bn bk v' (cs ++ [c]) l ∧ Apart (foS a bn bk v) w w' ∧ ∀ g, v'.ownBlock = some g → v.ownBlock = some g ∨ w.heap.size ≤ g := by
  obtain ⟨i0, hi⟩ : ∃ i, Try.prog.info? 60 = some i := by
    have := chg_info
    cases hq : Try.prog.info? 60 with
    | none => rw [hq] at this; cases this
    | some i => exact ⟨i, rfl⟩
  have hinf := chg_info
  rw [hi] at hinf
  simp only [Option.map_some, Option.some.injEq, Prod.mk.injEq] at hinf
  obtain ⟨hz0, hz1, hz2⟩ := hinf
  have hokn := okE_all cs h.oke h.may
  obtain ⟨kd, s, d, n⟩ := c
  obtain ⟨c0, c1, c2, f0, f1, f2⟩ := blk3 h.blk
  have CM := Lib.hid (comake_any (w := (w.alloc (.cells #[.int .i64 kd, .string s, .string d, .int .i64 n] 60)).drew) (h.now.box (.cells #[.int .i64 kd, .string s, .string d, .int .i64 n] 60)) hokn hn ⟨kd, s, d, n⟩ hc)
  have H := Lib.hid h; have HC := Lib.hid hc; have HK := Lib.hid hcs
  clear h hc hokn hn hcs
  go_enter Try.func28, Try.ntmps28
  go_wp2
  have hb0 : (w.alloc (.cells #[.int .i64 kd, .string s, .string d, .int .i64 n] 60)).heap[a]? = some (.cells #[.map (some bn), .map (some bk), v] 51 (0, 0)) := (Below.heap_alloc _ _ a (lt_of_block H.out.blk)).trans H.out.blk
  have hb1 : (w.alloc (.cells #[.int .i64 kd, .string s, .string d, .int .i64 n] 60)).heap[w.heap.size]? = some (.cells #[.int .i64 kd, .string s, .string d, .int .i64 n] 60 (0, 0)) := (MapKept.heap_alloc w _).1
  obtain ⟨d0, d1, d2, g0, g1, g2⟩ := blk3 hb0
  obtain ⟨x0, x1, x2, x3, y0, y1, y2, y3⟩ := blk4 hb1
  clear hb0 hb1 c0 c1 c2 f0 f1 f2
  obtain ⟨w1, hw1⟩ : ∃ w1, w1 = w.alloc (.cells #[.int .i64 kd, .string s, .string d, .int .i64 n] 60) := ⟨_, rfl⟩
  have HW1 := Lib.hid hw1
  rw [← hw1] at d0 d1 d2 g0 g1 g2 x0 x1 x2 x3 y0 y1 y2 y3 CM ⊢
  clear hw1
  go_still_tail 5, (by kernel_rfl)
  change wpList _ _ _ _ _ w1.drew
  go_wp2_with fail
  refine CM.out.mono ?_
  rintro e w3 ⟨rfl, hm3, ha3⟩
  clear d0 d1 d2 g0 g1 g2 x0 x1 x2 x3 y0 y1 y2 y3
  rw [HW1.out] at ha3
  have ha3 : Apart [bn] (w.alloc (.cells #[.int .i64 kd, .string s, .string d, .int .i64 n] 60)) w3 := ⟨ha3.os, ha3.tape, ha3.output, ha3.size, ha3.block⟩
  obtain ⟨b1, b2, b3, b4, b5⟩ := fodo_mid (c := ⟨kd, s, d, n⟩) H.out HC.out hm3 ha3
  obtain ⟨d0, d1, d2, g0, g1, g2⟩ := blk3 b1
  obtain ⟨x0, x1, x2, x3, y0, y1, y2, y3⟩ := blk4 b2
  have b1' : (w3.alloc (.cells #[.int .i64 kd, .string s, .string d, .int .i64 n] 60)).heap[a]? = some (.cells #[.map (some bn), .map (some bk), v] 51 (0, 0)) := (Below.heap_alloc _ _ a (lt_of_block b1)).trans b1
  have b2' : (w3.alloc (.cells #[.int .i64 kd, .string s, .string d, .int .i64 n] 60)).heap[w.heap.size]? = some (.cells #[.int .i64 kd, .string s, .string d, .int .i64 n] 60 (0, 0)) := (Below.heap_alloc _ _ _ (lt_of_block b2)).trans b2
  obtain ⟨e0, e1, e2, k0, k1, k2⟩ := blk3 b1'
  obtain ⟨z0, z1, z2, z3, q0, q1, q2, q3⟩ := blk4 b2'
  have ho2 : ((w3.alloc (.cells #[.int .i64 kd, .string s, .string d, .int .i64 n] 60)).drew).ownsRow 0 60 4 v cs.length (Chg.flat cs) := b3.alloc _
  have hnw := news_chg w3 kd n s d 60
  obtain ⟨n1, n2, n3, n4, n5⟩ := H.out.ab
  have hla : a < (w3.alloc (.cells #[.int .i64 kd, .string s, .string d, .int .i64 n] 60)).drew.heap.size := lt_of_block b1'
  have HM3 := Lib.hid hm3; have B1 := Lib.hid b1; have B3 := Lib.hid b3; have B4 := Lib.hid b4; have B5 := Lib.hid b5; have HO2 := Lib.hid ho2; have NW := Lib.hid hnw; have N3 := Lib.hid n3; have HLA := Lib.hid hla; have E2 := Lib.hid e2; have K2 := Lib.hid k2
  clear hm3 ha3 b1 b2 b3 b4 b5 b1' b2' ho2 hnw n1 n2 n3 n4 n5 hla CM
  go_wp2
  go_region_law (refine step_append_lies _ rfl (.tmp 14) (.tmp 16) 49 rfl 0 60 i0 _ 4 48 Try.underlying49 hi hz0 hz1 hz2 rfl (by decide) v cs.length _ (by simp [Act.eval]) HO2.out ⟨w3.heap.size, 0, none⟩ 1 1 [.int .i64 kd, .string s, .string d, .int .i64 n] (by simp [Act.eval]) rfl NW.out (one_chg _ _ _ _) (by omega) (by have := HK.out; unfold maxLen; omega) (by have := HK.out; omega) (Nat.zero_le _) _ rfl ?_; intro g cap w5 hown hgrow hat _; have m2 := (hgrow.cell_far ⟨a, 2, none⟩ HLA.out (fun q => N3.out q.symm)).trans E2.out; have o2 := (hgrow.frozen_far ⟨a, 2, none⟩ HLA.out (fun q => N3.out q.symm)).trans K2.out)
  all_goals
    go_simp
    go_wp2
    go_end0
    exact ⟨rfl, fodo_end H.out HC.out HM3.out B4.out B5.out B1.out (((Below.refl _ w3).alloc (Nat.le_refl _) _).drew) hgrow hown hat⟩

set_option maxRecDepth 100000 in
set_option maxHeartbeats 400000 in
theorem foput_f {w : World} {a bn bk : Nat} {v : Value} {cs : List Chg} {l : List Ent} (h : Fold w a bn bk v cs l) (hn : (allE l cs).length ≤ 1000000) (hcs : cs.length ≤ 1000000) (s : ByteArray) (hs : s.size ≤ maxLen) (n : Int) (h0 : -9223372036854775808 ≤ n) (h1 : n ≤ 9223372036854775807) :
    Calls Try.prog 10 #[.pointer (some ⟨a, 0, none⟩), .string s, .int .i64 n] w fun e w' => e = .returned (.bool (!(findE (allE l cs) s).isSome)) ∧
      ((findE (allE l cs) s).isSome = true ∧ w = w' ∨ (findE (allE l cs) s).isSome = false ∧ ∃ v', Fold w' a bn bk v' (cs ++ [⟨0, s, ByteArray.empty, n⟩]) l ∧ Apart (foS a bn bk v) w w' ∧ ∀ g, v'.ownBlock = some g → v.ownBlock = some g ∨ w.heap.size ≤ g) := by
  have CM := Lib.hid (fomade_yes h)
  have CH := Lib.hid (fohas_f h hs)
  have CD := fun (hf : (findE (allE l cs) s).isSome = false) => fodo_any h hn hcs ⟨0, s, ByteArray.empty, n⟩ ⟨⟨hs, by show 0 ≤ maxLen; exact Nat.zero_le _, h0, h1⟩, .inl ⟨rfl, hf⟩⟩
  generalize hq : (findE (allE l cs) s).isSome = q at *
  clear h hn hcs hs hq
  cases q with
  | true =>
    clear CD
    go_enter Try.func10, Try.ntmps10
    go_wp2_with (first
      | (go_at_call 24; refine CM.out.mono ?_; rintro e w' ⟨rfl, rfl⟩)
      | (go_at_call 27; refine CH.out.mono ?_; rintro e w' ⟨rfl, rfl⟩))
    go_ret
    exact ⟨rfl, .inl ⟨by trivial, rfl⟩⟩
  | false =>
    have CE := Lib.hid (CD rfl)
    clear CD
    go_enter Try.func10, Try.ntmps10
    go_wp2_with (first
      | (go_at_call 24; refine CM.out.mono ?_; rintro e w' ⟨rfl, rfl⟩)
      | (go_at_call 27; refine CH.out.mono ?_; rintro e w' ⟨rfl, rfl⟩)
      | (go_at_call 28; refine CE.out.mono ?_; rintro e w2 ⟨rfl, hr⟩))
    go_ret
    exact ⟨rfl, .inr ⟨by trivial, hr⟩⟩
set_option maxRecDepth 100000 in
set_option maxHeartbeats 400000 in
theorem fodrop_f {w : World} {a bn bk : Nat} {v : Value} {cs : List Chg} {l : List Ent} (h : Fold w a bn bk v cs l) (hn : (allE l cs).length ≤ 1000000) (hcs : cs.length ≤ 1000000) (s : ByteArray) (hs : s.size ≤ maxLen) :
    Calls Try.prog 20 #[.pointer (some ⟨a, 0, none⟩), .string s] w fun e w' => e = .returned (.bool (findE (allE l cs) s).isSome) ∧
      ((findE (allE l cs) s).isSome = false ∧ w = w' ∨ (findE (allE l cs) s).isSome = true ∧ ∃ v', Fold w' a bn bk v' (cs ++ [⟨1, s, ByteArray.empty, 0⟩]) l ∧ Apart (foS a bn bk v) w w' ∧ ∀ g, v'.ownBlock = some g → v.ownBlock = some g ∨ w.heap.size ≤ g) := by
  have CH := Lib.hid (fohas_f h hs)
  have CD := Lib.hid (fodo_any h hn hcs ⟨1, s, ByteArray.empty, 0⟩ ⟨⟨hs, by show 0 ≤ maxLen; exact Nat.zero_le _, by show (-9223372036854775808 : Int) ≤ 0; omega, by show (0 : Int) ≤ 9223372036854775807; omega⟩, .inr (.inl rfl)⟩)
  generalize hq : (findE (allE l cs) s).isSome = q at *
  clear h hn hcs hs hq
  cases q with
  | false =>
    clear CD
    go_enter Try.func20, Try.ntmps20
    go_wp2_with (go_at_call 27; refine CH.out.mono ?_; rintro e w' ⟨rfl, rfl⟩)
    go_ret
    exact ⟨rfl, .inl ⟨by trivial, rfl⟩⟩
  | true =>
    go_enter Try.func20, Try.ntmps20
    go_wp2_with (first
      | (go_at_call 27; refine CH.out.mono ?_; rintro e w' ⟨rfl, rfl⟩)
      | (go_at_call 28; refine CD.out.mono ?_; rintro e w2 ⟨rfl, hr⟩))
    go_ret
    exact ⟨rfl, .inr ⟨by trivial, hr⟩⟩
set_option maxRecDepth 100000 in
set_option maxHeartbeats 400000 in
theorem fomove_f {w : World} {a bn bk : Nat} {v : Value} {cs : List Chg} {l : List Ent} (h : Fold w a bn bk v cs l) (hn : (allE l cs).length ≤ 1000000) (hcs : cs.length ≤ 1000000) (s d : ByteArray) (hs : s.size ≤ maxLen) (hd : d.size ≤ maxLen) :
    Calls Try.prog 17 #[.pointer (some ⟨a, 0, none⟩), .string s, .string d] w fun e w' => e = .returned (.bool (findE (allE l cs) s).isSome) ∧
      (((findE (allE l cs) s).isSome = false ∨ s = d) ∧ w = w' ∨ (findE (allE l cs) s).isSome = true ∧ s ≠ d ∧ ∃ v', Fold w' a bn bk v' (cs ++ [⟨2, s, d, 0⟩]) l ∧ Apart (foS a bn bk v) w w' ∧ ∀ g, v'.ownBlock = some g → v.ownBlock = some g ∨ w.heap.size ≤ g) := by
  have CH := Lib.hid (fohas_f h hs)
  have CD := fun (hf : (findE (allE l cs) s).isSome = true) (hne : s ≠ d) => fodo_any h hn hcs ⟨2, s, d, 0⟩ ⟨⟨hs, hd, by show (-9223372036854775808 : Int) ≤ 0; omega, by show (0 : Int) ≤ 9223372036854775807; omega⟩, .inr (.inr ⟨rfl, hf, hne⟩)⟩
  generalize hq : (findE (allE l cs) s).isSome = q at *
  clear h hn hcs hs hd hq
  cases q with
  | false =>
    clear CD
    go_enter Try.func17, Try.ntmps17
    go_wp2_with (go_at_call 27; refine CH.out.mono ?_; rintro e w' ⟨rfl, rfl⟩)
    go_ret
    exact ⟨rfl, .inl ⟨.inl (by trivial), rfl⟩⟩
  | true =>
    by_cases hne : s = d
    · subst hne
      clear CD
      have hb : (s.toList == s.toList) = true := beq_self_eq_true _
      go_enter Try.func17, Try.ntmps17
      go_wp2_with (go_at_call 27; refine CH.out.mono ?_; rintro e w' ⟨rfl, rfl⟩)
      go_ret
      exact ⟨rfl, .inl ⟨.inr (by trivial), rfl⟩⟩
    · have hb := str_ne hne
      have CE := Lib.hid (CD rfl hne)
      clear CD
      go_enter Try.func17, Try.ntmps17
      go_wp2_with (first
        | (go_at_call 27; refine CH.out.mono ?_; rintro e w' ⟨rfl, rfl⟩)
        | (go_at_call 28; refine CE.out.mono ?_; rintro e w2 ⟨rfl, hr⟩))
      go_ret
      exact ⟨rfl, .inr ⟨by trivial, hne, hr⟩⟩
end Go.Proofs.Ytpcbfkcpefcnjaa
