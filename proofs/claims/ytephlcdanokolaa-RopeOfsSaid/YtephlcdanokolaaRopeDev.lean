/-
  What a rope is in memory; contracts of the program's calls on ropes.
-/
import Derived.Test.YtephlcdanokolaaLawWeld
namespace Go.Proofs.Ytephlcdanokolaa
open Go.RowKit
set_option linter.unusedVariables false
set_option linter.unusedSimpArgs false

/-- A rope with that text: nil, or a block that holds its tree. -/
structure RopeW (w : World) (r p : Option Addr) (L : List ByteArray) (s : ByteArray) : Prop where
  x : Text w p L s
  at' : (r = none ∧ p = none) ∨ ∃ b, r = some ⟨b, 0, none⟩ ∧ b < w.heap.size ∧ w.cell? ⟨b, 0, none⟩ = some (.pointer p)
theorem RopeW.later {w w' : World} {r p : Option Addr} {L : List ByteArray} {s : ByteArray} (h : RopeW w r p L s) (hb : Below w.heap.size w w') : RopeW w' r p L s := by
  refine ⟨h.x.later hb, ?_⟩
  rcases h.at' with t | ⟨b, e, hl, hc⟩
  · exact .inl t
  · exact .inr ⟨b, e, Nat.lt_of_lt_of_le hl hb.size, (hb.cell (p := ⟨b, 0, none⟩) hl).trans hc⟩
theorem Text.none_empty {w : World} {L : List ByteArray} {s : ByteArray} (x : Text w none L s) : s = ⟨#[]⟩ ∧ L = [] := by
  rcases x.cases with ⟨-, rfl⟩ | ⟨b, h, e, -⟩
  · exact ⟨x.txt.symm, rfl⟩
  · cases e
theorem Text.empty (w : World) : Text w none [] ⟨#[]⟩ := ⟨.inl ⟨rfl, rfl⟩, tight_nil, rfl, Nat.zero_le _⟩
theorem RopeW.nil (w : World) : RopeW w none none [] ⟨#[]⟩ := ⟨.empty w, .inl ⟨rfl, rfl⟩⟩
theorem Text.count {w : World} {p : Option Addr} {L : List ByteArray} {s : ByteArray} (x : Text w p L s) : ∀ W, Below w.heap.size w W → Calls Try.prog 29 #[.pointer p] W fun e w' => e = .returned (cntV s.size (runes s.data.toList) (lines s.data.toList)) ∧ Below W.heap.size W w' := fun W hW => by
  have ht := x.txt
  rcases x.cases with ⟨rfl, rfl⟩ | ⟨b, h, rfl, k, -, hh⟩
  · rw [← ht]; exact count_nil W
  · obtain ⟨kv, -, hB⟩ := (KnotH.on k hW).cells
    rw [← ht]; exact count_blk hB
theorem edge_back (l : List UInt8) (p : Int) : edgeB l p = decide ((backI l p : Int) = p) := by
  unfold edgeB backI
  by_cases h0 : p < 0
  · rw [if_pos h0, decide_eq_false (by omega), decide_eq_false (by omega)]
  · rw [if_neg h0]
    by_cases h1 : (l.length : Int) < p
    · rw [if_pos h1, decide_eq_false (show ¬ (l.length : Int) = p by omega), decide_eq_false]
      rintro ⟨-, h⟩
      unfold edge at h
      omega
    · rw [if_neg h1]
      obtain ⟨k, rfl⟩ := Int.eq_ofNat_of_zero_le (Int.not_lt.1 h0)
      rw [Int.toNat_natCast]
      by_cases he : edge l k
      · rw [back_edge l k he]; simp [he]
      · rw [decide_eq_false (show ¬ (0 ≤ (k : Int) ∧ edge l k) from fun g => he g.2), decide_eq_false]
        intro g
        have g' : back l k = k := by omega
        exact he (g' ▸ back_is l k)
theorem edge_at {l : List UInt8} {p : Int} (h : edgeB l p = true) : backI l p = p.toNat ∧ 0 ≤ p ∧ p ≤ l.length := by
  rw [edge_back, decide_eq_true_eq] at h
  have := backI_le l p
  omega
theorem cnt_bytes (a b c : Int) (w : World) : (Instr.field 50 (cntV a b c) 0).run Try.prog w = .ok (.int .i64 a) w := by kernel_rfl

set_option maxRecDepth 100000 in
set_option maxHeartbeats 800000 in
theorem ro_root {w : World} {r p : Option Addr} {L : List ByteArray} {s : ByteArray} (h : RopeW w r p L s) :
    Calls Try.prog 21 #[.pointer r] w fun e w' => e = .returned (.pointer p) ∧ Below w.heap.size w w' := by
  rcases h.at' with ⟨rfl, rfl⟩ | ⟨b, rfl, hl, hc⟩
  · clear h
    go_enter Try.func21, Try.ntmps21
    go_wp2
    go_ret
    exact ⟨rfl, Below.refl _ _⟩
  · clear h
    go_enter Try.func21, Try.ntmps21
    go_wp2
    go_ret
    exact ⟨rfl, Below.refl _ _⟩

set_option maxRecDepth 100000 in
set_option maxHeartbeats 800000 in
theorem ro_text {w : World} {r p : Option Addr} {L : List ByteArray} {s : ByteArray} (h : RopeW w r p L s) :
    Calls Try.prog 17 #[.pointer r] w fun e w' => e = .returned (.string s) ∧ Below w.heap.size w w' := by
  have c1 := ro_root h
  have c2 := h.x.text
  have C1 := Lib.hid c1; have C2 := Lib.hid c2
  clear c1 c2 h
  go_enter Try.func17, Try.ntmps17
  go_wp2_with fail
  refine C1.out.mono ?_; rintro e w1 ⟨rfl, hb1⟩
  have HB1 := Lib.hid hb1
  clear hb1
  go_wp2_with fail
  refine (onward HB1.out (C2.out _ HB1.out)).mono ?_; rintro e w2 ⟨rfl, hb2⟩
  go_wp2
  go_ret
  exact ⟨rfl, hb2⟩

set_option maxRecDepth 100000 in
set_option maxHeartbeats 800000 in
theorem ro_count {w : World} {r p : Option Addr} {L : List ByteArray} {s : ByteArray} (h : RopeW w r p L s) :
    Calls Try.prog 23 #[.pointer r] w fun e w' => e = .returned (cntV s.size (runes s.data.toList) (lines s.data.toList)) ∧ Below w.heap.size w w' := by
  have hb0 : Below w.heap.size w (w.alloc (.cells #[.int .i64 0, .int .i64 0, .int .i64 0] 50)) := (Below.refl _ _).alloc (Nat.le_refl _) _
  have h1 := h.later hb0
  have c1 := ro_root h1
  have c2 := h1.x.count
  obtain ⟨n, hn⟩ : ∃ n : Int, (s.size : Int) = n := ⟨_, rfl⟩
  obtain ⟨x, hx⟩ : ∃ x : Int, (runes s.data.toList : Int) = x := ⟨_, rfl⟩
  obtain ⟨y, hy⟩ : ∃ y : Int, (lines s.data.toList : Int) = y := ⟨_, rfl⟩
  rw [hn, hx, hy] at c2 ⊢
  have C1 := Lib.hid c1; have C2 := Lib.hid c2
  clear c1 c2 h h1 hb0 hn hx hy
  go_enter Try.func23, Try.ntmps23
  go_wp2_with fail
  refine C1.out.mono ?_; rintro e w1 ⟨rfl, hb1⟩
  have HB1 := Lib.hid hb1
  clear hb1
  go_wp2_with fail
  refine (onward HB1.out (C2.out _ HB1.out)).mono ?_; rintro e w2 ⟨rfl, hb2⟩
  have hN : Blk w2 w.heap.size #[.int .i64 0, .int .i64 0, .int .i64 0] 50 := (Blk.new w _ _).onto hb2
  have g0 := hN.free 0
  have g1 := hN.free 1
  have g2 := hN.free 2
  have d0 := hN.cell 0 _ rfl
  have d1 := hN.cell 1 _ rfl
  have d2 := hN.cell 2 _ rfl
  have hlt := hN.lt
  go_wp2
  refine bodyPost_ret (v := cntV n x y) (by simp [results, Try.results23, go_sem, g0, g1, g2, d0, d1, d2]) rfl ⟨rfl, ?_⟩
  exact below_set3 (o := .cells #[.int .i64 0, .int .i64 0, .int .i64 0] 50) hb2 _ _ _

set_option maxRecDepth 100000 in
set_option maxHeartbeats 800000 in
theorem ro_len {w : World} {r p : Option Addr} {L : List ByteArray} {s : ByteArray} (h : RopeW w r p L s) :
    Calls Try.prog 18 #[.pointer r] w fun e w' => e = .returned (.int .i64 s.size) ∧ Below w.heap.size w w' := by
  have c1 := ro_count h
  have cf := cnt_bytes s.size (runes s.data.toList) (lines s.data.toList)
  obtain ⟨n, hn⟩ : ∃ n : Int, (s.size : Int) = n := ⟨_, rfl⟩
  obtain ⟨x, hx⟩ : ∃ x : Int, (runes s.data.toList : Int) = x := ⟨_, rfl⟩
  obtain ⟨y, hy⟩ : ∃ y : Int, (lines s.data.toList : Int) = y := ⟨_, rfl⟩
  rw [hn, hx, hy] at c1 cf
  rw [hn]
  have C1 := Lib.hid c1
  clear c1 h hn hx hy
  go_enter Try.func18, Try.ntmps18
  go_wp2_with fail
  refine C1.out.mono ?_; rintro e w1 ⟨rfl, hb1⟩
  go_wp2
  go_ret
  exact ⟨rfl, hb1⟩

set_option maxRecDepth 100000 in
set_option maxHeartbeats 800000 in
theorem ro_height {w : World} {r p : Option Addr} {L : List ByteArray} {s : ByteArray} {H : Int} (h : RopeW w r p L s) (c2 : ∀ W, Below w.heap.size w W → Calls Try.prog 26 #[.pointer p] W fun e w' => e = .returned (.int .i64 H) ∧ Below W.heap.size W w') :
    Calls Try.prog 20 #[.pointer r] w fun e w' => e = .returned (.int .i64 H) ∧ Below w.heap.size w w' := by
  have c1 := ro_root h
  have C1 := Lib.hid c1; have C2 := Lib.hid c2
  clear c1 c2 h
  go_enter Try.func20, Try.ntmps20
  go_wp2_with fail
  refine C1.out.mono ?_; rintro e w1 ⟨rfl, hb1⟩
  have HB1 := Lib.hid hb1
  clear hb1
  go_wp2_with fail
  refine (onward HB1.out (C2.out _ HB1.out)).mono ?_; rintro e w2 ⟨rfl, hb2⟩
  go_wp2
  go_ret
  exact ⟨rfl, hb2⟩

set_option maxRecDepth 100000 in
set_option maxHeartbeats 800000 in
theorem ro_right {w : World} {r p : Option Addr} {L : List ByteArray} {s : ByteArray} (h : RopeW w r p L s) :
    Calls Try.prog 19 #[.pointer r] w fun e w' => e = .returned (.bool true) ∧ Below w.heap.size w w' := by
  have c1 := ro_root h
  have c2 := h.x.right
  have c3 := h.x.wtight
  have C1 := Lib.hid c1; have C2 := Lib.hid c2; have C3 := Lib.hid c3
  clear c1 c2 c3 h
  go_enter Try.func19, Try.ntmps19
  go_wp2_with fail
  refine C1.out.mono ?_; rintro e w1 ⟨rfl, hb1⟩
  have HB1 := Lib.hid hb1
  clear hb1
  go_wp2_with fail
  refine (onward HB1.out (C2.out _ HB1.out)).mono ?_; rintro e w2 ⟨rfl, hb2⟩
  have HB2 := Lib.hid hb2
  clear hb2
  go_wp2_with fail
  refine (onward HB2.out (C3.out _ HB2.out)).mono ?_; rintro e w3 ⟨rfl, hb3⟩
  go_wp2
  go_ret
  exact ⟨rfl, hb3⟩

/-- Both sides' method values. -/
abbrev aheadV (r : Option Addr) : Value := .func (.func 43) #[.pointer r] #[]
abbrev behindV (r : Option Addr) : Value := .func (.func 44) #[.pointer r] #[]
set_option maxRecDepth 100000 in
set_option maxHeartbeats 800000 in
theorem ro_sides (r : Option Addr) (w : World) :
    Calls Try.prog 28 #[.pointer r] w fun e w' => e = .returned (.tuple #[aheadV r, behindV r]) ∧ w' = w := by
  have hmf : ∀ (fn : Fn) (first cap : Array Value) (w : World), (Instr.makeFunc fn first cap).run Try.prog w = .ok (.func fn first cap) w := fun _ _ _ _ => rfl
  go_enter Try.func28, Try.ntmps28
  go_wp2
  go_ret2
  exact ⟨rfl, rfl⟩

set_option maxRecDepth 100000 in
set_option maxHeartbeats 800000 in
theorem ro_ahead {w : World} {r p : Option Addr} {L : List ByteArray} {s : ByteArray} {q : Int} (h : RopeW w r p L s) (hq : i64P q) :
    Calls Try.prog 43 #[.pointer r, .int .i64 q] w (RetText w (s.extract 0 (backI s.data.toList q))) := by
  have c1 := ro_root h
  have c2 : ∀ W, Below w.heap.size w W → Calls Try.prog 60 #[.pointer p, .int .i64 q] W (RetSplit W (s.extract 0 (backI s.data.toList q)) (s.extract (backI s.data.toList q) s.size)) := fun W hW => by
    have y := h.x.later hW
    have := split_any y.t y.tight (by rw [y.txt]; exact y.small) hq
    rwa [y.txt] at this
  have C1 := Lib.hid c1; have C2 := Lib.hid c2
  clear c1 c2 h
  go_enter Try.func43, Try.ntmps43
  go_wp2_with fail
  refine C1.out.mono ?_; rintro e w1 ⟨rfl, hb1⟩
  have HB1 := Lib.hid hb1
  clear hb1
  go_wp2_with fail
  refine (C2.out _ HB1.out).mono ?_; rintro e w2 ⟨p1, L1, p2, L2, rfl, t1, t2, h1, h2, x1, x2, hb2⟩
  have HR := Lib.hid (show RetText w (s.extract 0 (backI s.data.toList q)) (.returned (.pointer p1)) w2 from ⟨p1, L1, rfl, t1, h1, x1, HB1.out.trans (hb2.mono HB1.out.size)⟩)
  clear t1 t2 h1 h2 x1 x2 hb2
  go_wp2
  go_ret
  exact HR.out

set_option maxRecDepth 100000 in
set_option maxHeartbeats 800000 in
theorem ro_behind {w : World} {r p : Option Addr} {L : List ByteArray} {s : ByteArray} {q : Int} (h : RopeW w r p L s) (hq : i64P q) :
    Calls Try.prog 44 #[.pointer r, .int .i64 q] w (RetText w (s.extract (backI s.data.toList q) s.size)) := by
  have c1 := ro_root h
  have c2 : ∀ W, Below w.heap.size w W → Calls Try.prog 60 #[.pointer p, .int .i64 q] W (RetSplit W (s.extract 0 (backI s.data.toList q)) (s.extract (backI s.data.toList q) s.size)) := fun W hW => by
    have y := h.x.later hW
    have := split_any y.t y.tight (by rw [y.txt]; exact y.small) hq
    rwa [y.txt] at this
  have C1 := Lib.hid c1; have C2 := Lib.hid c2
  clear c1 c2 h
  go_enter Try.func44, Try.ntmps44
  go_wp2_with fail
  refine C1.out.mono ?_; rintro e w1 ⟨rfl, hb1⟩
  have HB1 := Lib.hid hb1
  clear hb1
  go_wp2_with fail
  refine (C2.out _ HB1.out).mono ?_; rintro e w2 ⟨p1, L1, p2, L2, rfl, t1, t2, h1, h2, x1, x2, hb2⟩
  have HR := Lib.hid (show RetText w (s.extract (backI s.data.toList q) s.size) (.returned (.pointer p2)) w2 from ⟨p2, L2, rfl, t2, h2, x2, HB1.out.trans (hb2.mono HB1.out.size)⟩)
  clear t1 t2 h1 h2 x1 x2 hb2
  go_wp2
  go_ret
  exact HR.out

set_option maxRecDepth 100000 in
set_option maxHeartbeats 800000 in
theorem ro_edge {w : World} {r p : Option Addr} {L : List ByteArray} {s : ByteArray} {q : Int} (h : RopeW w r p L s) (hq : i64P q) :
    Calls Try.prog 11 #[.pointer r, .int .i64 q] w fun e w' => e = .returned (.bool (edgeB s.data.toList q)) ∧ Below w.heap.size w w' := by
  have c1 := ro_sides r w
  have c2 := ro_ahead h hq
  have hle := backI_le s.data.toList q
  have hlen : s.data.toList.length = s.size := by simp
  have hz := piece_size s (backI s.data.toList q) (by omega)
  have hsm := h.x.small
  rw [edge_back]
  obtain ⟨n, hn⟩ : ∃ n, backI s.data.toList q = n := ⟨_, rfl⟩
  rw [hn] at c2 hz hle ⊢
  obtain ⟨t, ht⟩ : ∃ t, s.extract 0 n = t := ⟨_, rfl⟩
  rw [ht] at c2 hz
  have C1 := Lib.hid c1; have C2 := Lib.hid c2; have HZ := Lib.hid hz; have HSM := Lib.hid (show n ≤ 5000 by omega)
  clear c1 c2 hz h hle hlen hsm hn ht hq
  go_enter Try.func11, Try.ntmps11
  go_wp2_with fail
  refine C1.out.mono ?_; rintro e w1 ⟨rfl, rfl⟩
  go_wp2_with fail
  refine C2.out.mono ?_; rintro e w2 ⟨p1, L1, rfl, t1, h1, x1, hb2⟩
  have c3 := (show Text w2 p1 L1 t from ⟨t1, h1, x1, by have := HZ.out; have := HSM.out; omega⟩).count w2 (Below.refl _ _)
  rw [HZ.out] at c3
  have cf := cnt_bytes n (runes t.data.toList) (lines t.data.toList)
  obtain ⟨x, hx⟩ : ∃ x : Int, (runes t.data.toList : Int) = x := ⟨_, rfl⟩
  obtain ⟨y, hy⟩ : ∃ y : Int, (lines t.data.toList : Int) = y := ⟨_, rfl⟩
  rw [hx, hy] at c3 cf
  have C3 := Lib.hid c3; have HB2 := Lib.hid hb2
  clear c3 t1 h1 x1 hx hy hb2
  go_wp2_with fail
  refine (onward HB2.out C3.out).mono ?_; rintro e w3 ⟨rfl, hb3⟩
  go_wp2
  go_ret
  exact ⟨by first | rfl | exact ret_bool rfl | (trace_state; exact ret_bool (by simp [beq_eq_decide])), hb3⟩

theorem Text.made {w : World} {s : ByteArray} {p : Option Addr} {L : List ByteArray} (t : Tr w [] p L) (hT : TightP L) (h : wholeL L = s) (hs : s.size ≤ 5000) : Text w p L s := ⟨t, hT, h, hs⟩
/-- A rope is answered. -/
def RetPut (w : World) (s : ByteArray) (e : Ending) (w' : World) : Prop := ∃ b p L, e = .returned (.pointer (some ⟨b, 0, none⟩)) ∧ RopeW w' (some ⟨b, 0, none⟩) p L s ∧ Below w.heap.size w w'
set_option maxRecDepth 100000 in
set_option maxHeartbeats 1600000 in
theorem ro_put {w : World} {r p : Option Addr} {L : List ByteArray} {s x : ByteArray} {i j : Int} (h : RopeW w r p L s) (hi : i64P i) (hj : i64P j) (hx : vld x.data.toList) (hz : backI s.data.toList i + x.size + (s.size - backI s.data.toList j) ≤ 5000) :
    Calls Try.prog 33 #[.pointer r, .int .i64 i, .string x, .int .i64 j] w (RetPut w (s.extract 0 (backI s.data.toList i) ++ x ++ s.extract (backI s.data.toList j) s.size)) := by
  have c1 := ro_sides r w
  have c2 := ro_ahead h hi
  have c3 := of_any x (by omega)
  have c4 := fun W (hW : Below w.heap.size w W) => ro_behind (h.later hW) hj
  have hle := backI_le s.data.toList i
  have hlen : s.data.toList.length = s.size := by simp
  have z1 := piece_size s (backI s.data.toList i) (by omega)
  have z2 := rest_size s (backI s.data.toList j)
  obtain ⟨u, hu⟩ : ∃ u, s.extract 0 (backI s.data.toList i) = u := ⟨_, rfl⟩
  obtain ⟨v, hv⟩ : ∃ v, s.extract (backI s.data.toList j) s.size = v := ⟨_, rfl⟩
  rw [hu] at c2 z1 ⊢
  rw [hv] at c4 z2 ⊢
  have hzz : u.size + x.size + v.size ≤ 5000 := by omega
  have C1 := Lib.hid c1; have C2 := Lib.hid c2; have C3 := Lib.hid c3; have C4 := Lib.hid c4; have HZ := Lib.hid hzz; have HX := Lib.hid hx
  clear c1 c2 c3 c4 hzz hx h hi hj hz hle hlen z1 z2 hu hv
  go_enter Try.func33, Try.ntmps33
  go_wp2_with fail
  refine C1.out.mono ?_; rintro e w1 ⟨rfl, rfl⟩
  go_wp2_with fail
  refine C2.out.mono ?_; rintro e w2 ⟨p1, L1, rfl, t1, h1, x1, hb2⟩
  have HT1 := Lib.hid (Text.made t1 h1 x1 (by have := HZ.out; omega)); have HB2 := Lib.hid hb2
  clear t1 h1 x1 hb2
  go_wp2_with fail
  refine (C3.out _).mono ?_; rintro e w3 ⟨p2, L2, rfl, t2, h2, x2, -, hb3⟩
  have HT2 := Lib.hid (Text.made t2 h2 (x2 HX.out) (by have := HZ.out; omega)); have HT3 := Lib.hid (HT1.out.later hb3); have HB3 := Lib.hid (HB2.out.trans (hb3.mono HB2.out.size))
  clear t2 h2 x2 hb3
  have cc := concat_any HT3.out.t HT2.out.t HT3.out.tight HT2.out.tight (by rw [whole_szs, HT3.out.txt, HT2.out.txt]; have := HZ.out; omega)
  rw [HT3.out.txt, HT2.out.txt] at cc
  have CC := Lib.hid cc
  clear cc
  go_wp2_with fail
  refine CC.out.mono ?_; rintro e w4 ⟨p4, L4, rfl, t4, h4, x4, hb4⟩
  have HT4 := Lib.hid (Text.made t4 h4 x4 (by rw [ByteArray.size_append]; have := HZ.out; omega)); have HB4 := Lib.hid (HB3.out.trans (hb4.mono HB3.out.size))
  clear t4 h4 x4 hb4
  go_wp2_with fail
  refine (C4.out _ HB4.out).mono ?_; rintro e w5 ⟨p5, L5, rfl, t5, h5, x5, hb5⟩
  have HT5 := Lib.hid (Text.made t5 h5 x5 (by have := HZ.out; omega)); have HT6 := Lib.hid (HT4.out.later hb5); have HB5 := Lib.hid (HB4.out.trans (hb5.mono HB4.out.size))
  clear t5 h5 x5 hb5
  have cc := concat_any HT6.out.t HT5.out.t HT6.out.tight HT5.out.tight (by rw [whole_szs, HT6.out.txt, HT5.out.txt, ByteArray.size_append]; have := HZ.out; omega)
  rw [HT6.out.txt, HT5.out.txt] at cc
  have CC2 := Lib.hid cc
  clear cc
  go_wp2_with fail
  refine CC2.out.mono ?_; rintro e w6 ⟨p6, L6, rfl, t6, h6, x6, hb6⟩
  have HT7 := Lib.hid (Text.made t6 h6 x6 (by rw [ByteArray.size_append, ByteArray.size_append]; have := HZ.out; omega)); have HB6 := Lib.hid (HB5.out.trans (hb6.mono HB5.out.size))
  clear t6 h6 x6 hb6
  go_wp2
  go_ret
  have hb7 : Below w6.heap.size w6 (w6.alloc (.cells #[.pointer p6] 46)) := (Below.refl _ _).alloc (Nat.le_refl _) _
  exact ⟨_, p6, L6, rfl, ⟨HT7.out.later hb7, .inr ⟨_, rfl, by simp, (Blk.new w6 _ _).cell 0 _ rfl⟩⟩, HB6.out.trans (hb7.mono HB6.out.size)⟩
end Go.Proofs.Ytephlcdanokolaa
