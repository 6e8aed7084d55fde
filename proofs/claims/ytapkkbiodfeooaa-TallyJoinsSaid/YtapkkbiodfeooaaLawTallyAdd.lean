/-
  The walk of the law TallyAdds.
-/
import Derived.Test.YtapkkbiodfeooaaLawTally
import Derived.Deep.RegionHeld3
import Derived.Deep.DrawnRows
import Derived.Deep.DeepFit
namespace Go.Proofs.Ytapkkbiodfeooaa
open Go.RowKit
attribute [local go_sem ↓] Go.wp_at_zero Go.wp_at_succ

def Cnt.minus (x y : Cnt) : Cnt := ⟨wrap64 (x.b - y.b), wrap64 (x.r - y.r), wrap64 (x.l - y.l)⟩
def Cnt.fits (x : Cnt) : Prop := (-9223372036854775808 ≤ x.b ∧ x.b ≤ 9223372036854775807) ∧ (-9223372036854775808 ≤ x.r ∧ x.r ≤ 9223372036854775807) ∧ (-9223372036854775808 ≤ x.l ∧ x.l ≤ 9223372036854775807)
theorem back_wrap (a b : Int) (h : -9223372036854775808 ≤ a ∧ a ≤ 9223372036854775807) : wrap64 (wrap64 (wrap64 (0 + a) + b) - b) = a := by
  unfold wrap64; omega
theorem plus_minus (x y : Cnt) (h : x.fits) : (Cnt.sum [x, y]).minus y = x := by
  obtain ⟨h1, h2, h3⟩ := h
  unfold Cnt.sum Cnt.minus
  simp only [List.foldl, Cnt.plus]
  rw [back_wrap _ _ h1, back_wrap _ _ h2, back_wrap _ _ h3]

theorem tsub_cnt (x y : Cnt) (w : World) : Calls Try.prog 13 #[cntV x.b x.r x.l, cntV y.b y.r y.l] w fun e w' => e = .returned (cntV (x.minus y).b (x.minus y).r (x.minus y).l) ∧ Below w.heap.size w w' := tsub_any _ _ _ _ _ _ w
theorem rtsub_cnt (x y : Cnt) (w : World) : Calls Try.prog 14 #[cntV x.b x.r x.l, cntV y.b y.r y.l] w fun e w' => e = .returned (cntV (x.minus y).b (x.minus y).r (x.minus y).l) ∧ Below w.heap.size w w' := rtsub_any _ _ _ _ _ _ w

/-- Two counts in a new row. -/
theorem cnts_new (w : World) (x y : Cnt) (t : TypeId) (B : Nat) (hB : w.heap.size < B) : Cnts (w.alloc (.cells #[.int .i64 x.b, .int .i64 x.r, .int .i64 x.l, .int .i64 y.b, .int .i64 y.r, .int .i64 y.l] t)) B (some ⟨w.heap.size, 0, none⟩) [x, y] := by
  intro k hk
  have : k = 0 ∨ k = 1 := by simp at hk; omega
  rcases this with rfl | rfl
  · refine ⟨_, rfl, hB, ?_, ?_, ?_⟩ <;> simp [Addr.add, World.cell?_alloc_new]
  · refine ⟨_, rfl, hB, ?_, ?_, ?_⟩ <;> simp [Addr.add, World.cell?_alloc_new]

theorem onwards {P : Program} {f : FuncId} {args : Array Value} {v : Value} {w0 w : World} (h : Below w0.heap.size w0 w)
    (c : Calls P f args w fun e w' => e = .returned v ∧ Below w.heap.size w w') : Calls P f args w fun e w' => e = .returned v ∧ Below w0.heap.size w0 w' ∧ Below w.heap.size w w' :=
  c.mono fun _ _ ⟨he, hb⟩ => ⟨he, h.trans (hb.mono h.size), hb⟩

/-- What the law's great test leans on: both counts lie in the blocks laid for them, and below these nothing has turned. -/
def Two (w : World) (x y : Cnt) (w' : World) : Prop :=
  Below w.heap.size w w' ∧ w.heap.size + 2 ≤ w'.heap.size ∧ w'.cell? ⟨w.heap.size, 0, none⟩ = some (.int .i64 x.b) ∧ w'.cell? ⟨w.heap.size, 1, none⟩ = some (.int .i64 x.r) ∧ w'.cell? ⟨w.heap.size, 2, none⟩ = some (.int .i64 x.l) ∧ w'.cell? ⟨w.heap.size + 1, 0, none⟩ = some (.int .i64 y.b) ∧ w'.cell? ⟨w.heap.size + 1, 1, none⟩ = some (.int .i64 y.r) ∧ w'.cell? ⟨w.heap.size + 1, 2, none⟩ = some (.int .i64 y.l)
theorem two_start (w : World) (x y : Cnt) (t t' : TypeId) : Two w x y ((w.alloc (.cells #[.int .i64 x.b, .int .i64 x.r, .int .i64 x.l] t)).alloc (.cells #[.int .i64 y.b, .int .i64 y.r, .int .i64 y.l] t')).drew := by
  refine ⟨(((Below.refl _ _).alloc (Nat.le_refl _) _).alloc (by simp) _).drew, by show _ ≤ ((w.alloc _).alloc _).heap.size; simp, ?_, ?_, ?_, ?_, ?_, ?_⟩ <;> simp [World.cell?_alloc_past, World.cell?_alloc_at]
theorem two_call {w w' w1 : World} {x y : Cnt} (h : Two w x y w') (hb : Below w'.heap.size w' w1) : Two w x y w1 := by
  obtain ⟨h0, hz, h1, h2, h3, h4, h5, h6⟩ := h
  refine ⟨h0.trans (hb.mono h0.size), Nat.le_trans hz hb.size, (hb.cell ?_).trans h1, (hb.cell ?_).trans h2, (hb.cell ?_).trans h3, (hb.cell ?_).trans h4, (hb.cell ?_).trans h5, (hb.cell ?_).trans h6⟩ <;> first | (show w.heap.size < w'.heap.size; omega) | (show w.heap.size + 1 < w'.heap.size; omega)
theorem two_alloc {w w' : World} {x y : Cnt} (h : Two w x y w') (o : Obj) : Two w x y (w'.alloc o) := two_call h ((Below.refl _ _).alloc (Nat.le_refl _) o)

theorem two_cnts {w w' : World} {x y : Cnt} {a : Option Addr} {l : List Cnt} (hr : Cnts w w.heap.size a l) (h : Two w x y w') : Cnts w' w'.heap.size a l := (hr.below h.1).more h.1.size

set_option maxRecDepth 100000 in
set_option maxHeartbeats 1000000 in
theorem tallyAdds_walk (a : Option Addr) (l : List Cnt) (c : Nat) (x y : Cnt) (w : World) (hr : Cnts w w.heap.size a l) (hx : x.fits) (_hy : y.fits) :
    Calls Try.prog 4 #[.slice a l.length c, cntV x.b x.r x.l, cntV y.b y.r y.l] w fun e w' => e = .returned (.bool true) ∧ Below w.heap.size w w' := by
  by_cases hl : l.length ≤ 50
  · obtain ⟨n, hn⟩ : ∃ n, l.length = n := ⟨_, rfl⟩
    have c1 := tadd_any a l c (by omega)
    have c2 := rtadd_any a l c (by omega)
    have c3 := tsub_cnt x y
    have c4 := rtsub_cnt x y
    have c5 : ∀ (g : Nat) (w : World), Cnts w w.heap.size (some ⟨g, 0, none⟩) [x, y] → Calls Try.prog 11 #[.slice (some ⟨g, 0, none⟩) 2 2] w fun e w' => e = .returned (cntV (Cnt.sum [x, y]).b (Cnt.sum [x, y]).r (Cnt.sum [x, y]).l) ∧ Below w.heap.size w w' :=
      fun g => tadd_any (some ⟨g, 0, none⟩) [x, y] 2 (by simp)
    have c6 := tsub_cnt (Cnt.sum [x, y]) y
    rw [plus_minus x y hx] at c6
    rw [hn] at c1 c2 hl ⊢
    obtain ⟨z, hz⟩ : ∃ z, Cnt.sum l = z := ⟨_, rfl⟩
    obtain ⟨u, hu⟩ : ∃ z, Cnt.sum [x, y] = z := ⟨_, rfl⟩
    rw [hz] at c1 c2
    rw [hu] at c5 c6
    have C1 := Lib.hid c1; have C2 := Lib.hid c2; have C3 := Lib.hid c3; have C4 := Lib.hid c4; have C5 := Lib.hid c5; have C6 := Lib.hid c6; have HR := Lib.hid hr
    clear c1 c2 c3 c4 c5 c6 hn hz hu hr hx _hy
    go_enter Try.func4, Try.ntmps4
    go_wp2_with fail
    go_region_held3 (fun w' => Below w.heap.size w w' ∧ w.heap.size + 2 ≤ w'.heap.size ∧ w'.cell? ⟨w.heap.size, 0, none⟩ = some (.int .i64 x.b) ∧ w'.cell? ⟨w.heap.size, 1, none⟩ = some (.int .i64 x.r) ∧ w'.cell? ⟨w.heap.size, 2, none⟩ = some (.int .i64 x.l) ∧ w'.cell? ⟨w.heap.size + 1, 0, none⟩ = some (.int .i64 y.b) ∧ w'.cell? ⟨w.heap.size + 1, 1, none⟩ = some (.int .i64 y.r) ∧ w'.cell? ⟨w.heap.size + 1, 2, none⟩ = some (.int .i64 y.l))
      (first | exact two_start _ _ _ _ _ | exact two_call (by assumption) hb1 | exact two_alloc (by assumption) _)
      (first
        | (go_at_call 13; (with_reducible refine (C3.out _).mono ?_); rintro e w1 ⟨rfl, hb1⟩)
        | (go_at_call 13; (with_reducible refine (C6.out _).mono ?_); rintro e w1 ⟨rfl, hb1⟩)
        | (go_at_call 14; (with_reducible refine (C4.out _).mono ?_); rintro e w1 ⟨rfl, hb1⟩)
        | (go_at_call 11; (with_reducible refine (C1.out _ ?_).mono ?_); exact two_cnts HR.out (by assumption); rintro e w1 ⟨rfl, hb1⟩)
        | (go_at_call 12; (with_reducible refine (C2.out _ ?_).mono ?_); exact two_cnts HR.out (by assumption); rintro e w1 ⟨rfl, hb1⟩)
        | (go_at_call 11; (with_reducible refine (C5.out _ _ ?_).mono ?_); exact cnts_new _ _ _ _ _ (by simp); rintro e w1 ⟨rfl, hb1⟩)
        | (go_at_call 6; refine (lives4_any _).mono ?_; rintro e w1 ⟨rfl, hb1⟩))
    go_wp2
    go_ret
    exact ⟨by simp, (show Two w x y w1 by assumption).1⟩
  · have hg : 50 < l.length := by omega
    clear hl hr
    go_enter Try.func4, Try.ntmps4
    go_wp2_with fail
    refine (lives4_any _).mono ?_; rintro e w1 ⟨rfl, hb1⟩
    go_wp2
    go_ret
    exact ⟨rfl, (((Below.refl _ _).alloc (Nat.le_refl _) _).alloc (by simp) _).trans (hb1.mono (by simp; omega))⟩

/-- What a text counts. -/
def cntOf (s : ByteArray) : Cnt := ⟨s.size, runes s.data.toList, lines s.data.toList⟩
theorem wrap_plus (a b c : Int) (ha : 0 ≤ a) (hb : 0 ≤ b) (h : a + b = c) (hc : c ≤ 1000000) : wrap64 (wrap64 (0 + a) + b) = c := by
  unfold wrap64; omega
theorem cntOf_app (a b : ByteArray) (ha : a.size ≤ 2000) (hb : b.size ≤ 2000) : Cnt.sum [cntOf a, cntOf b] = cntOf (a ++ b) := by
  have h1 := runes_le a.data.toList
  have h2 := runes_le b.data.toList
  have h3 := lines_le a.data.toList
  have h4 := lines_le b.data.toList
  simp only [Array.length_toList] at h1 h2 h3 h4
  rw [show a.data.size = a.size from rfl] at h1 h3
  rw [show b.data.size = b.size from rfl] at h2 h4
  have e1 := wrap_plus (a.size : Int) (b.size : Int) (((a ++ b).size : Nat) : Int) (by omega) (by omega) (by rw [ByteArray.size_append]; omega) (by rw [ByteArray.size_append]; omega)
  have e2 := wrap_plus ((runes a.data.toList : Nat) : Int) ((runes b.data.toList : Nat) : Int) ((runes (a ++ b).data.toList : Nat) : Int) (by omega) (by omega) (by rw [app_list, runes_app]; omega) (by rw [app_list, runes_app]; omega)
  have e3 := wrap_plus ((lines a.data.toList : Nat) : Int) ((lines b.data.toList : Nat) : Int) ((lines (a ++ b).data.toList : Nat) : Int) (by omega) (by omega) (by rw [app_list, lines_app]; omega) (by rw [app_list, lines_app]; omega)
  unfold Cnt.sum cntOf
  simp only [List.foldl, Cnt.plus]
  rw [e1, e2, e3]
theorem tof_cnt (s : ByteArray) (hs : s.size ≤ maxLen) (w : World) : Calls Try.prog 7 #[.string s] w fun e w' => e = .returned (cntV (cntOf s).b (cntOf s).r (cntOf s).l) ∧ Below w.heap.size w w' := tof_any s hs w
theorem thead_cnt (s : ByteArray) (hs : s.size ≤ maxLen) (p : Int) (w : World) : Calls Try.prog 9 #[.string s, .int .i64 p] w fun e w' => e = .returned (cntV (cntOf (headS s p)).b (cntOf (headS s p)).r (cntOf (headS s p)).l) ∧ Below w.heap.size w w' := thead_any s hs p w

/-- The rest behind the first so many bytes. -/
def tailS (s : ByteArray) (p : Int) : ByteArray := s.extract (min (max p 0) s.size).toNat s.size
theorem head_tail (s : ByteArray) (p : Int) : headS s p ++ tailS s p = s := by
  refine str_ext ?_
  rw [app_list]
  unfold headS tailS
  rw [extract_list, extract_list, List.drop_zero, Nat.sub_zero]
  rw [List.take_of_length_le (l := List.drop (min (max p 0) (s.size : Int)).toNat s.data.toList) (by simp)]
  exact List.take_append_drop _ _

set_option maxRecDepth 100000 in
set_option maxHeartbeats 1000000 in
theorem tallyJoins_walk (a b : ByteArray) (p : Int) (_w0 : a.size ≤ maxLen) (_w1 : b.size ≤ maxLen) (_w2 : (Lit.int .i64 p).wf = true) (w : World) :
    Calls Try.prog 5 #[.string a, .string b, .int .i64 p] w fun e w' => e = .returned (.bool true) ∧ Below w.heap.size w w' := by
  clear _w0 _w1 _w2
  by_cases ha : 400 < a.size
  · go_enter Try.func5, Try.ntmps5
    go_wp2_with fail
    refine (lives4_any _).mono ?_; rintro e w1 ⟨rfl, hb1⟩
    go_wp2
    go_ret
    exact ⟨rfl, hb1⟩
  by_cases hb : 400 < b.size
  · go_enter Try.func5, Try.ntmps5
    go_wp2_with fail
    refine (lives4_any _).mono ?_; rintro e w1 ⟨rfl, hb1⟩
    go_wp2
    go_ret
    exact ⟨rfl, hb1⟩
  have ha' : a.size ≤ 400 := by omega
  have hb' : b.size ≤ 400 := by omega
  clear ha hb
  obtain ⟨s, hs⟩ : ∃ s, a ++ b = s := ⟨_, rfl⟩
  have hsz : s.size = a.size + b.size := by rw [← hs, ByteArray.size_append]
  have hh := headS_size s p
  have ht : (tailS s p).size = s.size - (min (max p 0) s.size).toNat := by unfold tailS; rw [ByteArray.size_extract]; omega
  have j1 := cntOf_app a b (by omega) (by omega)
  have j2 := cntOf_app (headS s p) (tailS s p) (by omega) (by omega)
  rw [head_tail] at j2
  rw [hs] at j1
  have c1 := tof_cnt s (by unfold maxLen; omega)
  have c2 := tof_cnt a (by unfold maxLen; omega)
  have c3 := tof_cnt b (by unfold maxLen; omega)
  have c4 : ∀ (g : Nat) (w : World), Cnts w w.heap.size (some ⟨g, 0, none⟩) [cntOf a, cntOf b] → Calls Try.prog 11 #[.slice (some ⟨g, 0, none⟩) 2 2] w fun e w' => e = .returned (cntV (Cnt.sum [cntOf a, cntOf b]).b (Cnt.sum [cntOf a, cntOf b]).r (Cnt.sum [cntOf a, cntOf b]).l) ∧ Below w.heap.size w w' :=
    fun g => tadd_any (some ⟨g, 0, none⟩) [cntOf a, cntOf b] 2 (by simp)
  have c5 := thead_cnt s (by unfold maxLen; omega) p
  have c6 := tof_cnt (tailS s p) (by unfold maxLen; omega)
  have c7 : ∀ (g : Nat) (w : World), Cnts w w.heap.size (some ⟨g, 0, none⟩) [cntOf (headS s p), cntOf (tailS s p)] → Calls Try.prog 11 #[.slice (some ⟨g, 0, none⟩) 2 2] w fun e w' => e = .returned (cntV (Cnt.sum [cntOf (headS s p), cntOf (tailS s p)]).b (Cnt.sum [cntOf (headS s p), cntOf (tailS s p)]).r (Cnt.sum [cntOf (headS s p), cntOf (tailS s p)]).l) ∧ Below w.heap.size w w' :=
    fun g => tadd_any (some ⟨g, 0, none⟩) [cntOf (headS s p), cntOf (tailS s p)] 2 (by simp)
  rw [j1] at c4
  rw [j2] at c7
  obtain ⟨x1, hx1⟩ : ∃ x, cntOf a = x := ⟨_, rfl⟩
  obtain ⟨x2, hx2⟩ : ∃ x, cntOf b = x := ⟨_, rfl⟩
  obtain ⟨y1, hy1⟩ : ∃ x, cntOf (headS s p) = x := ⟨_, rfl⟩
  obtain ⟨y2, hy2⟩ : ∃ x, cntOf (tailS s p) = x := ⟨_, rfl⟩
  obtain ⟨z, hz⟩ : ∃ x, cntOf s = x := ⟨_, rfl⟩
  rw [hx1] at c2 c4
  rw [hx2] at c3 c4
  rw [hy1] at c5 c7
  rw [hy2] at c6 c7
  rw [hz] at c1 c4 c7
  clear hx1 hx2 hy1 hy2 hz j1 j2 hh ht
  by_cases h0 : p < 0
  · have e : tailS s p = s.extract 0 (a.size + b.size) := by unfold tailS; rw [show (min (max p 0) (s.size : Int)).toNat = 0 by omega, hsz]
    rw [e] at c6
    clear e hsz
    rw [← hs] at c1 c5 c6
    clear hs
    have b1 : (0 : Int) ≤ (a.size : Int) + (b.size : Int) := by omega
    have b2 : (0 : Int) ≤ ((a ++ b).size : Int) := by omega
    have C1 := Lib.hid c1; have C2 := Lib.hid c2; have C3 := Lib.hid c3; have C4 := Lib.hid c4; have C5 := Lib.hid c5; have C6 := Lib.hid c6; have C7 := Lib.hid c7
    clear c1 c2 c3 c4 c5 c6 c7
    go_enter Try.func5, Try.ntmps5
    go_wp2_with fail
    go_region_held3 (fun w' => Below w.heap.size w w')
      (first | assumption | exact (Below.refl _ _).drew | exact Below.trans (by assumption) (hb1.mono (Below.size (by assumption))) | exact Below.alloc (by assumption) (Below.size (by assumption)) _)
      (first
        | (go_at_call 7; (with_reducible refine (C1.out _).mono ?_); rintro e w1 ⟨rfl, hb1⟩)
        | (go_at_call 7; (with_reducible refine (C2.out _).mono ?_); rintro e w1 ⟨rfl, hb1⟩)
        | (go_at_call 7; (with_reducible refine (C3.out _).mono ?_); rintro e w1 ⟨rfl, hb1⟩)
        | (go_at_call 7; (with_reducible refine (C6.out _).mono ?_); rintro e w1 ⟨rfl, hb1⟩)
        | (go_at_call 9; (with_reducible refine (C5.out _).mono ?_); rintro e w1 ⟨rfl, hb1⟩)
        | (go_at_call 11; (with_reducible refine (C4.out _ _ ?_).mono ?_); with_reducible exact cnts_new _ _ _ _ _ (by simp); rintro e w1 ⟨rfl, hb1⟩)
        | (go_at_call 11; (with_reducible refine (C7.out _ _ ?_).mono ?_); with_reducible exact cnts_new _ _ _ _ _ (by simp); rintro e w1 ⟨rfl, hb1⟩)
        | (go_at_call 6; refine (lives4_any _).mono ?_; rintro e w1 ⟨rfl, hb1⟩))
    go_wp2
    go_ret
    exact ⟨by simp, by assumption⟩
  by_cases h1 : p < a.size + b.size
  · obtain ⟨k, rfl⟩ := Int.eq_ofNat_of_zero_le (show 0 ≤ p by omega)
    have h2 : k < a.size + b.size := by omega
    have e : tailS s k = s.extract k (a.size + b.size) := by unfold tailS; rw [show (min (max (k : Int) 0) (s.size : Int)).toNat = k by omega, hsz]
    rw [e] at c6
    clear e hsz
    rw [← hs] at c1 c5 c6
    clear hs h0 h1
    have b1 : (k : Int) ≤ (a.size : Int) + (b.size : Int) := by omega
    have b2 : (k : Int) ≤ ((a ++ b).size : Int) := by rw [ByteArray.size_append]; omega
    have b3 : (0 : Int) ≤ k := by omega
    have C1 := Lib.hid c1; have C2 := Lib.hid c2; have C3 := Lib.hid c3; have C4 := Lib.hid c4; have C5 := Lib.hid c5; have C6 := Lib.hid c6; have C7 := Lib.hid c7
    clear c1 c2 c3 c4 c5 c6 c7
    go_enter Try.func5, Try.ntmps5
    go_wp2_with fail
    go_region_held3 (fun w' => Below w.heap.size w w')
      (first | assumption | exact (Below.refl _ _).drew | exact Below.trans (by assumption) (hb1.mono (Below.size (by assumption))) | exact Below.alloc (by assumption) (Below.size (by assumption)) _)
      (first
        | (go_at_call 7; (with_reducible refine (C1.out _).mono ?_); rintro e w1 ⟨rfl, hb1⟩)
        | (go_at_call 7; (with_reducible refine (C2.out _).mono ?_); rintro e w1 ⟨rfl, hb1⟩)
        | (go_at_call 7; (with_reducible refine (C3.out _).mono ?_); rintro e w1 ⟨rfl, hb1⟩)
        | (go_at_call 7; (with_reducible refine (C6.out _).mono ?_); rintro e w1 ⟨rfl, hb1⟩)
        | (go_at_call 9; (with_reducible refine (C5.out _).mono ?_); rintro e w1 ⟨rfl, hb1⟩)
        | (go_at_call 11; (with_reducible refine (C4.out _ _ ?_).mono ?_); with_reducible exact cnts_new _ _ _ _ _ (by simp); rintro e w1 ⟨rfl, hb1⟩)
        | (go_at_call 11; (with_reducible refine (C7.out _ _ ?_).mono ?_); with_reducible exact cnts_new _ _ _ _ _ (by simp); rintro e w1 ⟨rfl, hb1⟩)
        | (go_at_call 6; refine (lives4_any _).mono ?_; rintro e w1 ⟨rfl, hb1⟩))
    go_wp2
    go_ret
    exact ⟨by simp, by assumption⟩
  by_cases h3 : p = a.size + b.size
  · subst h3
    have e : tailS s (a.size + b.size) = s.extract ((a.size : Int) + (b.size : Int)).toNat (a.size + b.size) := by unfold tailS; rw [show (min (max ((a.size : Int) + b.size) 0) (s.size : Int)).toNat = ((a.size : Int) + (b.size : Int)).toNat by omega, hsz]
    rw [e] at c6
    clear e hsz
    rw [← hs] at c1 c5 c6
    clear hs h0 h1
    have b1 : (a.size : Int) + (b.size : Int) ≤ ((a ++ b).size : Int) := by rw [ByteArray.size_append]; omega
    have b2 : (0 : Int) ≤ (a.size : Int) + (b.size : Int) := by omega
    have C1 := Lib.hid c1; have C2 := Lib.hid c2; have C3 := Lib.hid c3; have C4 := Lib.hid c4; have C5 := Lib.hid c5; have C6 := Lib.hid c6; have C7 := Lib.hid c7
    clear c1 c2 c3 c4 c5 c6 c7
    go_enter Try.func5, Try.ntmps5
    go_wp2_with fail
    go_region_held3 (fun w' => Below w.heap.size w w')
      (first | assumption | exact (Below.refl _ _).drew | exact Below.trans (by assumption) (hb1.mono (Below.size (by assumption))) | exact Below.alloc (by assumption) (Below.size (by assumption)) _)
      (first
        | (go_at_call 7; (with_reducible refine (C1.out _).mono ?_); rintro e w1 ⟨rfl, hb1⟩)
        | (go_at_call 7; (with_reducible refine (C2.out _).mono ?_); rintro e w1 ⟨rfl, hb1⟩)
        | (go_at_call 7; (with_reducible refine (C3.out _).mono ?_); rintro e w1 ⟨rfl, hb1⟩)
        | (go_at_call 7; (with_reducible refine (C6.out _).mono ?_); rintro e w1 ⟨rfl, hb1⟩)
        | (go_at_call 9; (with_reducible refine (C5.out _).mono ?_); rintro e w1 ⟨rfl, hb1⟩)
        | (go_at_call 11; (with_reducible refine (C4.out _ _ ?_).mono ?_); with_reducible exact cnts_new _ _ _ _ _ (by simp); rintro e w1 ⟨rfl, hb1⟩)
        | (go_at_call 11; (with_reducible refine (C7.out _ _ ?_).mono ?_); with_reducible exact cnts_new _ _ _ _ _ (by simp); rintro e w1 ⟨rfl, hb1⟩)
        | (go_at_call 6; refine (lives4_any _).mono ?_; rintro e w1 ⟨rfl, hb1⟩))
    go_wp2
    go_ret
    exact ⟨by simp, by assumption⟩
  · have h4 : (a.size : Int) + b.size < p := by omega
    have e : tailS s p = s.extract ((a.size : Int) + (b.size : Int)).toNat (a.size + b.size) := by unfold tailS; rw [show (min (max p 0) (s.size : Int)).toNat = ((a.size : Int) + (b.size : Int)).toNat by omega, hsz]
    rw [e] at c6
    clear e hsz
    rw [← hs] at c1 c5 c6
    clear hs h0 h1 h3
    have b1 : (a.size : Int) + (b.size : Int) ≤ ((a ++ b).size : Int) := by rw [ByteArray.size_append]; omega
    have b2 : (0 : Int) ≤ (a.size : Int) + (b.size : Int) := by omega
    have C1 := Lib.hid c1; have C2 := Lib.hid c2; have C3 := Lib.hid c3; have C4 := Lib.hid c4; have C5 := Lib.hid c5; have C6 := Lib.hid c6; have C7 := Lib.hid c7
    clear c1 c2 c3 c4 c5 c6 c7
    go_enter Try.func5, Try.ntmps5
    go_wp2_with fail
    go_region_held3 (fun w' => Below w.heap.size w w')
      (first | assumption | exact (Below.refl _ _).drew | exact Below.trans (by assumption) (hb1.mono (Below.size (by assumption))) | exact Below.alloc (by assumption) (Below.size (by assumption)) _)
      (first
        | (go_at_call 7; (with_reducible refine (C1.out _).mono ?_); rintro e w1 ⟨rfl, hb1⟩)
        | (go_at_call 7; (with_reducible refine (C2.out _).mono ?_); rintro e w1 ⟨rfl, hb1⟩)
        | (go_at_call 7; (with_reducible refine (C3.out _).mono ?_); rintro e w1 ⟨rfl, hb1⟩)
        | (go_at_call 7; (with_reducible refine (C6.out _).mono ?_); rintro e w1 ⟨rfl, hb1⟩)
        | (go_at_call 9; (with_reducible refine (C5.out _).mono ?_); rintro e w1 ⟨rfl, hb1⟩)
        | (go_at_call 11; (with_reducible refine (C4.out _ _ ?_).mono ?_); with_reducible exact cnts_new _ _ _ _ _ (by simp); rintro e w1 ⟨rfl, hb1⟩)
        | (go_at_call 11; (with_reducible refine (C7.out _ _ ?_).mono ?_); with_reducible exact cnts_new _ _ _ _ _ (by simp); rintro e w1 ⟨rfl, hb1⟩)
        | (go_at_call 6; refine (lives4_any _).mono ?_; rintro e w1 ⟨rfl, hb1⟩))
    go_wp2
    go_ret
    exact ⟨by simp, by assumption⟩
end Go.Proofs.Ytapkkbiodfeooaa
