/-
  The walks of the laws of layer 7 (tape).
-/
import Derived.Test.YtcoacbknhlnjmaaTapeDev2
import Derived.Test.YtcoacbknhlnjmaaTapeRef
import Derived.Test.YtcoacbknhlnjmaaOpenT7
import Derived.Deep.DeepCutAuto
namespace Go.Proofs.Ytcoacbknhlnjmaa
open Go.RowKit
set_option linter.unusedVariables false

set_option maxRecDepth 100000 in
set_option maxHeartbeats 400000 in
theorem lives7_any (w : World) : Calls Try.prog 6 #[] w fun e w' => e = .returned (.bool true) ∧ Below w.heap.size w w' := by
  go_enter Try.func6, Try.ntmps6
  go_wp2_with fail
  refine (tnew_any _).mono ?_
  rintro e w1 ⟨b, rfl, hb, ht, hb1⟩
  have c2 := tappend_yes ht ⟨#[97, 98]⟩ (by decide)
  rw [show ByteArray.empty ++ ⟨#[97, 98]⟩ = (⟨#[97, 98]⟩ : ByteArray) from by decide +kernel] at c2
  have C2 := Lib.hid c2; clear c2 ht
  go_wp2_with fail
  refine C2.out.mono ?_
  rintro e w2 ⟨rfl, ht2, ha2⟩
  have hB2 := hb1.trans (ha2.to_below (by simp; omega) hb1.size)
  have HT2 := Lib.hid ht2; have HB2 := Lib.hid hB2; clear ht2 ha2 hB2 hb1 C2
  go_wp2_with fail
  refine (tnow_v (views_yes HT2.out)).mono ?_
  rintro e w' ⟨rfl, rfl⟩
  have c3 := tcrash_yes (w := w2.drew) HT2.out (by decide) (by decide) ByteArray.empty
  rw [mixOf_old ByteArray.empty ⟨#[97, 98]⟩ ByteArray.empty chN_nil] at c3
  have C3 := Lib.hid c3; clear c3
  go_wp2_with fail
  refine C3.out.mono ?_
  rintro e w3 ⟨rfl, ht3, ha3⟩
  have hB3 := HB2.out.drew.trans (ha3.to_below (by simp; omega) HB2.out.size)
  have HT3 := Lib.hid ht3; have HB3 := Lib.hid hB3; clear ht3 ha3 hB3 C3
  go_wp2_with fail
  refine (tnow_v (views_yes HT3.out)).mono ?_
  rintro e w' ⟨rfl, rfl⟩
  go_wp2_with fail
  refine (tkept_v (views_yes (w := w3.drew) HT3.out)).mono ?_
  rintro e w' ⟨rfl, rfl⟩
  go_wp2
  go_ret
  exact ⟨by simp, HB3.out.drew.drew⟩
set_option maxRecDepth 100000 in
set_option maxHeartbeats 400000 in
theorem few7_any (s : ByteArray) (w : World) : Calls Try.prog 26 #[.string s] w fun e w' => e = .returned (.string (if 100 < s.size then s.extract 0 100 else s)) ∧ w = w' := by
  by_cases h : 100 < s.size
  · rw [if_pos h]
    go_enter Try.func26, Try.ntmps26
    go_wp2
    go_ret
    exact ⟨rfl, rfl⟩
  · rw [if_neg h]
    have h' : s.size ≤ 100 := by omega
    clear h
    go_enter Try.func26, Try.ntmps26
    go_wp2
    go_ret
    exact ⟨rfl, rfl⟩

def fewS (s : ByteArray) : ByteArray := if 100 < s.size then s.extract 0 100 else s
theorem fewS_size (s : ByteArray) : (fewS s).size ≤ 100 := by
  unfold fewS; split
  · rw [ByteArray.size_extract]; omega
  · omega
/-- What a step of the law leads to. -/
def stT (k n : ByteArray) (kind m : Int) (s : ByteArray) : ByteArray × ByteArray :=
  if kind = 0 then (k, n ++ fewS s) else if kind = 1 then (if m < 0 ∨ (n.size : Int) < m then (k, n) else (k, n.extract 0 m.toNat)) else if kind = 2 then (n, n) else if kind = 3 then (mixOf k n (fewS s), mixOf k n (fewS s)) else (k, n)
theorem stT_size (k n : ByteArray) (kind m : Int) (s : ByteArray) (M : Nat) (hk : k.size ≤ M) (hn : n.size ≤ M) : (stT k n kind m s).1.size ≤ M + 100 ∧ (stT k n kind m s).2.size ≤ M + 100 := by
  have hf := fewS_size s
  have hm := mixOf_size k n (fewS s)
  unfold stT
  split
  · simp only [ByteArray.size_append]; omega
  · split
    · split
      · simp only; omega
      · simp only [ByteArray.size_extract]; omega
    · split
      · simp only; omega
      · split
        · simp only; omega
        · simp only; omega
/-- A step of the law: it answers true, and the tape and what is told are these. -/
def UpdS (w : World) (b : Nat) (k n : ByteArray) (e : Ending) (w' : World) : Prop := e = .returned (.tuple #[tpV k n, .bool true]) ∧ Tap w' b k n ∧ Apart [b] w w'

theorem Tap3.other {w : World} {b : Nat} {k n : ByteArray} {m : Bool} (h : Tap3 w b k n m) {p : Addr} (hp : p.block ≠ b) (u : Value) : Tap3 (w.setCell p u) b k n m := h.keep (Below.heap_setCell w p u b (fun e => hp e.symm))
theorem Two.other {w : World} {g : Nat} {k n : ByteArray} (h : Two w g k n) {p : Addr} (hp : p.block ≠ g) (u : Value) : Two (w.setCell p u) g k n := h.keep (Below.heap_setCell w p u g (fun e => hp e.symm))
/-- Where a step begins: what was read of its arguments, and the block of its result. -/
structure St7 (w X : World) (b : Nat) (k n : ByteArray) (kind m : Int) (s : ByteArray) : Prop where
  bel : Below w.heap.size w X
  tap : Tap X b k n
  lt : b < w.heap.size
  size : X.heap.size = w.heap.size + 3
  q : Two X w.heap.size k n
  o : X.heap[w.heap.size + 1]? = some (.cells #[.int .i64 kind, .int .i64 m, .string s] 29 (0, 0))
  r : Two X (w.heap.size + 1 + 1) ByteArray.empty ByteArray.empty
theorem st7_mk {w : World} {b : Nat} {k n : ByteArray} (h : Tap w b k n) (kind m : Int) (s : ByteArray) :
    St7 w (((w.alloc (.cells #[.string k, .string n] 27)).alloc (.cells #[.int .i64 kind, .int .i64 m, .string s] 29)).alloc (.cells #[.string ByteArray.empty, .string ByteArray.empty] 27)) b k n kind m s := by
  have hb1 := (Below.refl w.heap.size w).alloc (Nat.le_refl _) (.cells #[.string k, .string n] 27)
  have q := Two.new w k n
  obtain ⟨a, ha⟩ : ∃ a, w.alloc (.cells #[.string k, .string n] 27) = a := ⟨_, rfl⟩
  have sa : a.heap.size = w.heap.size + 1 := by rw [← ha]; simp
  rw [ha] at hb1 q ⊢
  have hb2 := (Below.refl a.heap.size a).alloc (Nat.le_refl _) (.cells #[.int .i64 kind, .int .i64 m, .string s] 29)
  have o : (a.alloc (.cells #[.int .i64 kind, .int .i64 m, .string s] 29)).heap[a.heap.size]? = some (.cells #[.int .i64 kind, .int .i64 m, .string s] 29 (0, 0)) := by
    show (a.heap.push _)[a.heap.size]? = _
    simp
  obtain ⟨c, hc⟩ : ∃ c, a.alloc (.cells #[.int .i64 kind, .int .i64 m, .string s] 29) = c := ⟨_, rfl⟩
  have sc : c.heap.size = w.heap.size + 1 + 1 := by rw [← hc]; simp [sa]
  rw [hc] at hb2 o ⊢
  have hb3 := (Below.refl c.heap.size c).alloc (Nat.le_refl _) (.cells #[.string ByteArray.empty, .string ByteArray.empty] 27)
  have r := Two.new c ByteArray.empty ByteArray.empty
  have se : (c.alloc (.cells #[.string ByteArray.empty, .string ByteArray.empty] 27)).heap.size = w.heap.size + 3 := by simp [sc]
  have hB := (hb1.trans (hb2.mono (by omega))).trans (hb3.mono (by omega))
  rw [sc] at r
  rw [sa] at o
  exact ⟨hB, h.below hB, Tap3.lt h, se, (q.keep (hb2.block _ (by omega))).keep (hb3.block _ (by omega)), (hb3.block _ (by omega)).trans o, r⟩
theorem St7.cells {w X : World} {b : Nat} {k n : ByteArray} {kind m : Int} {s : ByteArray} (h : St7 w X b k n kind m s) :
    X.cell? ⟨w.heap.size + 1, 0, none⟩ = some (.int .i64 kind) ∧ X.cell? ⟨w.heap.size + 1, 1, none⟩ = some (.int .i64 m) ∧ X.cell? ⟨w.heap.size + 1, 2, none⟩ = some (.string s) := by
  have := h.o
  refine ⟨?_, ?_, ?_⟩ <;> simp [World.cell?, this]
theorem St7.below {w X Y : World} {b : Nat} {k n : ByteArray} {kind m : Int} {s : ByteArray} (h : St7 w X b k n kind m s) (hb : Below X.heap.size X Y) :
    Below w.heap.size w Y ∧ Tap Y b k n ∧ Two Y w.heap.size k n ∧ Y.heap[w.heap.size + 1]? = some (.cells #[.int .i64 kind, .int .i64 m, .string s] 29 (0, 0)) ∧ Two Y (w.heap.size + 1 + 1) ByteArray.empty ByteArray.empty := by
  have z := h.size
  have zb := h.lt
  exact ⟨h.bel.trans (hb.mono (by omega)), h.tap.below hb, h.q.keep (hb.block _ (by omega)), (hb.block _ (by omega)).trans h.o, h.r.keep (hb.block _ (by omega))⟩

theorem st7_on {w w1 Y w2 : World} {b : Nat} {k n : ByteArray} {kind m : Int} {s : ByteArray} (hr : Two Y (w.heap.size + 1 + 1) ByteArray.empty ByteArray.empty) (hn : Two Y w1.heap.size k n)
    (ho : Y.heap[w.heap.size + 1]? = some (.cells #[.int .i64 kind, .int .i64 m, .string s] 29 (0, 0))) (a : Apart [b] Y.drew w2) (hl : b < w.heap.size) (sz : w.heap.size + 3 ≤ w1.heap.size) :
    Two w2 (w.heap.size + 1 + 1) ByteArray.empty ByteArray.empty ∧ Two w2 w1.heap.size k n ∧ w2.cell? ⟨w.heap.size + 1, 1, none⟩ = some (.int .i64 m) := by
  have n1 : w.heap.size + 1 + 1 ∉ [b] := by simp; omega
  have n2 : w1.heap.size ∉ [b] := by simp; omega
  have n3 : w.heap.size + 1 ∉ [b] := by simp; omega
  have o2 : w2.heap[w.heap.size + 1]? = some (.cells #[.int .i64 kind, .int .i64 m, .string s] 29 (0, 0)) := (a.block _ (lt_of_block ho) n3).trans ho
  exact ⟨hr.keep (a.block _ hr.lt n1), hn.keep (a.block _ hn.lt n2), by simp [World.cell?, o2]⟩
set_option maxRecDepth 100000 in
set_option maxHeartbeats 400000 in
theorem step7_0 {w : World} {b : Nat} {k n : ByteArray} (h : Tap w b k n) (hn : n.size ≤ 100000) (m : Int) (s : ByteArray) :
    Calls Try.prog 11 #[.pointer (some ⟨b, 0, none⟩), tpV k n, .agg #[.int .i64 0, .int .i64 m, .string s]] w (UpdS w b k (n ++ fewS s)) := by
  have hfs := fewS_size s
  have cf := few7_any s
  rw [show (if 100 < s.size then s.extract 0 100 else s) = fewS s from rfl] at cf
  obtain ⟨f, hf⟩ : ∃ f, fewS s = f := ⟨_, rfl⟩
  rw [hf] at hfs cf ⊢
  have CF := Lib.hid cf; clear cf hf
  have st := st7_mk h 0 m s
  have HS := Lib.hid st; clear st h
  go_enter Try.func11, Try.ntmps11
  go_wp2_with fail
  refine (CF.out _).mono ?_
  rintro e w' ⟨rfl, rfl⟩
  go_wp2_with fail
  refine (tappend_yes HS.out.tap f (by omega)).mono ?_
  rintro e w2 ⟨rfl, t2, a2⟩
  have z := HS.out.size
  have zb := HS.out.lt
  have q2 : Two w2 w.heap.size k n := HS.out.q.keep (a2.block _ (by omega) (by simp; omega))
  have r2 : Two w2 (w.heap.size + 1 + 1) ByteArray.empty ByteArray.empty := HS.out.r.keep (a2.block _ (by omega) (by simp; omega))
  have A2 := (Apart.of_below (S := [b]) HS.out.bel).trans a2 (fun x hx => .inl hx)
  obtain ⟨c0, c1, c2, c3⟩ := q2.cells
  obtain ⟨d0, d1, d2, d3⟩ := r2.cells
  have T2 := Lib.hid t2; have AA := Lib.hid A2; clear t2 a2 A2 q2 r2 z
  go_wp2
  refine bodyPost_ret (v := .tuple #[tpV k (n ++ f), .bool true]) (by simp [results, Try.results11, d0, d1, go_sem]) rfl ⟨rfl, ?_, ?_⟩
  · exact ((T2.out.other (by simp; omega) _).other (by simp; omega) _).other (by simp; omega) _
  · exact ((AA.out.setCell (.inr (by dsimp only; omega)) _).setCell (.inr (by dsimp only; omega)) _).setCell (.inr (by dsimp only; omega)) _
set_option maxRecDepth 100000 in
set_option maxHeartbeats 400000 in
theorem step7_2 {w : World} {b : Nat} {k n : ByteArray} (h : Tap w b k n) (m : Int) (s : ByteArray) :
    Calls Try.prog 11 #[.pointer (some ⟨b, 0, none⟩), tpV k n, .agg #[.int .i64 2, .int .i64 m, .string s]] w (UpdS w b n n) := by
  have cf := few7_any s
  obtain ⟨f, hf⟩ : ∃ f, (if 100 < s.size then s.extract 0 100 else s) = f := ⟨_, rfl⟩
  rw [hf] at cf
  have CF := Lib.hid cf; clear cf hf
  have st := st7_mk h 2 m s
  have HS := Lib.hid st; clear st h
  go_enter Try.func11, Try.ntmps11
  go_wp2_with fail
  refine (CF.out _).mono ?_
  rintro e w' ⟨rfl, rfl⟩
  go_wp2_with fail
  refine (tsync_yes HS.out.tap).mono ?_
  rintro e w2 ⟨rfl, t2, a2⟩
  have z := HS.out.size
  have zb := HS.out.lt
  have q2 : Two w2 w.heap.size k n := HS.out.q.keep (a2.block _ (by omega) (by simp; omega))
  have r2 : Two w2 (w.heap.size + 1 + 1) ByteArray.empty ByteArray.empty := HS.out.r.keep (a2.block _ (by omega) (by simp; omega))
  have A2 := (Apart.of_below (S := [b]) HS.out.bel).trans a2 (fun x hx => .inl hx)
  obtain ⟨c0, c1, c2, c3⟩ := q2.cells
  obtain ⟨d0, d1, d2, d3⟩ := r2.cells
  have T2 := Lib.hid t2; have AA := Lib.hid A2; clear t2 a2 A2 q2 r2 z
  go_wp2
  refine bodyPost_ret (v := .tuple #[tpV n n, .bool true]) (by simp [results, Try.results11, d0, d1, go_sem]) rfl ⟨rfl, ?_, ?_⟩
  · exact ((T2.out.other (by simp; omega) _).other (by simp; omega) _).other (by simp; omega) _
  · exact ((AA.out.setCell (.inr (by dsimp only; omega)) _).setCell (.inr (by dsimp only; omega)) _).setCell (.inr (by dsimp only; omega)) _
set_option maxRecDepth 100000 in
set_option maxHeartbeats 400000 in
theorem step7_4 {w : World} {b : Nat} {k n : ByteArray} (h : Tap w b k n) (kind m : Int) (s : ByteArray) (k0 : (kind == 0) = false) (k1 : (kind == 1) = false) (k2 : (kind == 2) = false) (k3 : (kind == 3) = false) :
    Calls Try.prog 11 #[.pointer (some ⟨b, 0, none⟩), tpV k n, .agg #[.int .i64 kind, .int .i64 m, .string s]] w (UpdS w b k n) := by
  have cf := few7_any s
  obtain ⟨f, hf⟩ : ∃ f, (if 100 < s.size then s.extract 0 100 else s) = f := ⟨_, rfl⟩
  rw [hf] at cf
  have CF := Lib.hid cf; clear cf hf
  have H := Lib.hid h; clear h
  go_enter Try.func11, Try.ntmps11
  go_wp2_with fail
  refine (CF.out _).mono ?_
  rintro e w' ⟨rfl, rfl⟩
  go_wp2
  have hB : Below w.heap.size w (((w.alloc (.cells #[.string k, .string n] 27)).alloc (.cells #[.int .i64 kind, .int .i64 m, .string s] 29)).alloc (.cells #[.string k, .string n] 27)) := (((Below.refl _ _).alloc (Nat.le_refl _) _).alloc (by simp) _).alloc (by simp; omega) _
  refine bodyPost_ret (v := .tuple #[tpV k n, .bool true]) (by simp [results, Try.results11, go_sem]) rfl ⟨rfl, H.out.below hB, Apart.of_below hB⟩
set_option maxRecDepth 100000 in
set_option maxHeartbeats 1600000 in
theorem step7_1n {w : World} {b : Nat} {k n : ByteArray} (h : Tap w b k n) (hk : k.size ≤ 100000) (hn : n.size ≤ 100000) (m : Int) (hm : m < 0 ∨ (n.size : Int) < m) (s : ByteArray) :
    Calls Try.prog 11 #[.pointer (some ⟨b, 0, none⟩), tpV k n, .agg #[.int .i64 1, .int .i64 m, .string s]] w (UpdS w b k n) := by
  have cf := few7_any s
  rw [show (if 100 < s.size then s.extract 0 100 else s) = fewS s from rfl] at cf
  obtain ⟨f, hf⟩ : ∃ f, fewS s = f := ⟨_, rfl⟩
  rw [hf] at cf
  have HM := Lib.hid hm; clear hf
  have CF := Lib.hid cf; clear cf
  have st := st7_mk h 1 m s
  have HS := Lib.hid st; clear st h
  go_enter Try.func11, Try.ntmps11
  go_wp2_with fail
  refine (CF.out _).mono ?_
  rintro e w' ⟨rfl, rfl⟩
  go_wp2_with fail
  refine (rtcut_no k n m HM.out _).mono ?_
  rintro e w1 ⟨rfl, hb1⟩
  go_wp2_with fail
  have sz := HS.out.size
  have sz1 : w.heap.size + 3 ≤ w1.heap.size := Nat.le_trans (Nat.le_of_eq HS.out.size.symm) hb1.size
  have hl : b < w.heap.size := HS.out.lt
  obtain ⟨bw, ty, qy, oy, ry⟩ := HS.out.below (hb1.trans ((Below.refl w1.heap.size w1).alloc (Nat.le_refl _) (.cells #[.string k, .string n] 27) |>.mono hb1.size))
  have ny := Two.new w1 k n
  obtain ⟨Y, hY⟩ : ∃ Y, w1.alloc (.cells #[.string k, .string n] 27) = Y := ⟨_, rfl⟩
  have sY : Y.heap.size = w1.heap.size + 1 := by rw [← hY]; simp
  rw [hY] at bw ty qy oy ry ny ⊢
  have e0 : Y.drew.cell? ⟨w1.heap.size, 0, none⟩ = _ := ny.cells.1
  have e1 : Y.drew.cell? ⟨w1.heap.size, 1, none⟩ = _ := ny.cells.2.1
  have e2 : Y.drew.cell? ⟨w.heap.size + 1, 1, none⟩ = some (.int .i64 m) := by show Y.cell? _ = _; simp [World.cell?, oy]
  have r0 : Y.drew.cell? ⟨w.heap.size + 1 + 1, 0, none⟩ = _ := ry.cells.1
  have r1 : Y.drew.cell? ⟨w.heap.size + 1 + 1, 1, none⟩ = _ := ry.cells.2.1
  have r2 : Y.drew.frozen? ⟨w.heap.size + 1 + 1, 0, none⟩ = _ := ry.cells.2.2.1
  have r3 : Y.drew.frozen? ⟨w.heap.size + 1 + 1, 1, none⟩ = _ := ry.cells.2.2.2
  have hy : Tap Y.drew b k n := ty
  have HY := Lib.hid hy; have BW := Lib.hid bw; have OY := Lib.hid oy; have RY := Lib.hid ry; have NY := Lib.hid ny; have SY := Lib.hid sY; have SZ := Lib.hid sz1
  clear bw ty qy oy ry ny hY hy hb1 sz HS sY sz1
  go_region_with (go_at_call 20; go_loud (refine (tcut_no HY.out m HM.out).mono ?_; rintro e w2 ⟨rfl, t2, a2⟩; have T2 := Lib.hid t2; have A2 := Lib.hid a2; obtain ⟨hr, hn2, o2⟩ := st7_on RY.out NY.out OY.out a2 hl SZ.out; obtain ⟨x0, x1, x2, x3⟩ := hr.cells; obtain ⟨y0, y1, y2, y3⟩ := hn2.cells; clear t2 a2 hr hn2))
  all_goals
    go_wp2
    refine bodyPost_ret (v := .tuple #[tpV k n, .bool true]) (by simp [results, Try.results11, x0, x1, go_sem]) rfl ⟨rfl, ?_, ?_⟩
    · exact (T2.out.other (by simp; omega) _).other (by simp; omega) _
    · exact ((((Apart.of_below (S := [b]) (BW.out.drew)).trans A2.out (fun x hx => .inl hx)).setCell (.inr (by dsimp only; omega)) _).setCell (.inr (by dsimp only; omega)) _)
set_option maxRecDepth 100000 in
set_option maxHeartbeats 1600000 in
theorem step7_1y {w : World} {b : Nat} {k n : ByteArray} (h : Tap w b k n) (hk : k.size ≤ 100000) (hn : n.size ≤ 100000) (m : Nat) (hm : m ≤ n.size) (s : ByteArray) :
    Calls Try.prog 11 #[.pointer (some ⟨b, 0, none⟩), tpV k n, .agg #[.int .i64 1, .int .i64 m, .string s]] w (UpdS w b k (n.extract 0 m)) := by
  have cf := few7_any s
  rw [show (if 100 < s.size then s.extract 0 100 else s) = fewS s from rfl] at cf
  obtain ⟨f, hf⟩ : ∃ f, fewS s = f := ⟨_, rfl⟩
  rw [hf] at cf
  have HM := Lib.hid hm; clear hf
  have CF := Lib.hid cf; clear cf
  have st := st7_mk h 1 m s
  have HS := Lib.hid st; clear st h
  go_enter Try.func11, Try.ntmps11
  go_wp2_with fail
  refine (CF.out _).mono ?_
  rintro e w' ⟨rfl, rfl⟩
  go_wp2_with fail
  refine (rtcut_yes k n (by omega) m HM.out _).mono ?_
  rintro e w1 ⟨rfl, hb1⟩
  go_wp2_with fail
  have sz := HS.out.size
  have sz1 : w.heap.size + 3 ≤ w1.heap.size := Nat.le_trans (Nat.le_of_eq HS.out.size.symm) hb1.size
  have hl : b < w.heap.size := HS.out.lt
  obtain ⟨bw, ty, qy, oy, ry⟩ := HS.out.below (hb1.trans ((Below.refl w1.heap.size w1).alloc (Nat.le_refl _) (.cells #[.string k, .string (n.extract 0 m)] 27) |>.mono hb1.size))
  have ny := Two.new w1 k (n.extract 0 m)
  obtain ⟨Y, hY⟩ : ∃ Y, w1.alloc (.cells #[.string k, .string (n.extract 0 m)] 27) = Y := ⟨_, rfl⟩
  have sY : Y.heap.size = w1.heap.size + 1 := by rw [← hY]; simp
  rw [hY] at bw ty qy oy ry ny ⊢
  have e0 : Y.drew.cell? ⟨w1.heap.size, 0, none⟩ = _ := ny.cells.1
  have e1 : Y.drew.cell? ⟨w1.heap.size, 1, none⟩ = _ := ny.cells.2.1
  have e2 : Y.drew.cell? ⟨w.heap.size + 1, 1, none⟩ = some (.int .i64 m) := by show Y.cell? _ = _; simp [World.cell?, oy]
  have r0 : Y.drew.cell? ⟨w.heap.size + 1 + 1, 0, none⟩ = _ := ry.cells.1
  have r1 : Y.drew.cell? ⟨w.heap.size + 1 + 1, 1, none⟩ = _ := ry.cells.2.1
  have r2 : Y.drew.frozen? ⟨w.heap.size + 1 + 1, 0, none⟩ = _ := ry.cells.2.2.1
  have r3 : Y.drew.frozen? ⟨w.heap.size + 1 + 1, 1, none⟩ = _ := ry.cells.2.2.2
  have hy : Tap Y.drew b k n := ty
  have HY := Lib.hid hy; have BW := Lib.hid bw; have OY := Lib.hid oy; have RY := Lib.hid ry; have NY := Lib.hid ny; have SY := Lib.hid sY; have SZ := Lib.hid sz1
  clear bw ty qy oy ry ny hY hy hb1 sz HS sY sz1
  go_region_with (go_at_call 20; go_loud (refine (tcut_yes HY.out (by omega) m HM.out).mono ?_; rintro e w2 ⟨rfl, t2, a2⟩; have T2 := Lib.hid t2; have A2 := Lib.hid a2; obtain ⟨hr, hn2, o2⟩ := st7_on RY.out NY.out OY.out a2 hl SZ.out; obtain ⟨x0, x1, x2, x3⟩ := hr.cells; obtain ⟨y0, y1, y2, y3⟩ := hn2.cells; clear t2 a2 hr hn2))
  all_goals
    go_wp2
    refine bodyPost_ret (v := .tuple #[tpV k (n.extract 0 m), .bool true]) (by simp [results, Try.results11, x0, x1, go_sem]) rfl ⟨rfl, ?_, ?_⟩
    · exact (T2.out.other (by simp; omega) _).other (by simp; omega) _
    · exact ((((Apart.of_below (S := [b]) (BW.out.drew)).trans A2.out (fun x hx => .inl hx)).setCell (.inr (by dsimp only; omega)) _).setCell (.inr (by dsimp only; omega)) _)
set_option maxRecDepth 100000 in
set_option maxHeartbeats 1600000 in
theorem step7_3 {w : World} {b : Nat} {k n : ByteArray} (h : Tap w b k n) (hk : k.size ≤ 100000) (hn : n.size ≤ 100000) (m : Int) (s : ByteArray) :
    Calls Try.prog 11 #[.pointer (some ⟨b, 0, none⟩), tpV k n, .agg #[.int .i64 3, .int .i64 m, .string s]] w (UpdS w b (mixOf k n (fewS s)) (mixOf k n (fewS s))) := by
  have cf := few7_any s
  rw [show (if 100 < s.size then s.extract 0 100 else s) = fewS s from rfl] at cf
  obtain ⟨f, hf⟩ : ∃ f, fewS s = f := ⟨_, rfl⟩
  rw [hf] at cf
  rw [hf]
  have cr := rtcrash_any k n (by omega) (by omega) f
  have ct := fun (Y : World) (hy : Tap Y b k n) => tcrash_yes hy (show k.size ≤ 4294967296 by omega) (show n.size ≤ 4294967296 by omega) f
  obtain ⟨x, hx⟩ : ∃ x, mixOf k n f = x := ⟨_, rfl⟩
  obtain ⟨u, hu⟩ : ∃ u, mixUs k n f = u := ⟨_, rfl⟩
  rw [hx, hu] at cr
  simp only [hx, hu] at ct
  rw [hx]
  have CR := Lib.hid cr; have CT := Lib.hid ct; clear cr ct hx hu hf
  have CF := Lib.hid cf; clear cf
  have st := st7_mk h 3 m s
  have HS := Lib.hid st; clear st h
  go_enter Try.func11, Try.ntmps11
  go_wp2_with fail
  refine (CF.out _).mono ?_
  rintro e w' ⟨rfl, rfl⟩
  go_wp2_with fail
  refine (CR.out _).mono ?_
  rintro e w1 ⟨rfl, hb1⟩
  go_wp2_with fail
  have sz := HS.out.size
  have sz1 : w.heap.size + 3 ≤ w1.heap.size := Nat.le_trans (Nat.le_of_eq HS.out.size.symm) hb1.size
  have hl : b < w.heap.size := HS.out.lt
  obtain ⟨bw, ty, qy, oy, ry⟩ := HS.out.below (hb1.trans ((Below.refl w1.heap.size w1).alloc (Nat.le_refl _) (.cells #[.string x, .string x] 27) |>.mono hb1.size))
  have ny := Two.new w1 x x
  obtain ⟨Y, hY⟩ : ∃ Y, w1.alloc (.cells #[.string x, .string x] 27) = Y := ⟨_, rfl⟩
  have sY : Y.heap.size = w1.heap.size + 1 := by rw [← hY]; simp
  rw [hY] at bw ty qy oy ry ny ⊢
  have e0 : Y.drew.cell? ⟨w1.heap.size, 0, none⟩ = _ := ny.cells.1
  have e1 : Y.drew.cell? ⟨w1.heap.size, 1, none⟩ = _ := ny.cells.2.1
  have e2 : Y.drew.cell? ⟨w.heap.size + 1, 1, none⟩ = some (.int .i64 m) := by show Y.cell? _ = _; simp [World.cell?, oy]
  have r0 : Y.drew.cell? ⟨w.heap.size + 1 + 1, 0, none⟩ = _ := ry.cells.1
  have r1 : Y.drew.cell? ⟨w.heap.size + 1 + 1, 1, none⟩ = _ := ry.cells.2.1
  have r2 : Y.drew.frozen? ⟨w.heap.size + 1 + 1, 0, none⟩ = _ := ry.cells.2.2.1
  have r3 : Y.drew.frozen? ⟨w.heap.size + 1 + 1, 1, none⟩ = _ := ry.cells.2.2.2
  have hy : Tap Y.drew b k n := ty
  have HY := Lib.hid hy; have BW := Lib.hid bw; have OY := Lib.hid oy; have RY := Lib.hid ry; have NY := Lib.hid ny; have SY := Lib.hid sY; have SZ := Lib.hid sz1
  clear bw ty qy oy ry ny hY hy hb1 sz HS sY sz1
  go_region_with (go_at_call 19; go_loud (refine (CT.out _ HY.out).mono ?_; rintro e w2 ⟨rfl, t2, a2⟩; have T2 := Lib.hid t2; have A2 := Lib.hid a2; obtain ⟨hr, hn2, o2⟩ := st7_on RY.out NY.out OY.out a2 hl SZ.out; obtain ⟨x0, x1, x2, x3⟩ := hr.cells; obtain ⟨y0, y1, y2, y3⟩ := hn2.cells; clear t2 a2 hr hn2))
  all_goals
    go_wp2
    refine bodyPost_ret (v := .tuple #[tpV x x, .bool true]) (by simp [results, Try.results11, x0, x1, go_sem]) rfl ⟨rfl, ?_, ?_⟩
    · exact (T2.out.other (by simp; omega) _).other (by simp; omega) _
    · exact ((((Apart.of_below (S := [b]) (BW.out.drew)).trans A2.out (fun x hx => .inl hx)).setCell (.inr (by dsimp only; omega)) _).setCell (.inr (by dsimp only; omega)) _)
set_option maxRecDepth 100000 in
set_option maxHeartbeats 400000 in
theorem step7_any {w : World} {b : Nat} {k n : ByteArray} (h : Tap w b k n) (hk : k.size ≤ 100000) (hn : n.size ≤ 100000) (kind m : Int) (s : ByteArray) :
    Calls Try.prog 11 #[.pointer (some ⟨b, 0, none⟩), tpV k n, .agg #[.int .i64 kind, .int .i64 m, .string s]] w (UpdS w b (stT k n kind m s).1 (stT k n kind m s).2) := by
  by_cases e0 : kind = 0
  · subst e0
    have e : stT k n 0 m s = (k, n ++ fewS s) := if_pos rfl
    rw [e]; exact step7_0 h hn m s
  by_cases e1 : kind = 1
  · subst e1
    by_cases hm : m < 0 ∨ (n.size : Int) < m
    · have e : stT k n 1 m s = (k, n) := by unfold stT; rw [if_neg (by decide), if_pos rfl, if_pos hm]
      rw [e]; exact step7_1n h hk hn m hm s
    · obtain ⟨j, rfl⟩ := Int.eq_ofNat_of_zero_le (show 0 ≤ m by omega)
      have e : stT k n 1 j s = (k, n.extract 0 j) := by unfold stT; rw [if_neg (by decide), if_pos rfl, if_neg hm]; rfl
      rw [e]; exact step7_1y h hk hn j (by omega) s
  by_cases e2 : kind = 2
  · subst e2
    have e : stT k n 2 m s = (n, n) := by unfold stT; rw [if_neg (by decide), if_neg (by decide), if_pos rfl]
    rw [e]; exact step7_2 h m s
  by_cases e3 : kind = 3
  · subst e3
    have e : stT k n 3 m s = (mixOf k n (fewS s), mixOf k n (fewS s)) := by unfold stT; rw [if_neg (by decide), if_neg (by decide), if_neg (by decide), if_pos rfl]
    rw [e]; exact step7_3 h hk hn m s
  · have e : stT k n kind m s = (k, n) := by unfold stT; rw [if_neg e0, if_neg e1, if_neg e2, if_neg e3]
    rw [e]; exact step7_4 h kind m s (beq_eq_false_iff_ne.2 e0) (beq_eq_false_iff_ne.2 e1) (beq_eq_false_iff_ne.2 e2) (beq_eq_false_iff_ne.2 e3)

/-- What holds at the head of each round. -/
def Inv7 (w : World) (g : Nat) (b : Nat) (k n : ByteArray) (M : Nat) (wr : World) : Prop :=
  Tap wr b k n ∧ Two wr g k n ∧ k.size ≤ M ∧ n.size ≤ M ∧ w.heap.size ≤ b ∧ w.heap.size ≤ g ∧ b ≠ g ∧ Below w.heap.size w wr
/-- What holds behind a step: the block of what is told now. -/
def Aft7 (w : World) (g b : Nat) (k n : ByteArray) (v11 v12 : Value) (wx : World) : Prop :=
  ∃ g7, v11 = .pointer (some ⟨g7, 0, none⟩) ∧ v12 = .bool true ∧ Tap wx b k n ∧ Two wx g7 k n ∧ g7 ≠ b ∧ g7 ≠ g ∧ w.heap.size ≤ g7 ∧ (∃ k0 n0, Two wx g k0 n0) ∧ Below w.heap.size w wx
theorem aft7_A {w wr w4 : World} {g b : Nat} {k n k' n' : ByteArray} (hT : Two wr g k n) (hb0 : w.heap.size ≤ b) (hb1 : b < wr.heap.size) (hbg : b ≠ g) (hbel : Below w.heap.size w wr)
    (t4 : Tap w4 b k' n') (a4 : Apart [b] (wr.alloc (.cells #[.string ByteArray.empty, .string ByteArray.empty] 27)).drew w4) :
    Aft7 w g b k' n' (.pointer (some ⟨wr.heap.size, 0, none⟩)) (.bool true) ((w4.setCell ⟨wr.heap.size, 0, none⟩ (.string k')).setCell ⟨wr.heap.size, 1, none⟩ (.string n')) := by
  have hg := hT.lt
  have q7 := Two.new wr ByteArray.empty ByteArray.empty
  have hbA := (Below.refl wr.heap.size wr).alloc (Nat.le_refl _) (.cells #[.string ByteArray.empty, .string ByteArray.empty] 27)
  have qg := hT.keep (hbA.block _ hg)
  obtain ⟨X, hX⟩ : ∃ X, wr.alloc (.cells #[.string ByteArray.empty, .string ByteArray.empty] 27) = X := ⟨_, rfl⟩
  have sX : X.heap.size = wr.heap.size + 1 := by rw [← hX]; simp
  rw [hX] at q7 hbA qg a4
  have n7 : wr.heap.size ∉ [b] := by simp; omega
  have ng : g ∉ [b] := by simp; omega
  have z := hbel.size
  have q4 : Two w4 wr.heap.size ByteArray.empty ByteArray.empty := q7.keep (a4.block _ (by show _ < X.heap.size; omega) n7)
  have g4 : Two w4 g k n := qg.keep (a4.block _ (by show _ < X.heap.size; omega) ng)
  refine ⟨_, rfl, rfl, ?_, (q4.set0 _).set1 _, by omega, by omega, z, ⟨k, n, ?_⟩, ?_⟩
  · exact (t4.other (by simp; omega) _).other (by simp; omega) _
  · exact (g4.other (by simp; omega) _).other (by simp; omega) _
  · have hA : Below w.heap.size X.drew w4 := a4.to_below (by simp; omega) (by show _ ≤ X.heap.size; omega)
    exact (((hbel.trans (hbA.mono z)).drew.trans hA).setCell (by dsimp only; omega) _).setCell (by dsimp only; omega) _
theorem aft7_B {w wr w4 : World} {g b : Nat} {k n k' n' : ByteArray} (hT : Two wr g k n) (hb0 : w.heap.size ≤ b) (hb1 : b < wr.heap.size) (hbg : b ≠ g) (hbel : Below w.heap.size w wr)
    (t4 : Tap w4 b k' n') (a4 : Apart [b] wr.drew w4) :
    Aft7 w g b k' n' (.pointer (some ⟨w4.heap.size, 0, none⟩)) (.bool true) (w4.alloc (.cells #[.string k', .string n'] 27)) := by
  have hg := hT.lt
  have ng : g ∉ [b] := by simp; omega
  have z := hbel.size
  have z4 : wr.heap.size ≤ w4.heap.size := a4.size
  have g4 : Two w4 g k n := hT.keep (a4.block _ (by show _ < wr.heap.size; omega) ng)
  have hbA := (Below.refl w4.heap.size w4).alloc (Nat.le_refl _) (.cells #[.string k', .string n'] 27)
  have hA : Below w.heap.size wr.drew w4 := a4.to_below (by simp; omega) (by show _ ≤ wr.heap.size; omega)
  exact ⟨_, rfl, rfl, t4.below hbA, Two.new _ _ _, by omega, by omega, by omega, ⟨k, n, g4.keep (hbA.block _ (by omega))⟩, (hbel.drew.trans hA).trans (hbA.mono (by omega))⟩
theorem aft7_inv {w wx : World} {g b : Nat} {k n k0 n0 : ByteArray} {M : Nat} (t : Tap wx b k n) (hg0 : Two wx g k0 n0) (hk : k.size ≤ M) (hn : n.size ≤ M) (h1 : w.heap.size ≤ b) (h2 : w.heap.size ≤ g) (h3 : b ≠ g) (hb : Below w.heap.size w wx) :
    Inv7 w g b k n M ((wx.setCell ⟨g, 0, none⟩ (.string k)).setCell ⟨g, 1, none⟩ (.string n)) :=
  ⟨(t.other (by simp; omega) _).other (by simp; omega) _, (hg0.set0 _).set1 _, hk, hn, h1, h2, h3, (hb.setCell h2 _).setCell h2 _⟩
theorem inv7_below {w wx wy : World} {g b : Nat} {k n : ByteArray} {M : Nat} (h : Inv7 w g b k n M wx) (hb : Below wx.heap.size wx wy) : Inv7 w g b k n M wy := by
  obtain ⟨t, q, hk, hn, h1, h2, h3, hw⟩ := h
  exact ⟨t.below hb, q.keep (hb.block _ q.lt), hk, hn, h1, h2, h3, hw.trans (hb.mono hw.size)⟩
theorem inv7_copy {w wr w3 w4 w5 : World} {g b b3 : Nat} {k n : ByteArray} {M : Nat} (h : Inv7 w g b k n M wr) (t3 : Tap w3 b3 k n) (hb3 : wr.heap.size ≤ b3) (l3 : Below wr.heap.size wr w3) (a4 : Apart [b] w3 w4) (a5 : Apart [b] w4 w5) :
    Inv7 w g b3 k n M w5 := by
  obtain ⟨t, q, hk, hn, h1, h2, h3, hw⟩ := h
  have a : Apart [b] w3 w5 := a4.trans a5 (fun x hx => .inl hx)
  have hl := Tap3.lt t
  have hq := q.lt
  have hz := hw.size
  have hz3 := l3.size
  have ng : g ∉ [b] := by simp; omega
  exact ⟨t3.apart a (by simp; omega), (q.keep (l3.block _ hq)).keep (a.block _ (by omega) ng), hk, hn, by omega, h2, by omega, (hw.trans (l3.mono hz)).trans (a.to_below (by simp; omega) (by omega))⟩
/-- A world behind the reads of one round: nothing that was there has turned. -/
def Held7 (W : World) (b g : Nat) (k n : ByteArray) (w' : World) : Prop :=
  Below W.heap.size W w' ∧ w'.cell? ⟨g, 0, none⟩ = some (.string k) ∧ w'.cell? ⟨g, 1, none⟩ = some (.string n)
theorem held7_start {W : World} {b g : Nat} {k n : ByteArray} (q : Two W g k n) : Held7 W b g k n W.drew := ⟨(Below.refl _ _).drew, q.cells.1, q.cells.2.1⟩
theorem held7_call {W w' w1 : World} {b g : Nat} {k n : ByteArray} (hg : g < W.heap.size) (h : Held7 W b g k n w') (hb : Below w'.heap.size w' w1) : Held7 W b g k n w1 := by
  obtain ⟨h0, h1, h2⟩ := h
  have := h0.size
  exact ⟨h0.trans (hb.mono h0.size), (hb.cell (by dsimp only; omega)).trans h1, (hb.cell (by dsimp only; omega)).trans h2⟩
theorem held7_tap {W w' : World} {b g : Nat} {k n : ByteArray} (t : Tap W b k n) (h : Held7 W b g k n w') : Tap w' b k n := t.below h.1
set_option maxRecDepth 100000 in
set_option maxHeartbeats 400000 in
theorem tnow_b {w : World} {b : Nat} {k n : ByteArray} (h : Tap w b k n) : Calls Try.prog 12 #[.pointer (some ⟨b, 0, none⟩)] w fun e w' => e = .returned (.string n) ∧ Below w.heap.size w w' :=
  (tnow_v (views_yes h)).mono fun e w' ⟨he, hw⟩ => ⟨he, hw ▸ (Below.refl _ _).drew⟩
set_option maxRecDepth 100000 in
set_option maxHeartbeats 400000 in
theorem tkept_b {w : World} {b : Nat} {k n : ByteArray} (h : Tap w b k n) : Calls Try.prog 13 #[.pointer (some ⟨b, 0, none⟩)] w fun e w' => e = .returned (.string k) ∧ Below w.heap.size w w' :=
  (tkept_v (views_yes h)).mono fun e w' ⟨he, hw⟩ => ⟨he, hw ▸ (Below.refl _ _).drew⟩
set_option maxRecDepth 100000 in
set_option maxHeartbeats 400000 in
theorem tdirty_b {w : World} {b : Nat} {k n : ByteArray} (hk : k.size ≤ 4294967296) (hn : n.size ≤ 4294967296) (h : Tap w b k n) : Calls Try.prog 14 #[.pointer (some ⟨b, 0, none⟩)] w fun e w' => e = .returned (.int .i64 (unlL k.data.toList n.data.toList).length) ∧ Below w.heap.size w w' :=
  tdirty_v (views_yes h) (Below.refl _ _).drew hk hn
set_option maxRecDepth 100000 in
set_option maxHeartbeats 400000 in
theorem tsectors_b {w : World} {b : Nat} {k n : ByteArray} (hk : k.size ≤ 4294967296) (hn : n.size ≤ 4294967296) (h : Tap w b k n) : Calls Try.prog 16 #[.pointer (some ⟨b, 0, none⟩)] w fun e w' => e = .returned (.int .i64 (cntN (max k.size n.size))) ∧ Below w.heap.size w w' :=
  tsectors_v (views_yes h) (Below.refl _ _).drew hk hn
end Go.Proofs.Ytcoacbknhlnjmaa
