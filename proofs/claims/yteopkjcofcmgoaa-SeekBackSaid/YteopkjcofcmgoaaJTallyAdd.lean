/-
  Joined: TallyAdd, SeekRef.
-/
import Derived.Test.YteopkjcofcmgoaaJUtfRTake
import Derived.Test.YteopkjcofcmgoaaJCells
import Derived.Laws.OwnMore
import Derived.Deep.AppendLies
import Derived.Deep.Draws
import Derived.Test.YteopkjcofcmgoaaJUtfMath
import Derived.Test.YteopkjcofcmgoaaJUtfLeaf
import Derived.Deep.QuietTactic
import Derived.BigQuiet
namespace Go.Proofs.Yteopkjcofcmgoaa
open Go.RowKit

theorem block_of_add (a : Addr) (n : Nat) : (a.add n).block = a.block := by unfold Addr.add; split <;> rfl
theorem add_of_add (a : Addr) (i j : Nat) : (a.add i).add j = a.add (i + j) := by
  unfold Addr.add
  by_cases hi : i = 0 <;> by_cases hj : j = 0 <;> simp [hi, hj, Nat.add_assoc]

/-- A count. -/
structure Cnt where
  b : Int
  r : Int
  l : Int
def Cnt.plus (x y : Cnt) : Cnt := ⟨wrap64 (x.b + y.b), wrap64 (x.r + y.r), wrap64 (x.l + y.l)⟩
def Cnt.sum (l : List Cnt) : Cnt := l.foldl Cnt.plus ⟨0, 0, 0⟩
theorem Cnt.sum_snoc (l : List Cnt) (x : Cnt) : Cnt.sum (l ++ [x]) = (Cnt.sum l).plus x := by unfold Cnt.sum; rw [List.foldl_append]; rfl

/-- A slice that reads as these counts; its row lies below B. -/
def Cnts (w : World) (B : Nat) (a : Option Addr) (l : List Cnt) : Prop :=
  ∀ (k : Nat) (h : k < l.length), ∃ ad, a = some ad ∧ ad.block < B ∧ w.cell? (ad.add (k * 3)) = some (.int .i64 (l[k]).b) ∧ w.cell? ⟨(ad.add (k * 3)).block, (ad.add (k * 3)).off + 1, none⟩ = some (.int .i64 (l[k]).r) ∧ w.cell? ⟨(ad.add (k * 3)).block, (ad.add (k * 3)).off + 2, none⟩ = some (.int .i64 (l[k]).l)
theorem Cnts.keep {w w' : World} {B : Nat} {a : Option Addr} {l : List Cnt} (h : Cnts w B a l) (hk : ∀ p : Addr, p.block < B → w'.cell? p = w.cell? p) : Cnts w' B a l := fun k hl => by
  obtain ⟨ad, e, hb, h1, h2, h3⟩ := h k hl
  exact ⟨ad, e, hb, (hk _ (by rw [block_of_add]; exact hb)).trans h1, (hk _ (by rw [block_of_add]; exact hb)).trans h2, (hk _ (by rw [block_of_add]; exact hb)).trans h3⟩
theorem Cnts.below {w w' : World} {B : Nat} {a : Option Addr} {l : List Cnt} (h : Cnts w B a l) (hb : Below B w w') : Cnts w' B a l := h.keep fun _ hp => hb.cell hp
theorem Cnts.more {w : World} {B B' : Nat} {a : Option Addr} {l : List Cnt} (h : Cnts w B a l) (hB : B ≤ B') : Cnts w B' a l := fun k hl => by
  obtain ⟨ad, e, hb, h1⟩ := h k hl
  exact ⟨ad, e, by omega, h1⟩

/-- The three cells of a new block written anew. -/
theorem set3_new (w : World) (t : TypeId) (a b c x y z : Value) (d g : Nat) (hg : g = w.heap.size) :
    (((((w.alloc (.cells #[a, b, c] t)).drewN d).setCell ⟨g, 0, none⟩ x).setCell ⟨g, 1, none⟩ y).setCell ⟨g, 2, none⟩ z) = (w.alloc (.cells #[x, y, z] t)).drewN d := by
  show ((((w.alloc (.cells #[a, b, c] t)).setCell ⟨g, 0, none⟩ x).setCell ⟨g, 1, none⟩ y).setCell ⟨g, 2, none⟩ z).drewN d = _
  rw [World.setCell_alloc_at _ _ _ _ _ hg, World.setCell_alloc_at _ _ _ _ _ hg, World.setCell_alloc_at _ _ _ _ _ hg]
  rfl

theorem sum_take (l : List Cnt) (k : Nat) (h : k < l.length) : Cnt.sum (l.take (k + 1)) = (Cnt.sum (l.take k)).plus (l[k]'h) := by
  rw [List.take_succ_eq_append_getElem h, Cnt.sum_snoc]

set_option maxRecDepth 100000 in
set_option maxHeartbeats 400000 in
theorem tadd_any (a : Option Addr) (l : List Cnt) (c : Nat) (hl : l.length ≤ 1000) (w : World) (hr : Cnts w w.heap.size a l) :
    Calls Try.prog 45 #[.slice a l.length c] w fun e w' => e = .returned (cntV (Cnt.sum l).b (Cnt.sum l).r (Cnt.sum l).l) ∧ Below w.heap.size w w' := by
  obtain ⟨n, hn⟩ : ∃ n, l.length = n := ⟨_, rfl⟩
  have HN := Lib.hid hn
  rw [hn] at hl ⊢
  clear hn
  have HR := Lib.hid hr; clear hr
  go_enter Try.func45, Try.ntmps45
  go_wp2
  go_loopw [9] (fun i wr => ∃ k : Nat, k ≤ n ∧ i = .int .i64 k ∧ Below w.heap.size w wr ∧ Blk3 wr w.heap.size (.int .i64 0) (.int .i64 0) (.int .i64 0) 48 ∧ Blk3 wr (w.heap.size + 1) (.int .i64 (Cnt.sum (l.take k)).b) (.int .i64 (Cnt.sum (l.take k)).r) (.int .i64 (Cnt.sum (l.take k)).l) 48) (fun i _ => n - (intOf i).toNat)
  case atStart => exact ⟨0, by omega, rfl, ((Below.refl _ _).alloc (Nat.le_refl _) _).alloc (by simp) _, (Blk3.new _ _ _ _ _).alloc _, Blk3.new (w.alloc (.cells #[.int .i64 0, .int .i64 0, .int .i64 0] 48)) (.int .i64 0) (.int .i64 0) (.int .i64 0) 48 |> fun h => by rw [show (w.alloc (.cells #[.int .i64 0, .int .i64 0, .int .i64 0] 48)).heap.size = w.heap.size + 1 by simp] at h; exact h⟩
  case round =>
    obtain ⟨k, hk, rfl, hbel, hb0, hb1⟩ := hrel
    by_cases hlt : k < n
    · have hs := sum_take l k (by rw [HN.out]; exact hlt)
      have HR2 := HR.out.below hbel
      obtain ⟨ad, rfl, hb, q1, q2, q3⟩ := HR2 k (by rw [HN.out]; exact hlt)
      clear HR2
      obtain ⟨x, hx⟩ : ∃ x, l[k]'(by rw [HN.out]; exact hlt) = x := ⟨_, rfl⟩
      obtain ⟨y, hy⟩ : ∃ y, Cnt.sum (l.take k) = y := ⟨_, rfl⟩
      rw [hx] at hs q1 q2 q3
      rw [hy] at hs hb1
      have HS := Lib.hid hs; clear hs hx hy
      have hlt1 := hb1.lt
      have f0 := hb1.c0
      have f1 := hb1.c1
      have f2 := hb1.c2
      have f3 := hb1.free 0
      have f4 := hb1.free 1
      have f5 := hb1.free 2
      have H0 := Lib.hid hb0; have H1 := Lib.hid hb1
      clear hb0 hb1
      go_wp2
      go_roundw
      case rel =>
        refine ⟨k + 1, by omega, by go_num, ?_, ?_, ?_⟩
        · exact (((hbel.setCell (p := ⟨w.heap.size + 1, 0, none⟩) (by simp) _).setCell (p := ⟨w.heap.size + 1, 1, none⟩) (by simp) _).setCell (p := ⟨w.heap.size + 1, 2, none⟩) (by simp) _).alloc (by simpa using hbel.size) _
        · exact (((H0.out.other ⟨w.heap.size + 1, 0, none⟩ (by simp) _).other ⟨w.heap.size + 1, 1, none⟩ (by simp) _).other ⟨w.heap.size + 1, 2, none⟩ (by simp) _).alloc _
        · rw [HS.out]; exact (((H1.out.s0 _).s1 _).s2 _).alloc _
      case measure => simp [intOf]; omega
    · have e : l.take k = l := List.take_of_length_le (by rw [HN.out]; omega)
      rw [e] at hb1; clear e
      have f0 := hb1.c0
      have f1 := hb1.c1
      have f2 := hb1.c2
      have g0 := hb0.c0
      have g1 := hb0.c1
      have g2 := hb0.c2
      have g3 := hb0.free 0
      have g4 := hb0.free 1
      have g5 := hb0.free 2
      have hlt1 := hb1.lt
      clear hb0 hb1
      go_wp2
      refine bodyPost_ret (v := cntV (Cnt.sum l).b (Cnt.sum l).r (Cnt.sum l).l) (by simp [results, Try.results45, go_sem, g0, g1, g2]) rfl ⟨rfl, ?_⟩
      exact ((hbel.setCell (p := ⟨w.heap.size, 0, none⟩) (Nat.le_refl _) _).setCell (p := ⟨w.heap.size, 1, none⟩) (Nat.le_refl _) _).setCell (p := ⟨w.heap.size, 2, none⟩) (Nat.le_refl _) _
end Go.Proofs.Yteopkjcofcmgoaa
namespace Go.Proofs.Yteopkjcofcmgoaa
open Go.RowKit
set_option linter.unusedVariables false
set_option linter.unusedSimpArgs false

theorem b_yes {b : Bool} (h : ¬ b = false) : b = true := by cases b with
  | false => exact absurd rfl h
  | true => rfl
theorem head_list (s : ByteArray) (k : Nat) : (s.extract 0 k).data.toList = s.data.toList.take k := by rw [extract_list, List.drop_zero, Nat.sub_zero]
theorem list_size (s : ByteArray) : s.data.toList.length = s.size := by simp
/-- What is wrong with a place, and how many runes stand ahead of it. -/
def placeE (s : ByteArray) (p : Int) : Int := if p < 0 ∨ (s.size : Int) < p then 3 else if edgeB s.data.toList p = false then 4 else 0
def placeV (s : ByteArray) (p : Int) : Int := if placeE s p = 0 then runes (s.data.toList.take p.toNat) else 0
theorem place_zero {s : ByteArray} {p : Int} (h : placeE s p = 0) : ∃ k : Nat, p = k ∧ k ≤ s.size ∧ edge s.data.toList k ∧ edgeB s.data.toList p = true := by
  unfold placeE at h
  split at h
  · cases h
  split at h
  · cases h
  rename_i h1 h2
  obtain ⟨k, rfl⟩ := Int.eq_ofNat_of_zero_le (show 0 ≤ p by omega)
  have h3 := b_yes h2
  refine ⟨k, rfl, by omega, ?_, h3⟩
  unfold edgeB at h3
  rw [decide_eq_true_eq, Int.toNat_natCast] at h3
  exact h3.2
theorem place_yes {s : ByteArray} {k : Nat} (hk : k ≤ s.size) (h : edge s.data.toList k) : placeE s k = 0 := by
  unfold placeE
  rw [if_neg (by omega), if_neg]
  unfold edgeB
  rw [decide_eq_false_iff_not, Int.toNat_natCast]
  exact fun g => g ⟨by omega, h⟩
theorem ret_ie {a b c d : Int} (h1 : a = b) (h2 : c = d) : Ending.returned (.tuple #[.int .i64 a, .int .i64 c]) = .returned (.tuple #[.int .i64 b, .int .i64 d]) := by rw [h1, h2]
theorem ret_iie {a b c d e f : Int} (h1 : a = b) (h2 : c = d) (h3 : e = f) : Ending.returned (.tuple #[.int .i64 a, .int .i64 c, .int .i64 e]) = .returned (.tuple #[.int .i64 b, .int .i64 d, .int .i64 f]) := by rw [h1, h2, h3]

set_option maxRecDepth 100000 in
set_option maxHeartbeats 800000 in
theorem rrune19_any {s : ByteArray} (hs : s.size ≤ 5000) {p : Int} (w : World) :
    Calls Try.prog 10 #[.string s, .int .i64 p] w fun e w' => e = .returned (.tuple #[.int .i64 (placeV s p), .int .i64 (placeE s p)]) ∧ w' = w := by
  by_cases h0 : p < 0
  · have hE : placeE s p = 3 := by unfold placeE; rw [if_pos (.inl h0)]
    have hV : placeV s p = 0 := by unfold placeV; rw [hE, if_neg (by decide)]
    rw [hE, hV]
    clear hE hV
    go_enter Try.func10, Try.ntmps10
    go_wp2
    go_ret2
    exact ⟨rfl, rfl⟩
  by_cases h1 : (s.size : Int) < p
  · have hE : placeE s p = 3 := by unfold placeE; rw [if_pos (.inr h1)]
    have hV : placeV s p = 0 := by unfold placeV; rw [hE, if_neg (by decide)]
    rw [hE, hV]
    clear hE hV
    go_enter Try.func10, Try.ntmps10
    go_wp2
    go_ret2
    exact ⟨rfl, rfl⟩
  obtain ⟨k, rfl⟩ := Int.eq_ofNat_of_zero_le (show 0 ≤ p by omega)
  have hk : k ≤ s.size := by omega
  have g1 : ¬ (k : Int) < 0 := by omega
  have g2 : (k : Int) ≤ (s.size : Int) := by omega
  have g3 : decide ((s.size : Int) < (k : Int)) = false := decide_eq_false (by omega)
  have g4 : decide (s.size < k) = false := decide_eq_false (by omega)
  have ce := redge_any s (by unfold maxLen; omega) k
  by_cases he : edgeB s.data.toList k = false
  · have hE : placeE s k = 4 := by unfold placeE; rw [if_neg (by omega), if_pos he]
    have hV : placeV s k = 0 := by unfold placeV; rw [hE, if_neg (by decide)]
    rw [hE, hV]
    rw [he] at ce
    have CE := Lib.hid ce
    clear hE hV ce he
    go_enter Try.func10, Try.ntmps10
    go_wp2_with fail
    refine (CE.out _).mono ?_; rintro e w1 ⟨rfl, rfl⟩
    go_wp2
    go_ret2
    exact ⟨rfl, rfl⟩
  · have hE : placeE s k = 0 := by unfold placeE; rw [if_neg (by omega), if_neg he]
    have hV : placeV s k = runes (s.data.toList.take k) := by unfold placeV; rw [hE, if_pos rfl, Int.toNat_natCast]
    rw [hE, hV]
    rw [b_yes he] at ce
    have cr := rrunes_any (s.extract 0 k) (by rw [piece_size s k hk]; unfold maxLen; omega)
    rw [head_list] at cr
    obtain ⟨x, hx⟩ : ∃ x, runes (s.data.toList.take k) = x := ⟨_, rfl⟩
    rw [hx] at cr ⊢
    have CE := Lib.hid ce; have CR := Lib.hid cr
    clear hE hV ce he cr hx
    go_enter Try.func10, Try.ntmps10
    go_wp2_with fail
    refine (CE.out _).mono ?_; rintro e w1 ⟨rfl, rfl⟩
    go_wp2_with fail
    refine (CR.out _).mono ?_; rintro e w1 ⟨rfl, rfl⟩
    go_wp2
    go_ret2
    exact ⟨rfl, rfl⟩

set_option maxRecDepth 100000 in
set_option maxHeartbeats 800000 in
theorem rbyte19_no {s : ByteArray} (hs : s.size ≤ 5000) {n : Int} (h : n < 0 ∨ (runes s.data.toList : Int) < n) (w : World) :
    Calls Try.prog 12 #[.string s, .int .i64 n] w fun e w' => e = .returned (.tuple #[.int .i64 0, .int .i64 3]) ∧ w' = w := by
  have cr := rrunes_any s (by unfold maxLen; omega)
  obtain ⟨x, hx⟩ : ∃ x, runes s.data.toList = x := ⟨_, rfl⟩
  rw [hx] at cr h
  have CR := Lib.hid cr
  clear cr hx
  rcases Int.lt_or_le n 0 with h0 | h0
  · clear h
    go_enter Try.func12, Try.ntmps12
    go_wp2
    go_ret2
    exact ⟨rfl, rfl⟩
  · have h1 : (x : Int) < n := by omega
    clear h
    go_enter Try.func12, Try.ntmps12
    go_wp2_with fail
    refine (CR.out _).mono ?_; rintro e w1 ⟨rfl, rfl⟩
    go_wp2
    go_ret2
    exact ⟨rfl, rfl⟩

set_option maxRecDepth 100000 in
set_option maxHeartbeats 1600000 in
theorem rbyte19_yes {s : ByteArray} (hs : s.size ≤ 5000) (hv : clean s.data.toList) {n m : Nat} (hn : n ≤ runes s.data.toList) (u : UptoP runes s.data.toList n m) (w : World) :
    Calls Try.prog 12 #[.string s, .int .i64 n] w fun e w' => e = .returned (.tuple #[.int .i64 m, .int .i64 0]) ∧ Below w.heap.size w w' := by
  have cr := rrunes_any s (by unfold maxLen; omega)
  have hr := upto_runes hn u
  have hm : m ≤ s.size := by have := u.1; rw [list_size] at this; exact this
  obtain ⟨x, hx⟩ : ∃ x, runes s.data.toList = x := ⟨_, rfl⟩
  rw [hx] at cr hn
  have hnx : (n : Int) ≤ (x : Int) := by omega
  have hn0 : (0 : Int) ≤ (n : Int) := by omega
  have d5 : decide ((n : Int) < 0) = false := decide_eq_false (by omega)
  have d6 : decide ((x : Int) < (n : Int)) = false := decide_eq_false (by omega)
  have d7 : decide (x < n) = false := decide_eq_false (by omega)
  have CR := Lib.hid cr; have HR := Lib.hid hr; have HV := Lib.hid hv
  clear cr hr hx u hv
  go_enter Try.func12, Try.ntmps12
  go_wp2_with fail
  refine (CR.out _).mono ?_; rintro e w1 ⟨rfl, rfl⟩
  go_wp2
  go_loopw [6] (fun i wr => ∃ k : Nat, k ≤ m ∧ i = .int .i64 k ∧ Below w.heap.size w wr) (fun i _ => m - (intOf i).toNat)
  case atStart => exact ⟨0, Nat.zero_le _, rfl, Below.refl _ _⟩
  case round =>
    obtain ⟨k, hk, rfl, hbel⟩ := hrel
    by_cases hlt : k < m
    · have b1 : (k : Int) < (s.size : Int) := by omega
      have b2 : k < s.size := by omega
      have b3 : (k : Int) ≤ (s.size : Int) := by omega
      have b4 : (0 : Int) ≤ (k : Int) := by omega
      have c1 := rrunes_any (s.extract 0 k) (by rw [piece_size s k (by omega)]; unfold maxLen; omega)
      rw [head_list] at c1
      have c2 := redge_any s (by unfold maxLen; omega) k
      have hno := HR.out.2.2 k hlt
      obtain ⟨y, hy⟩ : ∃ y, runes (s.data.toList.take k) = y := ⟨_, rfl⟩
      rw [hy] at c1 hno
      by_cases hyn : y < n
      · have d1 : (y : Int) < (n : Int) := by omega
        have C1 := Lib.hid c1
        have HB := Lib.hid hbel
        clear c1 c2 hno hy hbel
        go_wp2_with (first | (go_at_call 25; (with_reducible refine (C1.out _).mono ?_); rintro e w' ⟨rfl, rfl⟩))
        go_roundw
        case rel => exact ⟨k + 1, by omega, by go_num, HB.out⟩
        case measure => simp [intOf]; omega
      · have d1 : ¬ (y : Int) < (n : Int) := by omega
        have he : edgeB s.data.toList k = false := by
          unfold edgeB
          rw [decide_eq_false_iff_not, Int.toNat_natCast]
          exact fun g => hno ⟨by omega, edge_first HV.out (by rw [list_size]; exact b2) g.2⟩
        rw [he] at c2
        have C1 := Lib.hid c1; have C2 := Lib.hid c2
        have HB := Lib.hid hbel
        clear c1 c2 hno hy he hbel
        go_wp2_with (first
          | (go_at_call 25; (with_reducible refine (C1.out _).mono ?_); rintro e w' ⟨rfl, rfl⟩)
          | (go_at_call 24; (with_reducible refine (C2.out _).mono ?_); rintro e w' ⟨rfl, rfl⟩))
        go_roundw
        case rel => exact ⟨k + 1, by omega, by go_num, HB.out⟩
        case measure => simp [intOf]; omega
    · obtain rfl : k = m := by omega
      have HB := Lib.hid hbel
      clear hbel
      by_cases hz : k < s.size
      · have b1 : (k : Int) < (s.size : Int) := by omega
        have b3 : (k : Int) ≤ (s.size : Int) := by omega
        have b4 : (0 : Int) ≤ (k : Int) := by omega
        have c1 := rrunes_any (s.extract 0 k) (by rw [piece_size s k (by omega)]; unfold maxLen; omega)
        rw [head_list, HR.out.2.1] at c1
        have c2 := redge_any s (by unfold maxLen; omega) k
        have he : edgeB s.data.toList k = true := by
          unfold edgeB
          rw [decide_eq_true_eq, Int.toNat_natCast]
          exact ⟨by omega, HR.out.1⟩
        rw [he] at c2
        have C1 := Lib.hid c1; have C2 := Lib.hid c2
        clear c1 c2 he
        go_wp2_with (first
          | (go_at_call 25; (with_reducible refine (C1.out _).mono ?_); rintro e w' ⟨rfl, rfl⟩)
          | (go_at_call 24; (with_reducible refine (C2.out _).mono ?_); rintro e w' ⟨rfl, rfl⟩))
        go_ret2
        exact ⟨rfl, HB.out⟩
      · have b1 : ¬ (k : Int) < (s.size : Int) := by omega
        go_wp2
        go_ret2
        exact ⟨rfl, HB.out⟩

/-- A row of numbers that the call has made. -/
def RetStarts (w : World) (l : List Nat) (e : Ending) (w' : World) : Prop :=
  ∃ g c, e = .returned (.slice (some ⟨g, 0, none⟩) l.length c) ∧ (∀ j (h : j < l.length), w'.cell? ⟨g, j, none⟩ = some (.int .i64 (l[j] : Nat))) ∧ g < w'.heap.size ∧ Below w.heap.size w w'
theorem news_num (w : World) (n : Int) (t : TypeId) : ∀ j u, [Value.int .i64 n][j]? = some u → (w.alloc (.cells #[.int .i64 n] t)).cell? ((⟨w.heap.size, 0, none⟩ : Addr).add j) = some u := by
  intro j u hj
  match j, hj with
  | 0, hj => simp at hj; subst hj; simp [Addr.add]
theorem one_num (n : Int) : ∀ u ∈ [Value.int .i64 n], u.oneCell' = true := by intro u hu; simp at hu; subst hu; rfl
theorem num_info : (Try.prog.info? 3).map (fun i => (i.zero, i.size, i.bytes)) = some (some (.int .i64 0), 1, 8) := by kernel_rfl
def numVs (l : List Nat) : List Value := l.map fun x => Value.int .i64 (x : Nat)
theorem numVs_app (l : List Nat) (n : Nat) : numVs (l ++ [n]) = numVs l ++ [.int .i64 n] := by simp [numVs]
theorem ret_starts {w wr : World} {v : Value} {l : List Nat} (h0 : 0 < l.length) (h : wr.ownsRow w.heap.size 3 1 v l.length (numVs l)) (hb : Below w.heap.size w wr) : RetStarts w l (.returned v) wr := by
  obtain ⟨g, cap, rfl⟩ : ∃ g cap, v = .slice (some ⟨g, 0, none⟩) l.length cap := by
    rcases h.2 with ⟨-, h1⟩ | ⟨g, cap, cur, h1, -⟩
    · omega
    · exact ⟨g, cap, h1⟩
  refine ⟨g, cap, rfl, fun j hj => ?_, (h.lt g rfl).2, hb⟩
  rw [h.cellAt j (by omega), numVs, List.getElem?_map, List.getElem?_eq_getElem hj]
  rfl
theorem starts_pos (l : List UInt8) (k : Nat) (h : k ≤ l.length) : 0 < (startsL l k).length := by rw [starts_len l k h]; omega
theorem starts_le (l : List UInt8) (k : Nat) (h : k ≤ l.length) : (startsL l k).length ≤ k + 1 := by
  rw [starts_len l k h]
  have := lines_le (l.take k)
  rw [List.length_take] at this
  omega

set_option maxRecDepth 100000 in
set_option maxHeartbeats 1600000 in
theorem rstarts_any {s : ByteArray} (hs : s.size ≤ 5000) (w : World) :
    Calls Try.prog 16 #[.string s] w (RetStarts w (startsL s.data.toList s.size)) := by
  obtain ⟨i0, hi, hz0, hz1, hz2⟩ := info_parts num_info
  go_enter Try.func16, Try.ntmps16
  go_wp2
  go_loopw [3, 4] (fun v i wr => ∃ (k : Nat) (u : Value), k ≤ s.size ∧ i = .int .i64 k ∧ u = v ∧ wr.ownsRow w.heap.size 3 1 u (startsL s.data.toList k).length (numVs (startsL s.data.toList k)) ∧ Below w.heap.size w wr) (fun _ i _ => s.size - (intOf i).toNat)
  case atStart => exact ⟨0, _, Nat.zero_le _, rfl, rfl, World.ownsRow_lit w #[.int .i64 0] 1 (Nat.le_refl _) (by unfold maxLen; omega) rfl, (Below.refl _ _).alloc (Nat.le_refl _) _⟩
  case round =>
    obtain ⟨k, v, hk, rfl, rfl, hown, hbel⟩ := hrel
    by_cases hlt : k < s.size
    · have hle := starts_le s.data.toList k (by rw [list_size]; omega)
      have hbt := bt_get s k hlt
      by_cases hc : bt s.data.toList k = 10
      · have hst : startsL s.data.toList (k + 1) = startsL s.data.toList k ++ [k + 1] := by rw [startsL, if_pos hc]
        rw [hbt] at hc
        have HS := Lib.hid hst
        have hsz : w.heap.size ≤ wr.heap.size := hbel.size
        have d1 : ((s[k].toNat : Int) == 10) = true := by rw [hc]; rfl
        obtain ⟨N, hN⟩ : ∃ N, (startsL s.data.toList k).length = N := ⟨_, rfl⟩
        rw [hN] at hown hle
        have HN := Lib.hid hN
        clear hst hbt hN
        go_wp2_with (at_builtin; refine wpList_append_own _ rfl _ _ 36 rfl w.heap.size 3 i0 (.int .i64 0) 1 8 Try.underlying36 hi hz0 hz1 hz2 rfl (by decide) _ _ _ rfl (hown.alloc _) ⟨wr.heap.size, 0, none⟩ 1 1 [.int .i64 ((k : Int) + 1)] rfl rfl (news_num _ _ _) (one_num _) (by unfold maxLen; omega) (by omega) (Nat.le_trans hsz (by simp)) ?_; intro v' w1 hown' hgrow _)
        have hb1 : Below w.heap.size w w1 := (hbel.alloc hsz _).grown hgrow (Nat.le_trans hsz (by simp)) (own_block hown)
        have ho1 : w1.ownsRow w.heap.size 3 1 v' (startsL s.data.toList (k + 1)).length (numVs (startsL s.data.toList (k + 1))) := by
          rw [HS.out, numVs_app, List.length_append, HN.out]
          exact hown'
        have HO := Lib.hid ho1; have HB := Lib.hid hb1
        clear hown' hgrow hown hbel ho1 hb1
        go_wp2
        go_roundw
        case rel => exact ⟨k + 1, _, by omega, by go_num, rfl, HO.out, HB.out⟩
        case measure => simp [intOf]; omega
      · have hst : startsL s.data.toList (k + 1) = startsL s.data.toList k := by rw [startsL, if_neg hc]
        rw [hbt] at hc
        have HS := Lib.hid hst
        have d1 : ((s[k].toNat : Int) == 10) = false := by simpa using (show ¬ (s[k].toNat : Int) = 10 by omega)
        have HO := Lib.hid hown; have HB := Lib.hid hbel
        clear hst hbt hown hbel hle
        go_wp2
        go_roundw
        case rel => exact ⟨k + 1, _, by omega, by go_num, rfl, by rw [HS.out]; exact HO.out, HB.out⟩
        case measure => simp [intOf]; omega
    · obtain rfl : k = s.size := by omega
      have HR := Lib.hid (ret_starts (starts_pos s.data.toList s.size (by rw [list_size]; exact Nat.le_refl _)) hown hbel)
      clear hown hbel
      go_wp2
      go_ret
      exact HR.out

/-- Whether there is such a line. -/
theorem starts_count (s : ByteArray) : (startsL s.data.toList s.size).length = lines s.data.toList + 1 := by
  have := starts_len s.data.toList s.size (by rw [list_size]; exact Nat.le_refl _)
  rw [this, List.take_of_length_le (by rw [list_size]; exact Nat.le_refl _)]
theorem starts_get (s : ByteArray) (j : Nat) (h : j < (startsL s.data.toList s.size).length) : StartP s.data.toList j (startsL s.data.toList s.size)[j] := (starts_at s.data.toList s.size (by rw [list_size]; exact Nat.le_refl _) j h).1
set_option maxRecDepth 100000 in
set_option maxHeartbeats 800000 in
theorem rstart19_no {s : ByteArray} (hs : s.size ≤ 5000) {n : Int} (h : n < 0 ∨ (lines s.data.toList : Int) < n) (w : World) :
    Calls Try.prog 18 #[.string s, .int .i64 n] w fun e w' => e = .returned (.tuple #[.int .i64 0, .int .i64 3]) ∧ Below w.heap.size w w' := by
  have cs := rstarts_any hs w
  have hl := starts_count s
  obtain ⟨l, hL⟩ : ∃ l, startsL s.data.toList s.size = l := ⟨_, rfl⟩
  rw [hL] at cs hl
  have CS := Lib.hid cs
  clear cs hL
  rcases Int.lt_or_le n 0 with h0 | h0
  · clear h hl
    go_enter Try.func18, Try.ntmps18
    go_wp2_with fail
    refine CS.out.mono ?_; rintro e w1 ⟨g, c, rfl, -, -, hb1⟩
    go_wp2
    go_ret2
    exact ⟨rfl, hb1⟩
  · obtain ⟨N, hN⟩ : ∃ N, l.length = N := ⟨_, rfl⟩
    rw [hN] at hl
    have h1 : (N : Int) ≤ n := by omega
    have HN := Lib.hid hN
    clear h hl hN
    go_enter Try.func18, Try.ntmps18
    go_wp2_with fail
    refine CS.out.mono ?_; rintro e w1 ⟨g, c, rfl, -, -, hb1⟩
    rw [HN.out]
    go_wp2
    go_ret2
    exact ⟨rfl, hb1⟩
set_option maxRecDepth 100000 in
set_option maxHeartbeats 800000 in
theorem rstart19_yes {s : ByteArray} (hs : s.size ≤ 5000) {n p : Nat} (hn : n ≤ lines s.data.toList) (hp : StartP s.data.toList n p) (w : World) :
    Calls Try.prog 18 #[.string s, .int .i64 n] w fun e w' => e = .returned (.tuple #[.int .i64 p, .int .i64 0]) ∧ Below w.heap.size w w' := by
  have cs := rstarts_any hs w
  have hl := starts_count s
  have hg := (starts_get s n (by omega)).same hp
  obtain ⟨l, hL⟩ : ∃ l, startsL s.data.toList s.size = l := ⟨_, rfl⟩
  have hnl : n < l.length := by rw [← hL]; omega
  have hg' : l[n] = p := by subst hL; exact hg
  rw [hL] at cs hl
  have CS := Lib.hid cs
  obtain ⟨N, hN⟩ : ∃ N, l.length = N := ⟨_, rfl⟩
  have HN := Lib.hid hN; have HG := Lib.hid (show ∃ h : n < l.length, l[n] = p from ⟨hnl, hg'⟩)
  have b1 : (n : Int) < (N : Int) := by omega
  have b2 : n < N := by omega
  have b3 : (0 : Int) ≤ (n : Int) := by omega
  have b4 : ¬ (N : Int) ≤ (n : Int) := by omega
  clear cs hL hg hg' hnl hl hN hn hp
  go_enter Try.func18, Try.ntmps18
  go_wp2_with fail
  refine CS.out.mono ?_; rintro e w1 ⟨g, c, rfl, hc, hgl, hb1⟩
  obtain ⟨x1, x2⟩ := HG.out
  have q0 := hc n x1
  rw [x2] at q0
  clear x1 x2
  rw [HN.out]
  go_wp2
  go_ret2
  exact ⟨rfl, hb1⟩

set_option maxRecDepth 100000 in
set_option maxHeartbeats 800000 in
theorem rline19_no {s : ByteArray} (hs : s.size ≤ 5000) {p : Int} (h : placeE s p ≠ 0) (w : World) :
    Calls Try.prog 14 #[.string s, .int .i64 p] w fun e w' => e = .returned (.tuple #[.int .i64 0, .int .i64 0, .int .i64 (placeE s p)]) ∧ w' = w := by
  have cr := rrune19_any hs (p := p) w
  obtain ⟨E, hE⟩ : ∃ E, placeE s p = E := ⟨_, rfl⟩
  obtain ⟨V, hV⟩ : ∃ V, placeV s p = V := ⟨_, rfl⟩
  rw [hE, hV] at cr
  rw [hE] at h ⊢
  have CR := Lib.hid cr
  clear cr hE hV
  go_enter Try.func14, Try.ntmps14
  go_wp2_with fail
  refine CR.out.mono ?_; rintro e w1 ⟨rfl, rfl⟩
  go_wp2
  refine bodyPost_ret (v := .tuple #[.int .i64 0, .int .i64 0, .int .i64 E]) (by simp [results, Try.results14, go_sem]) rfl ?_
  exact ⟨rfl, rfl⟩

set_option maxRecDepth 100000 in
set_option maxHeartbeats 1600000 in
theorem rline19_yes {s : ByteArray} (hs : s.size ≤ 5000) {k p : Nat} (hk : k ≤ s.size) (he : edge s.data.toList k) (hp : StartP s.data.toList (lines (s.data.toList.take k)) p) (w : World) :
    Calls Try.prog 14 #[.string s, .int .i64 k] w fun e w' => e = .returned (.tuple #[.int .i64 (lines (s.data.toList.take k)), .int .i64 ((runes (s.data.toList.take k) - runes (s.data.toList.take p) : Nat)), .int .i64 0]) ∧ Below w.heap.size w w' := by
  have cr := rrune19_any hs (p := k) w
  rw [place_yes hk he] at cr
  have cs := rstarts_any hs
  have hl := starts_count s
  have hg := starts_get s
  have hle : p ≤ k := hp.le_iff.2 (Nat.le_refl _)
  have hL : lines (s.data.toList.take k) ≤ lines s.data.toList := by
    have := meas_lines.mono s.data.toList (show k ≤ s.size from hk)
    have e : s.data.toList.take s.size = s.data.toList := List.take_of_length_le (by rw [list_size]; exact Nat.le_refl _)
    rwa [e] at this
  have cu := rrunes_any (s.extract p k) (by simp; unfold maxLen; omega)
  rw [extract_list, count_part s.data.toList hle runes meas_runes] at cu
  have hiff : ∀ j (h : j < (startsL s.data.toList s.size).length), (startsL s.data.toList s.size)[j] ≤ k ↔ j ≤ lines (s.data.toList.take k) := fun j h => (hg j h).le_iff
  have hat : ∀ j (h : j < (startsL s.data.toList s.size).length), j = lines (s.data.toList.take k) → (startsL s.data.toList s.size)[j] = p := fun j h e => (hg _ h).same (by rw [e]; exact hp)
  obtain ⟨V, hV⟩ : ∃ V, placeV s k = V := ⟨_, rfl⟩
  rw [hV] at cr
  obtain ⟨L, hLL⟩ : ∃ L, lines (s.data.toList.take k) = L := ⟨_, rfl⟩
  rw [hLL] at hiff hat hL ⊢
  obtain ⟨l, cs', hl', hiff', hat'⟩ : ∃ l : List Nat, (∀ w, Calls Try.prog 16 #[.string s] w (RetStarts w l)) ∧ l.length = lines s.data.toList + 1 ∧ (∀ j (h : j < l.length), l[j] ≤ k ↔ j ≤ L) ∧ (∀ j (h : j < l.length), j = L → l[j] = p) := ⟨_, cs, hl, hiff, hat⟩
  clear cs hl hiff hat
  obtain ⟨R, hR⟩ : ∃ R, runes (s.data.toList.take k) - runes (s.data.toList.take p) = R := ⟨_, rfl⟩
  rw [hR] at cu ⊢
  obtain ⟨N, hN⟩ : ∃ N, l.length = N := ⟨_, rfl⟩
  have hLN : L < N := by omega
  have hN5 : N ≤ 6000 := by have := lines_le s.data.toList; rw [list_size] at this; omega
  have HN := Lib.hid hN; have HI := Lib.hid hiff'; have HA := Lib.hid hat'
  have CR := Lib.hid cr; have CS := Lib.hid cs'; have CU := Lib.hid cu
  clear cr cs' cu hV hLL hR hN hl' hg hiff' hat' hp hL
  go_enter Try.func14, Try.ntmps14
  go_wp2_with fail
  refine CR.out.mono ?_; rintro e w1 ⟨rfl, rfl⟩
  go_wp2_with fail
  refine (CS.out _).mono ?_; rintro e w2 ⟨g, c, rfl, hc, hgl, hb1⟩
  rw [HN.out]
  have HC := Lib.hid (show ∀ (wx : World), Below w2.heap.size w2 wx → ∀ j (h : j < l.length), wx.cell? ⟨g, j, none⟩ = some (.int .i64 (l[j] : Nat)) from fun wx hb j h => (hb.cell (p := ⟨g, j, none⟩) hgl).trans (hc j h))
  have HB1 := Lib.hid hb1
  clear hc hgl hb1
  go_wp2
  go_loopw [10] (fun i wr => ∃ j : Nat, j ≤ L ∧ i = .int .i64 j ∧ Below w2.heap.size w2 wr) (fun i _ => L - (intOf i).toNat)
  case atStart => exact ⟨0, Nat.zero_le _, rfl, Below.refl _ _⟩
  case round =>
    obtain ⟨j, hj, rfl, hbel⟩ := hrel
    by_cases hlt : j < L
    · have hj1 : j + 1 < l.length := by rw [HN.out]; omega
      have q0 := HC.out wr hbel (j + 1) hj1
      have q1 := (HI.out (j + 1) hj1).2 hlt
      obtain ⟨x, hx⟩ : ∃ x, l[j + 1] = x := ⟨_, rfl⟩
      rw [hx] at q0 q1
      have b1 : (j : Int) + 1 < (N : Int) := by omega
      have b2 : j + 1 < N := by omega
      have b3 : (0 : Int) ≤ (j : Int) + 1 := by omega
      have b4 : (x : Int) ≤ (k : Int) := by omega
      have b5 : ((j : Int) + 1).toNat = j + 1 := by omega
      have HB := Lib.hid hbel
      clear hbel hx hj1
      go_wp2
      go_roundw
      case rel => exact ⟨j + 1, by omega, by go_num, HB.out⟩
      case measure => simp [intOf]; omega
    · obtain rfl : j = L := by omega
      have hjl : j < l.length := by rw [HN.out]; exact hLN
      have r0 := HC.out wr hbel j hjl
      rw [HA.out j hjl rfl] at r0
      have HB := Lib.hid (HB1.out.trans (hbel.mono HB1.out.size))
      have b6 : (p : Int) ≤ (k : Int) := by omega
      have b7 : (k : Int) ≤ (s.size : Int) := by omega
      have b8 : (j : Int) < (N : Int) := by omega
      have b9 : (0 : Int) ≤ (p : Int) := by omega
      by_cases hz : j + 1 < N
      · have hj1 : j + 1 < l.length := by rw [HN.out]; omega
        have q0 := HC.out wr hbel (j + 1) hj1
        have q1 : ¬ l[j + 1] ≤ k := fun g => by have := (HI.out (j + 1) hj1).1 g; omega
        obtain ⟨x, hx⟩ : ∃ x, l[j + 1] = x := ⟨_, rfl⟩
        rw [hx] at q0 q1
        have b1 : (j : Int) + 1 < (N : Int) := by omega
        have b3 : (0 : Int) ≤ (j : Int) + 1 := by omega
        have b4 : ¬ (x : Int) ≤ (k : Int) := by omega
        have b5 : ((j : Int) + 1).toNat = j + 1 := by omega
        clear hbel hx hj1 hjl
        go_wp2_with fail
        refine (CU.out _).mono ?_; rintro e w3 ⟨rfl, rfl⟩
        go_wp2
        refine bodyPost_ret (v := .tuple #[.int .i64 j, .int .i64 R, .int .i64 0]) (by simp [results, Try.results14, go_sem]) rfl ?_
        exact ⟨rfl, HB.out⟩
      · have b1 : ¬ (j : Int) + 1 < (N : Int) := by omega
        clear hbel hjl
        go_wp2_with fail
        refine (CU.out _).mono ?_; rintro e w3 ⟨rfl, rfl⟩
        go_wp2
        refine bodyPost_ret (v := .tuple #[.int .i64 j, .int .i64 R, .int .i64 0]) (by simp [results, Try.results14, go_sem]) rfl ?_
        exact ⟨rfl, HB.out⟩

set_option maxRecDepth 100000 in
set_option maxHeartbeats 800000 in
theorem rrow19_no {s : ByteArray} (hs : s.size ≤ 5000) {n : Int} (h : n < 0 ∨ (lines s.data.toList : Int) < n) (w : World) :
    Calls Try.prog 20 #[.string s, .int .i64 n] w fun e w' => e = .returned (.tuple #[.string ⟨#[]⟩, .int .i64 3]) ∧ Below w.heap.size w w' := by
  have cs := rstart19_no hs h w
  have CS := Lib.hid cs
  clear cs h
  go_enter Try.func20, Try.ntmps20
  go_wp2_with fail
  refine CS.out.mono ?_; rintro e w1 ⟨rfl, hb1⟩
  go_wp2
  go_ret2
  exact ⟨rfl, hb1⟩
set_option maxRecDepth 100000 in
set_option maxHeartbeats 1600000 in
theorem rrow19_yes {s : ByteArray} (hs : s.size ≤ 5000) {n p m : Nat} (hn : n ≤ lines s.data.toList) (hp : StartP s.data.toList n p) (u : UptoP lines s.data.toList n m) (w : World) :
    Calls Try.prog 20 #[.string s, .int .i64 n] w fun e w' => e = .returned (.tuple #[.string (s.extract p m), .int .i64 0]) ∧ Below w.heap.size w w' := by
  have cs := rstart19_yes hs hn hp w
  have hmid := line_mid hp u
  have hpm := upto_start hp u
  have hm : m ≤ s.size := by have := u.1; rw [list_size] at this; exact this
  rw [list_size] at hmid
  have CS := Lib.hid cs; have HM := Lib.hid hmid
  clear cs hmid hn hp u
  go_enter Try.func20, Try.ntmps20
  go_wp2_with fail
  refine CS.out.mono ?_; rintro e w1 ⟨rfl, hb1⟩
  have HB1 := Lib.hid hb1
  clear hb1
  go_wp2
  go_loopw [8] (fun i wr => ∃ k : Nat, p ≤ k ∧ k ≤ m ∧ i = .int .i64 k ∧ Below w.heap.size w wr) (fun i _ => m - (intOf i).toNat)
  case atStart => exact ⟨p, Nat.le_refl _, hpm, rfl, HB1.out⟩
  case round =>
    obtain ⟨k, hpk, hk, rfl, hbel⟩ := hrel
    have HB := Lib.hid hbel
    clear hbel
    by_cases hlt : k < m
    · have hc := HM.out.1 k hpk hlt
      have hks : k < s.size := by omega
      rw [bt_get s k hks] at hc
      have b1 : (k : Int) < (s.size : Int) := by omega
      have d1 : ((s[k].toNat : Int) != 10) = true := by simpa using (show ¬ (s[k].toNat : Int) = 10 by omega)
      go_wp2
      go_roundw
      case rel => exact ⟨k + 1, by omega, by omega, by go_num, HB.out⟩
      case measure => simp [intOf]; omega
    · obtain rfl : k = m := by omega
      have b6 : (p : Int) ≤ (k : Int) := by omega
      have b7 : (k : Int) ≤ (s.size : Int) := by omega
      have b9 : (0 : Int) ≤ (p : Int) := by omega
      by_cases hz : k < s.size
      · have hc := HM.out.2 hz
        rw [bt_get s k hz] at hc
        have b1 : (k : Int) < (s.size : Int) := by omega
        have d1 : ((s[k].toNat : Int) != 10) = false := by rw [hc]; rfl
        go_wp2
        go_ret2
        exact ⟨rfl, HB.out⟩
      · have b1 : ¬ (k : Int) < (s.size : Int) := by omega
        go_wp2
        go_ret2
        exact ⟨rfl, HB.out⟩
end Go.Proofs.Yteopkjcofcmgoaa
