/-
  Joined: TallyAdd, SeekRef.
-/
import Derived.Test.YtlmihooahmgmjaaJUtfRTake
import Derived.Test.YtlmihooahmgmjaaJCells
import Derived.Laws.OwnMore
import Derived.Deep.AppendLies
import Derived.Deep.Draws
import Derived.Test.YtlmihooahmgmjaaJUtfMath
import Derived.Test.YtlmihooahmgmjaaJUtfLeaf
import Derived.Deep.QuietTactic
import Derived.BigQuiet
namespace Go.Proofs.Ytlmihooahmgmjaa
open Go.RowKit

theorem block_of_add (a : Addr) (n : Nat) : (a.add n).block = a.block := by unfold Addr.add; split <;> rfl
theorem add_of_add (a : Addr) (i j : Nat) : (a.add i).add j = a.add (i + j) := by
  unfold Addr.add
  by_cases hi : i = 0 <;> by_cases hj : j = 0 <;> simp [hi, hj, Nat.add_assoc]

/-- A count. -/
structure Cnt where
  b : Int
  r : Int
  l : Int
def Cnt.plus (x y : Cnt) : Cnt := ⟨wrap64 (x.b + y.b), wrap64 (x.r + y.r), wrap64 (x.l + y.l)⟩
def Cnt.sum (l : List Cnt) : Cnt := l.foldl Cnt.plus ⟨0, 0, 0⟩
theorem Cnt.sum_snoc (l : List Cnt) (x : Cnt) : Cnt.sum (l ++ [x]) = (Cnt.sum l).plus x := by unfold Cnt.sum; rw [List.foldl_append]; rfl

/-- A slice that reads as these counts; its row lies below B. -/
def Cnts (w : World) (B : Nat) (a : Option Addr) (l : List Cnt) : Prop :=
  ∀ (k : Nat) (h : k < l.length), ∃ ad, a = some ad ∧ ad.block < B ∧ w.cell? (ad.add (k * 3)) = some (.int .i64 (l[k]).b) ∧ w.cell? ⟨(ad.add (k * 3)).block, (ad.add (k * 3)).off + 1, none⟩ = some (.int .i64 (l[k]).r) ∧ w.cell? ⟨(ad.add (k * 3)).block, (ad.add (k * 3)).off + 2, none⟩ = some (.int .i64 (l[k]).l)
theorem Cnts.keep {w w' : World} {B : Nat} {a : Option Addr} {l : List Cnt} (h : Cnts w B a l) (hk : ∀ p : Addr, p.block < B → w'.cell? p = w.cell? p) : Cnts w' B a l := fun k hl => by
  obtain ⟨ad, e, hb, h1, h2, h3⟩ := h k hl
  exact ⟨ad, e, hb, (hk _ (by rw [block_of_add]; exact hb)).trans h1, (hk _ (by rw [block_of_add]; exact hb)).trans h2, (hk _ (by rw [block_of_add]; exact hb)).trans h3⟩
theorem Cnts.below {w w' : World} {B : Nat} {a : Option Addr} {l : List Cnt} (h : Cnts w B a l) (hb : Below B w w') : Cnts w' B a l := h.keep fun _ hp => hb.cell hp
theorem Cnts.more {w : World} {B B' : Nat} {a : Option Addr} {l : List Cnt} (h : Cnts w B a l) (hB : B ≤ B') : Cnts w B' a l := fun k hl => by
  obtain ⟨ad, e, hb, h1⟩ := h k hl
  exact ⟨ad, e, by omega, h1⟩

/-- The three cells of a new block written anew. -/
theorem set3_new (w : World) (t : TypeId) (a b c x y z : Value) (d g : Nat) (hg : g = w.heap.size) :
    (((((w.alloc (.cells #[a, b, c] t)).drewN d).setCell ⟨g, 0, none⟩ x).setCell ⟨g, 1, none⟩ y).setCell ⟨g, 2, none⟩ z) = (w.alloc (.cells #[x, y, z] t)).drewN d := by
  show ((((w.alloc (.cells #[a, b, c] t)).setCell ⟨g, 0, none⟩ x).setCell ⟨g, 1, none⟩ y).setCell ⟨g, 2, none⟩ z).drewN d = _
  rw [World.setCell_alloc_at _ _ _ _ _ hg, World.setCell_alloc_at _ _ _ _ _ hg, World.setCell_alloc_at _ _ _ _ _ hg]
  rfl

theorem sum_take (l : List Cnt) (k : Nat) (h : k < l.length) : Cnt.sum (l.take (k + 1)) = (Cnt.sum (l.take k)).plus (l[k]'h) := by
  rw [List.take_succ_eq_append_getElem h, Cnt.sum_snoc]

set_option maxRecDepth 100000 in
set_option maxHeartbeats 400000 in
theorem tadd_any (a : Option Addr) (l : List Cnt) (c : Nat) (hl : l.length ≤ 1000) (w : World) (hr : Cnts w w.heap.size a l) :
    Calls Try.prog 83 #[.slice a l.length c] w fun e w' => e = .returned (cntV (Cnt.sum l).b (Cnt.sum l).r (Cnt.sum l).l) ∧ Below w.heap.size w w' := by
  obtain ⟨n, hn⟩ : ∃ n, l.length = n := ⟨_, rfl⟩
  have HN := Lib.hid hn
  rw [hn] at hl ⊢
  clear hn
  have HR := Lib.hid hr; clear hr
  go_enter Try.func83, Try.ntmps83
  go_wp2
  go_loopw [9] (fun i wr => ∃ k : Nat, k ≤ n ∧ i = .int .i64 k ∧ Below w.heap.size w wr ∧ Blk3 wr w.heap.size (.int .i64 0) (.int .i64 0) (.int .i64 0) 64 ∧ Blk3 wr (w.heap.size + 1) (.int .i64 (Cnt.sum (l.take k)).b) (.int .i64 (Cnt.sum (l.take k)).r) (.int .i64 (Cnt.sum (l.take k)).l) 64) (fun i _ => n - (intOf i).toNat)
  case atStart => exact ⟨0, by omega, rfl, ((Below.refl _ _).alloc (Nat.le_refl _) _).alloc (by simp) _, (Blk3.new _ _ _ _ _).alloc _, Blk3.new (w.alloc (.cells #[.int .i64 0, .int .i64 0, .int .i64 0] 64)) (.int .i64 0) (.int .i64 0) (.int .i64 0) 64 |> fun h => by rw [show (w.alloc (.cells #[.int .i64 0, .int .i64 0, .int .i64 0] 64)).heap.size = w.heap.size + 1 by simp] at h; exact h⟩
  case round =>
    obtain ⟨k, hk, rfl, hbel, hb0, hb1⟩ := hrel
    by_cases hlt : k < n
    · have hs := sum_take l k (by rw [HN.out]; exact hlt)
      have HR2 := HR.out.below hbel
      obtain ⟨ad, rfl, hb, q1, q2, q3⟩ := HR2 k (by rw [HN.out]; exact hlt)
      clear HR2
      obtain ⟨x, hx⟩ : ∃ x, l[k]'(by rw [HN.out]; exact hlt) = x := ⟨_, rfl⟩
      obtain ⟨y, hy⟩ : ∃ y, Cnt.sum (l.take k) = y := ⟨_, rfl⟩
      rw [hx] at hs q1 q2 q3
      rw [hy] at hs hb1
      have HS := Lib.hid hs; clear hs hx hy
      have hlt1 := hb1.lt
      have f0 := hb1.c0
      have f1 := hb1.c1
      have f2 := hb1.c2
      have f3 := hb1.free 0
      have f4 := hb1.free 1
      have f5 := hb1.free 2
      have H0 := Lib.hid hb0; have H1 := Lib.hid hb1
      clear hb0 hb1
      go_wp2
      go_roundw
      case rel =>
        refine ⟨k + 1, by omega, by go_num, ?_, ?_, ?_⟩
        · exact (((hbel.setCell (p := ⟨w.heap.size + 1, 0, none⟩) (by simp) _).setCell (p := ⟨w.heap.size + 1, 1, none⟩) (by simp) _).setCell (p := ⟨w.heap.size + 1, 2, none⟩) (by simp) _).alloc (by simpa using hbel.size) _
        · exact (((H0.out.other ⟨w.heap.size + 1, 0, none⟩ (by simp) _).other ⟨w.heap.size + 1, 1, none⟩ (by simp) _).other ⟨w.heap.size + 1, 2, none⟩ (by simp) _).alloc _
        · rw [HS.out]; exact (((H1.out.s0 _).s1 _).s2 _).alloc _
      case measure => simp [intOf]; omega
    · have e : l.take k = l := List.take_of_length_le (by rw [HN.out]; omega)
      rw [e] at hb1; clear e
      have f0 := hb1.c0
      have f1 := hb1.c1
      have f2 := hb1.c2
      have g0 := hb0.c0
      have g1 := hb0.c1
      have g2 := hb0.c2
      have g3 := hb0.free 0
      have g4 := hb0.free 1
      have g5 := hb0.free 2
      have hlt1 := hb1.lt
      clear hb0 hb1
      go_wp2
      refine bodyPost_ret (v := cntV (Cnt.sum l).b (Cnt.sum l).r (Cnt.sum l).l) (by simp [results, Try.results83, go_sem, g0, g1, g2]) rfl ⟨rfl, ?_⟩
      exact ((hbel.setCell (p := ⟨w.heap.size, 0, none⟩) (Nat.le_refl _) _).setCell (p := ⟨w.heap.size, 1, none⟩) (Nat.le_refl _) _).setCell (p := ⟨w.heap.size, 2, none⟩) (Nat.le_refl _) _
end Go.Proofs.Ytlmihooahmgmjaa
namespace Go.Proofs.Ytlmihooahmgmjaa
open Go.RowKit
set_option linter.unusedVariables false
set_option linter.unusedSimpArgs false

theorem b_yes {b : Bool} (h : ¬ b = false) : b = true := by cases b with
  | false => exact absurd rfl h
  | true => rfl
theorem head_list (s : ByteArray) (k : Nat) : (s.extract 0 k).data.toList = s.data.toList.take k := by rw [extract_list, List.drop_zero, Nat.sub_zero]
theorem list_size (s : ByteArray) : s.data.toList.length = s.size := by simp
/-- What is wrong with a place, and how many runes stand ahead of it. -/
def placeE (s : ByteArray) (p : Int) : Int := if p < 0 ∨ (s.size : Int) < p then 3 else if edgeB s.data.toList p = false then 4 else 0
def placeV (s : ByteArray) (p : Int) : Int := if placeE s p = 0 then runes (s.data.toList.take p.toNat) else 0
theorem place_zero {s : ByteArray} {p : Int} (h : placeE s p = 0) : ∃ k : Nat, p = k ∧ k ≤ s.size ∧ edge s.data.toList k ∧ edgeB s.data.toList p = true := by
  unfold placeE at h
  split at h
  · cases h
  split at h
  · cases h
  rename_i h1 h2
  obtain ⟨k, rfl⟩ := Int.eq_ofNat_of_zero_le (show 0 ≤ p by omega)
  have h3 := b_yes h2
  refine ⟨k, rfl, by omega, ?_, h3⟩
  unfold edgeB at h3
  rw [decide_eq_true_eq, Int.toNat_natCast] at h3
  exact h3.2
theorem place_yes {s : ByteArray} {k : Nat} (hk : k ≤ s.size) (h : edge s.data.toList k) : placeE s k = 0 := by
  unfold placeE
  rw [if_neg (by omega), if_neg]
  unfold edgeB
  rw [decide_eq_false_iff_not, Int.toNat_natCast]
  exact fun g => g ⟨by omega, h⟩
theorem ret_ie {a b c d : Int} (h1 : a = b) (h2 : c = d) : Ending.returned (.tuple #[.int .i64 a, .int .i64 c]) = .returned (.tuple #[.int .i64 b, .int .i64 d]) := by rw [h1, h2]
theorem ret_iie {a b c d e f : Int} (h1 : a = b) (h2 : c = d) (h3 : e = f) : Ending.returned (.tuple #[.int .i64 a, .int .i64 c, .int .i64 e]) = .returned (.tuple #[.int .i64 b, .int .i64 d, .int .i64 f]) := by rw [h1, h2, h3]

/-- A row of numbers that the call has made. -/
def RetStarts (w : World) (l : List Nat) (e : Ending) (w' : World) : Prop :=
  ∃ g c, e = .returned (.slice (some ⟨g, 0, none⟩) l.length c) ∧ (∀ j (h : j < l.length), w'.cell? ⟨g, j, none⟩ = some (.int .i64 (l[j] : Nat))) ∧ g < w'.heap.size ∧ Below w.heap.size w w'
theorem news_num (w : World) (n : Int) (t : TypeId) : ∀ j u, [Value.int .i64 n][j]? = some u → (w.alloc (.cells #[.int .i64 n] t)).cell? ((⟨w.heap.size, 0, none⟩ : Addr).add j) = some u := by
  intro j u hj
  match j, hj with
  | 0, hj => simp at hj; subst hj; simp [Addr.add]
theorem one_num (n : Int) : ∀ u ∈ [Value.int .i64 n], u.oneCell' = true := by intro u hu; simp at hu; subst hu; rfl
theorem num_info : (Try.prog.info? 3).map (fun i => (i.zero, i.size, i.bytes)) = some (some (.int .i64 0), 1, 8) := by kernel_rfl
def numVs (l : List Nat) : List Value := l.map fun x => Value.int .i64 (x : Nat)
theorem numVs_app (l : List Nat) (n : Nat) : numVs (l ++ [n]) = numVs l ++ [.int .i64 n] := by simp [numVs]
theorem ret_starts {w wr : World} {v : Value} {l : List Nat} (h0 : 0 < l.length) (h : wr.ownsRow w.heap.size 3 1 v l.length (numVs l)) (hb : Below w.heap.size w wr) : RetStarts w l (.returned v) wr := by
  obtain ⟨g, cap, rfl⟩ : ∃ g cap, v = .slice (some ⟨g, 0, none⟩) l.length cap := by
    rcases h.2 with ⟨-, h1⟩ | ⟨g, cap, cur, h1, -⟩
    · omega
    · exact ⟨g, cap, h1⟩
  refine ⟨g, cap, rfl, fun j hj => ?_, (h.lt g rfl).2, hb⟩
  rw [h.cellAt j (by omega), numVs, List.getElem?_map, List.getElem?_eq_getElem hj]
  rfl
theorem starts_pos (l : List UInt8) (k : Nat) (h : k ≤ l.length) : 0 < (startsL l k).length := by rw [starts_len l k h]; omega
theorem starts_le (l : List UInt8) (k : Nat) (h : k ≤ l.length) : (startsL l k).length ≤ k + 1 := by
  rw [starts_len l k h]
  have := lines_le (l.take k)
  rw [List.length_take] at this
  omega

set_option maxRecDepth 100000 in
set_option maxHeartbeats 1600000 in
theorem rstarts_any {s : ByteArray} (hs : s.size ≤ 5000) (w : World) :
    Calls Try.prog 9 #[.string s] w (RetStarts w (startsL s.data.toList s.size)) := by
  obtain ⟨i0, hi, hz0, hz1, hz2⟩ := info_parts num_info
  go_enter Try.func9, Try.ntmps9
  go_wp2
  go_loopw [3, 4] (fun v i wr => ∃ (k : Nat) (u : Value), k ≤ s.size ∧ i = .int .i64 k ∧ u = v ∧ wr.ownsRow w.heap.size 3 1 u (startsL s.data.toList k).length (numVs (startsL s.data.toList k)) ∧ Below w.heap.size w wr) (fun _ i _ => s.size - (intOf i).toNat)
  case atStart => exact ⟨0, _, Nat.zero_le _, rfl, rfl, World.ownsRow_lit w #[.int .i64 0] 1 (Nat.le_refl _) (by unfold maxLen; omega) rfl, (Below.refl _ _).alloc (Nat.le_refl _) _⟩
  case round =>
    obtain ⟨k, v, hk, rfl, rfl, hown, hbel⟩ := hrel
    by_cases hlt : k < s.size
    · have hle := starts_le s.data.toList k (by rw [list_size]; omega)
      have hbt := bt_get s k hlt
      by_cases hc : bt s.data.toList k = 10
      · have hst : startsL s.data.toList (k + 1) = startsL s.data.toList k ++ [k + 1] := by rw [startsL, if_pos hc]
        rw [hbt] at hc
        have HS := Lib.hid hst
        have hsz : w.heap.size ≤ wr.heap.size := hbel.size
        have d1 : ((s[k].toNat : Int) == 10) = true := by rw [hc]; rfl
        obtain ⟨N, hN⟩ : ∃ N, (startsL s.data.toList k).length = N := ⟨_, rfl⟩
        rw [hN] at hown hle
        have HN := Lib.hid hN
        clear hst hbt hN
        go_wp2_with (at_builtin; refine wpList_append_own _ rfl _ _ 31 rfl w.heap.size 3 i0 (.int .i64 0) 1 8 Try.underlying31 hi hz0 hz1 hz2 rfl (by decide) _ _ _ rfl (hown.alloc _) ⟨wr.heap.size, 0, none⟩ 1 1 [.int .i64 ((k : Int) + 1)] rfl rfl (news_num _ _ _) (one_num _) (by unfold maxLen; omega) (by omega) (Nat.le_trans hsz (by simp)) ?_; intro v' w1 hown' hgrow _)
        have hb1 : Below w.heap.size w w1 := (hbel.alloc hsz _).grown hgrow (Nat.le_trans hsz (by simp)) (own_block hown)
        have ho1 : w1.ownsRow w.heap.size 3 1 v' (startsL s.data.toList (k + 1)).length (numVs (startsL s.data.toList (k + 1))) := by
          rw [HS.out, numVs_app, List.length_append, HN.out]
          exact hown'
        have HO := Lib.hid ho1; have HB := Lib.hid hb1
        clear hown' hgrow hown hbel ho1 hb1
        go_wp2
        go_roundw
        case rel => exact ⟨k + 1, _, by omega, by go_num, rfl, HO.out, HB.out⟩
        case measure => simp [intOf]; omega
      · have hst : startsL s.data.toList (k + 1) = startsL s.data.toList k := by rw [startsL, if_neg hc]
        rw [hbt] at hc
        have HS := Lib.hid hst
        have d1 : ((s[k].toNat : Int) == 10) = false := by simpa using (show ¬ (s[k].toNat : Int) = 10 by omega)
        have HO := Lib.hid hown; have HB := Lib.hid hbel
        clear hst hbt hown hbel hle
        go_wp2
        go_roundw
        case rel => exact ⟨k + 1, _, by omega, by go_num, rfl, by rw [HS.out]; exact HO.out, HB.out⟩
        case measure => simp [intOf]; omega
    · obtain rfl : k = s.size := by omega
      have HR := Lib.hid (ret_starts (starts_pos s.data.toList s.size (by rw [list_size]; exact Nat.le_refl _)) hown hbel)
      clear hown hbel
      go_wp2
      go_ret
      exact HR.out

/-- Whether there is such a line. -/
theorem starts_count (s : ByteArray) : (startsL s.data.toList s.size).length = lines s.data.toList + 1 := by
  have := starts_len s.data.toList s.size (by rw [list_size]; exact Nat.le_refl _)
  rw [this, List.take_of_length_le (by rw [list_size]; exact Nat.le_refl _)]
theorem starts_get (s : ByteArray) (j : Nat) (h : j < (startsL s.data.toList s.size).length) : StartP s.data.toList j (startsL s.data.toList s.size)[j] := (starts_at s.data.toList s.size (by rw [list_size]; exact Nat.le_refl _) j h).1
theorem start_ex (s : ByteArray) {n : Nat} (h : n ≤ lines s.data.toList) : ∃ p, StartP s.data.toList n p := by
  have hl := starts_count s
  exact ⟨_, starts_get s n (by omega)⟩
set_option maxRecDepth 100000 in
set_option maxHeartbeats 800000 in
theorem rstart19_no {s : ByteArray} (hs : s.size ≤ 5000) {n : Int} (h : n < 0 ∨ (lines s.data.toList : Int) < n) (w : World) :
    Calls Try.prog 17 #[.string s, .int .i64 n] w fun e w' => e = .returned (.tuple #[.int .i64 0, .int .i64 3]) ∧ Below w.heap.size w w' := by
  have cs := rstarts_any hs w
  have hl := starts_count s
  obtain ⟨l, hL⟩ : ∃ l, startsL s.data.toList s.size = l := ⟨_, rfl⟩
  rw [hL] at cs hl
  have CS := Lib.hid cs
  clear cs hL
  rcases Int.lt_or_le n 0 with h0 | h0
  · clear h hl
    go_enter Try.func17, Try.ntmps17
    go_wp2_with fail
    refine CS.out.mono ?_; rintro e w1 ⟨g, c, rfl, -, -, hb1⟩
    go_wp2
    go_ret2
    exact ⟨rfl, hb1⟩
  · obtain ⟨N, hN⟩ : ∃ N, l.length = N := ⟨_, rfl⟩
    rw [hN] at hl
    have h1 : (N : Int) ≤ n := by omega
    have HN := Lib.hid hN
    clear h hl hN
    go_enter Try.func17, Try.ntmps17
    go_wp2_with fail
    refine CS.out.mono ?_; rintro e w1 ⟨g, c, rfl, -, -, hb1⟩
    rw [HN.out]
    go_wp2
    go_ret2
    exact ⟨rfl, hb1⟩
set_option maxRecDepth 100000 in
set_option maxHeartbeats 800000 in
theorem rstart19_yes {s : ByteArray} (hs : s.size ≤ 5000) {n p : Nat} (hn : n ≤ lines s.data.toList) (hp : StartP s.data.toList n p) (w : World) :
    Calls Try.prog 17 #[.string s, .int .i64 n] w fun e w' => e = .returned (.tuple #[.int .i64 p, .int .i64 0]) ∧ Below w.heap.size w w' := by
  have cs := rstarts_any hs w
  have hl := starts_count s
  have hg := (starts_get s n (by omega)).same hp
  obtain ⟨l, hL⟩ : ∃ l, startsL s.data.toList s.size = l := ⟨_, rfl⟩
  have hnl : n < l.length := by rw [← hL]; omega
  have hg' : l[n] = p := by subst hL; exact hg
  rw [hL] at cs hl
  have CS := Lib.hid cs
  obtain ⟨N, hN⟩ : ∃ N, l.length = N := ⟨_, rfl⟩
  have HN := Lib.hid hN; have HG := Lib.hid (show ∃ h : n < l.length, l[n] = p from ⟨hnl, hg'⟩)
  have b1 : (n : Int) < (N : Int) := by omega
  have b2 : n < N := by omega
  have b3 : (0 : Int) ≤ (n : Int) := by omega
  have b4 : ¬ (N : Int) ≤ (n : Int) := by omega
  clear cs hL hg hg' hnl hl hN hn hp
  go_enter Try.func17, Try.ntmps17
  go_wp2_with fail
  refine CS.out.mono ?_; rintro e w1 ⟨g, c, rfl, hc, hgl, hb1⟩
  obtain ⟨x1, x2⟩ := HG.out
  have q0 := hc n x1
  rw [x2] at q0
  clear x1 x2
  rw [HN.out]
  go_wp2
  go_ret2
  exact ⟨rfl, hb1⟩

set_option maxRecDepth 100000 in
set_option maxHeartbeats 800000 in
theorem rrow19_no {s : ByteArray} (hs : s.size ≤ 5000) {n : Int} (h : n < 0 ∨ (lines s.data.toList : Int) < n) (w : World) :
    Calls Try.prog 10 #[.string s, .int .i64 n] w fun e w' => e = .returned (.tuple #[.string ⟨#[]⟩, .int .i64 3]) ∧ Below w.heap.size w w' := by
  have cs := rstart19_no hs h w
  have CS := Lib.hid cs
  clear cs h
  go_enter Try.func10, Try.ntmps10
  go_wp2_with fail
  refine CS.out.mono ?_; rintro e w1 ⟨rfl, hb1⟩
  go_wp2
  go_ret2
  exact ⟨rfl, hb1⟩
set_option maxRecDepth 100000 in
set_option maxHeartbeats 1600000 in
theorem rrow19_yes {s : ByteArray} (hs : s.size ≤ 5000) {n p m : Nat} (hn : n ≤ lines s.data.toList) (hp : StartP s.data.toList n p) (u : UptoP lines s.data.toList n m) (w : World) :
    Calls Try.prog 10 #[.string s, .int .i64 n] w fun e w' => e = .returned (.tuple #[.string (s.extract p m), .int .i64 0]) ∧ Below w.heap.size w w' := by
  have cs := rstart19_yes hs hn hp w
  have hmid := line_mid hp u
  have hpm := upto_start hp u
  have hm : m ≤ s.size := by have := u.1; rw [list_size] at this; exact this
  rw [list_size] at hmid
  have CS := Lib.hid cs; have HM := Lib.hid hmid
  clear cs hmid hn hp u
  go_enter Try.func10, Try.ntmps10
  go_wp2_with fail
  refine CS.out.mono ?_; rintro e w1 ⟨rfl, hb1⟩
  have HB1 := Lib.hid hb1
  clear hb1
  go_wp2
  go_loopw [8] (fun i wr => ∃ k : Nat, p ≤ k ∧ k ≤ m ∧ i = .int .i64 k ∧ Below w.heap.size w wr) (fun i _ => m - (intOf i).toNat)
  case atStart => exact ⟨p, Nat.le_refl _, hpm, rfl, HB1.out⟩
  case round =>
    obtain ⟨k, hpk, hk, rfl, hbel⟩ := hrel
    have HB := Lib.hid hbel
    clear hbel
    by_cases hlt : k < m
    · have hc := HM.out.1 k hpk hlt
      have hks : k < s.size := by omega
      rw [bt_get s k hks] at hc
      have b1 : (k : Int) < (s.size : Int) := by omega
      have d1 : ((s[k].toNat : Int) != 10) = true := by simpa using (show ¬ (s[k].toNat : Int) = 10 by omega)
      go_wp2
      go_roundw
      case rel => exact ⟨k + 1, by omega, by omega, by go_num, HB.out⟩
      case measure => simp [intOf]; omega
    · obtain rfl : k = m := by omega
      have b6 : (p : Int) ≤ (k : Int) := by omega
      have b7 : (k : Int) ≤ (s.size : Int) := by omega
      have b9 : (0 : Int) ≤ (p : Int) := by omega
      by_cases hz : k < s.size
      · have hc := HM.out.2 hz
        rw [bt_get s k hz] at hc
        have b1 : (k : Int) < (s.size : Int) := by omega
        have d1 : ((s[k].toNat : Int) != 10) = false := by rw [hc]; rfl
        go_wp2
        go_ret2
        exact ⟨rfl, HB.out⟩
      · have b1 : ¬ (k : Int) < (s.size : Int) := by omega
        go_wp2
        go_ret2
        exact ⟨rfl, HB.out⟩
end Go.Proofs.Ytlmihooahmgmjaa
