/-
  Contracts of the document's Count, Slice, Unlike and Cut (layer 5).
-/
import Derived.Test.YtcoacbknhlnjmaaPieceMath
import Derived.Test.YtcoacbknhlnjmaaConv
import Derived.Laws.OwnMore
import Derived.Deep.AppendLies
import Derived.Deep.Draws
namespace Go.Proofs.Ytcoacbknhlnjmaa
open Go.RowKit

set_option maxRecDepth 100000 in
set_option maxHeartbeats 400000 in
theorem rcount_any (n : Int) (h0 : -9223372036854775808 ≤ n) (h1 : n ≤ 9223372036854775807) (w : World) :
    Calls Try.prog 32 #[.int .i64 n] w fun e w' => e = .returned (.int .i64 (cntI n)) ∧ w = w' := by
  by_cases h : n < 1
  · have e : cntI n = 0 := if_pos h
    rw [e]; clear e
    go_enter Try.func32, Try.ntmps32
    go_wp2
    go_ret
    exact ⟨rfl, rfl⟩
  · have e : cntI n = (n - 1) / 32 + 1 := if_neg h
    have HE := Lib.hid e; clear e
    have h2 : 1 ≤ n := by omega
    clear h
    go_enter Try.func32, Try.ntmps32
    go_wp2
    go_ret
    exact ⟨by rw [HE.out]; rfl, rfl⟩

set_option maxRecDepth 100000 in
set_option maxHeartbeats 400000 in
theorem rslice_any (s : ByteArray) (hs : s.size ≤ 4294967296) (k : Int) (w : World) :
    Calls Try.prog 39 #[.string s, .int .i64 k] w fun e w' => e = .returned (.string (slS s k)) ∧ w = w' := by
  by_cases h : k < 0
  · have e : slS s k = ByteArray.empty := if_pos (.inl h)
    rw [e]; clear e
    go_enter Try.func39, Try.ntmps39
    go_wp2
    go_ret
    exact ⟨rfl, rfl⟩
  obtain ⟨j, rfl⟩ := Int.eq_ofNat_of_zero_le (show 0 ≤ k by omega)
  by_cases h2 : s.size / 32 < j
  · have e : slS s j = ByteArray.empty := if_pos (.inr (by omega))
    rw [e]; clear e
    have h3 : (s.size : Int) / 32 < j := by omega
    clear h h2
    go_enter Try.func39, Try.ntmps39
    go_wp2
    go_ret
    exact ⟨rfl, rfl⟩
  have e : slS s j = s.extract (32 * j) (min (32 * j + 32) s.size) := if_neg (by omega)
  by_cases h4 : 32 * j + 32 ≤ s.size
  · rw [Nat.min_eq_left h4] at e
    rw [e]; clear e
    have h3 : (j : Int) ≤ (s.size : Int) / 32 := by omega
    clear h h2
    go_enter Try.func39, Try.ntmps39
    go_wp2
    go_ret
    refine ⟨ret_str ?_, rfl⟩
    congr 1 <;> omega
  · rw [Nat.min_eq_right (by omega)] at e
    rw [e]; clear e
    have h3 : (j : Int) ≤ (s.size : Int) / 32 := by omega
    have h5 : (s.size : Int) < 32 * j + 32 := by omega
    clear h h2 h4
    go_enter Try.func39, Try.ntmps39
    go_wp2
    go_ret
    refine ⟨ret_str ?_, rfl⟩
    congr 1 <;> omega

/-- A slice that reads as these numbers; its row lies below B. -/
def Nums (w : World) (B : Nat) (a : Option Addr) (l : List Nat) : Prop :=
  ∀ (k : Nat) (h : k < l.length), ∃ ad, a = some ad ∧ ad.block < B ∧ w.cell? (ad.add k) = some (.int .i64 (l[k] : Nat))
theorem Nums.below {w w' : World} {B : Nat} {a : Option Addr} {l : List Nat} (h : Nums w B a l) (hb : Below B w w') : Nums w' B a l := fun k hl => by
  obtain ⟨ad, e, hlt, h1⟩ := h k hl
  exact ⟨ad, e, hlt, (hb.cell (by rw [show (ad.add k).block = ad.block by unfold Addr.add; split <;> rfl]; exact hlt)).trans h1⟩
theorem nums_own {w : World} {base : Nat} {t : TypeId} {v : Value} {l : List Nat} (h : w.ownsRow base t 1 v l.length (l.map fun x => Value.int .i64 (x : Nat))) : ∃ a c, v = .slice a l.length c ∧ Nums w w.heap.size a l := by
  rcases h.2 with ⟨rfl, h0⟩ | ⟨g, cap, cur, rfl, _, hg, _⟩
  · exact ⟨none, 0, by rw [h0], fun k hk => absurd hk (by omega)⟩
  · refine ⟨_, _, rfl, fun k hk => ⟨_, rfl, ?_, ?_⟩⟩
    · exact (h.lt g rfl).2
    · refine h.cells (g := g) rfl k _ ?_
      rw [List.getElem?_map, List.getElem?_eq_getElem hk]
      rfl
def RetNums (w : World) (l : List Nat) (e : Ending) (w' : World) : Prop := ∃ a c, e = .returned (.slice a l.length c) ∧ Nums w' w'.heap.size a l ∧ Below w.heap.size w w'

/-- One number laid in a block of its own, to be appended. -/
theorem news_int (w : World) (n : Int) (t : TypeId) : ∀ j u, [Value.int .i64 n][j]? = some u → (w.alloc (.cells #[.int .i64 n] t)).cell? ((⟨w.heap.size, 0, none⟩ : Addr).add j) = some u := by
  intro j u hj
  match j, hj with
  | 0, hj => simp at hj; subst hj; simp [Addr.add]
theorem one_int (n : Int) : ∀ u ∈ [Value.int .i64 n], u.oneCell' = true := by intro u hu; simp at hu; subst hu; rfl

theorem int_info : (Try.prog.info? 3).map (fun i => (i.zero, i.size, i.bytes)) = some (some (.int .i64 0), 1, 8) := by kernel_rfl

set_option maxRecDepth 100000 in
set_option maxHeartbeats 800000 in
theorem runlike_any (a b : ByteArray) (ha : a.size ≤ 4294967296) (hb : b.size ≤ 4294967296) (w : World) :
    Calls Try.prog 30 #[.string a, .string b] w (RetNums w (unlL a.data.toList b.data.toList)) := by
  obtain ⟨i0, hi, hz0, hz1, hz2⟩ := info_parts int_info
  have hla : a.data.toList.length = a.size := by simp
  have hlb : b.data.toList.length = b.size := by simp
  obtain ⟨m, hm⟩ : ∃ m, max (cntN a.size) (cntN b.size) = m := ⟨_, rfl⟩
  have e : unlL a.data.toList b.data.toList = unl a.data.toList b.data.toList m := by unfold unlL; rw [hla, hlb, hm]
  rw [e]
  have c1 := rcount_any a.size (by omega) (by omega)
  have c2 := rcount_any b.size (by omega) (by omega)
  rw [cntI_nat] at c1 c2
  have hm1 : cntN a.size ≤ m := by omega
  have hm2 : cntN b.size ≤ m := by omega
  have hm3 : m = cntN a.size ∨ m = cntN b.size := by omega
  have hm4 : m ≤ 4294967296 := by unfold cntN at hm; omega
  obtain ⟨x, hx⟩ : ∃ x, cntN a.size = x := ⟨_, rfl⟩
  obtain ⟨y, hy⟩ : ∃ x, cntN b.size = x := ⟨_, rfl⟩
  rw [hx] at c1 hm1 hm3
  rw [hy] at c2 hm2 hm3
  have C1 := Lib.hid c1; have C2 := Lib.hid c2
  clear c1 c2 hx hy hm e hla hlb
  have HM := Lib.hid hm3; clear hm3
  go_enter Try.func30, Try.ntmps30
  go_wp2
  go_loopw [5, 6] (fun v i wr => ∃ k : Nat, k ≤ m ∧ i = .int .i64 k ∧ wr.ownsRow w.heap.size 3 1 v (unl a.data.toList b.data.toList k).length ((unl a.data.toList b.data.toList k).map fun x => Value.int .i64 (x : Nat)) ∧ Below w.heap.size w wr) (fun _ i _ => m - (intOf i).toNat)
  case atStart => exact ⟨0, Nat.zero_le _, rfl, World.ownsRow_nil _ _ _ _, Below.refl _ _⟩
  case round =>
    obtain ⟨k, hk, rfl, hown, hbel⟩ := hrel
    have hs := unl_same a b k
    have ht := unl_more a b k
    have hlen := unl_len a.data.toList b.data.toList k
    have s1 := rslice_any a ha k
    have s2 := rslice_any b hb k
    obtain ⟨p, hp⟩ : ∃ p, slS a k = p := ⟨_, rfl⟩
    obtain ⟨q, hq⟩ : ∃ p, slS b k = p := ⟨_, rfl⟩
    rw [hp] at hs ht s1
    rw [hq] at hs ht s2
    have S1 := Lib.hid s1; have S2 := Lib.hid s2
    clear s1 s2 hp hq
    by_cases hlt : k < m
    · rcases Nat.lt_or_ge x y with hxy | hxy
      · have htest : k < y := by have := HM.out; omega
        by_cases hpq : p = q
        · have HS := Lib.hid (hs hpq); clear hs ht hm1 hm2
          subst hpq
          go_wp2_with (first | (go_at_call 32; (with_reducible refine (C1.out _).mono ?_); rintro e w' ⟨rfl, rfl⟩) | (go_at_call 32; (with_reducible refine (C2.out _).mono ?_); rintro e w' ⟨rfl, rfl⟩) | (go_at_call 39; (with_reducible refine (S1.out _).mono ?_); rintro e w' ⟨rfl, rfl⟩) | (go_at_call 39; (with_reducible refine (S2.out _).mono ?_); rintro e w' ⟨rfl, rfl⟩))
          go_roundw
          case rel => exact ⟨k + 1, by omega, by go_num, by rw [HS.out]; exact hown, hbel⟩
          case measure => simp [intOf]; omega
        · have HS := Lib.hid (ht hpq); clear hs ht hm1 hm2
          have hne := str_ne hpq
          have hne2 : (p.toList != q.toList) = true := by rw [bne, hne]; rfl
          clear hpq
          go_wp2_with (first | (go_at_call 32; (with_reducible refine (C1.out _).mono ?_); rintro e w' ⟨rfl, rfl⟩) | (go_at_call 32; (with_reducible refine (C2.out _).mono ?_); rintro e w' ⟨rfl, rfl⟩) | (go_at_call 39; (with_reducible refine (S1.out _).mono ?_); rintro e w' ⟨rfl, rfl⟩) | (go_at_call 39; (with_reducible refine (S2.out _).mono ?_); rintro e w' ⟨rfl, rfl⟩) | (at_builtin; refine wpList_append_own _ rfl _ _ 55 rfl w.heap.size 3 i0 (.int .i64 0) 1 8 Try.underlying55 hi hz0 hz1 hz2 rfl (by decide) _ _ _ rfl (hown.alloc _) ⟨wr.heap.size, 0, none⟩ 1 1 [.int .i64 (k : Nat)] rfl rfl (news_int _ _ _) (one_int _) (by unfold maxLen; omega) (by omega) (by have := hbel.size; simp; omega) ?_; intro v' w1 hown' hgrow _))
          have hb1 : Below w.heap.size w w1 := (hbel.alloc hbel.size _).grown hgrow (by have := hbel.size; simp; omega) (own_block hown)
          have ho1 : w1.ownsRow w.heap.size 3 1 v' (unl a.data.toList b.data.toList (k + 1)).length ((unl a.data.toList b.data.toList (k + 1)).map fun x => Value.int .i64 (x : Nat)) := by
            rw [HS.out, List.map_append, List.length_append]
            exact hown'
          have HO := Lib.hid ho1; have HB := Lib.hid hb1
          clear hown' hgrow hown hbel ho1 hb1
          go_wp2
          go_roundw
          case rel => exact ⟨k + 1, by omega, by go_num, HO.out, HB.out⟩
          case measure => simp [intOf]; omega
      · have htest : k < x := by have := HM.out; omega
        by_cases hpq : p = q
        · have HS := Lib.hid (hs hpq); clear hs ht hm1 hm2
          subst hpq
          go_wp2_with (first | (go_at_call 32; (with_reducible refine (C1.out _).mono ?_); rintro e w' ⟨rfl, rfl⟩) | (go_at_call 32; (with_reducible refine (C2.out _).mono ?_); rintro e w' ⟨rfl, rfl⟩) | (go_at_call 39; (with_reducible refine (S1.out _).mono ?_); rintro e w' ⟨rfl, rfl⟩) | (go_at_call 39; (with_reducible refine (S2.out _).mono ?_); rintro e w' ⟨rfl, rfl⟩))
          go_roundw
          case rel => exact ⟨k + 1, by omega, by go_num, by rw [HS.out]; exact hown, hbel⟩
          case measure => simp [intOf]; omega
        · have HS := Lib.hid (ht hpq); clear hs ht hm1 hm2
          have hne := str_ne hpq
          have hne2 : (p.toList != q.toList) = true := by rw [bne, hne]; rfl
          clear hpq
          go_wp2_with (first | (go_at_call 32; (with_reducible refine (C1.out _).mono ?_); rintro e w' ⟨rfl, rfl⟩) | (go_at_call 32; (with_reducible refine (C2.out _).mono ?_); rintro e w' ⟨rfl, rfl⟩) | (go_at_call 39; (with_reducible refine (S1.out _).mono ?_); rintro e w' ⟨rfl, rfl⟩) | (go_at_call 39; (with_reducible refine (S2.out _).mono ?_); rintro e w' ⟨rfl, rfl⟩) | (at_builtin; refine wpList_append_own _ rfl _ _ 55 rfl w.heap.size 3 i0 (.int .i64 0) 1 8 Try.underlying55 hi hz0 hz1 hz2 rfl (by decide) _ _ _ rfl (hown.alloc _) ⟨wr.heap.size, 0, none⟩ 1 1 [.int .i64 (k : Nat)] rfl rfl (news_int _ _ _) (one_int _) (by unfold maxLen; omega) (by omega) (by have := hbel.size; simp; omega) ?_; intro v' w1 hown' hgrow _))
          have hb1 : Below w.heap.size w w1 := (hbel.alloc hbel.size _).grown hgrow (by have := hbel.size; simp; omega) (own_block hown)
          have ho1 : w1.ownsRow w.heap.size 3 1 v' (unl a.data.toList b.data.toList (k + 1)).length ((unl a.data.toList b.data.toList (k + 1)).map fun x => Value.int .i64 (x : Nat)) := by
            rw [HS.out, List.map_append, List.length_append]
            exact hown'
          have HO := Lib.hid ho1; have HB := Lib.hid hb1
          clear hown' hgrow hown hbel ho1 hb1
          go_wp2
          go_roundw
          case rel => exact ⟨k + 1, by omega, by go_num, HO.out, HB.out⟩
          case measure => simp [intOf]; omega
    · rcases Nat.lt_or_ge x y with hxy | hxy
      · have htest : y ≤ k := by omega
        obtain rfl : k = m := by omega
        clear hs ht
        obtain ⟨ad, c, rfl, hn⟩ := nums_own hown
        have HNN := Lib.hid hn; clear hn hown
        go_wp2_with (first | (go_at_call 32; (with_reducible refine (C1.out _).mono ?_); rintro e w' ⟨rfl, rfl⟩) | (go_at_call 32; (with_reducible refine (C2.out _).mono ?_); rintro e w' ⟨rfl, rfl⟩) | (go_at_call 39; (with_reducible refine (S1.out _).mono ?_); rintro e w' ⟨rfl, rfl⟩) | (go_at_call 39; (with_reducible refine (S2.out _).mono ?_); rintro e w' ⟨rfl, rfl⟩))
        go_ret
        exact ⟨ad, c, rfl, HNN.out, hbel⟩
      · have htest : x ≤ k := by omega
        obtain rfl : k = m := by omega
        clear hs ht
        obtain ⟨ad, c, rfl, hn⟩ := nums_own hown
        have HNN := Lib.hid hn; clear hn hown
        go_wp2_with (first | (go_at_call 32; (with_reducible refine (C1.out _).mono ?_); rintro e w' ⟨rfl, rfl⟩) | (go_at_call 32; (with_reducible refine (C2.out _).mono ?_); rintro e w' ⟨rfl, rfl⟩) | (go_at_call 39; (with_reducible refine (S1.out _).mono ?_); rintro e w' ⟨rfl, rfl⟩) | (go_at_call 39; (with_reducible refine (S2.out _).mono ?_); rintro e w' ⟨rfl, rfl⟩))
        go_ret
        exact ⟨ad, c, rfl, HNN.out, hbel⟩

/-- A slice that reads as these pairs; its row lies below B. -/
def Prs (w : World) (B : Nat) (a : Option Addr) (l : List (Nat × Nat)) : Prop :=
  ∀ (k : Nat) (h : k < l.length), ∃ ad, a = some ad ∧ ad.block < B ∧ w.cell? (ad.add (k * 2)) = some (.int .i64 ((l[k]).1 : Nat)) ∧ w.cell? ⟨(ad.add (k * 2)).block, (ad.add (k * 2)).off + 1, none⟩ = some (.int .i64 ((l[k]).2 : Nat))
theorem Prs.below {w w' : World} {B : Nat} {a : Option Addr} {l : List (Nat × Nat)} (h : Prs w B a l) (hb : Below B w w') : Prs w' B a l := fun k hl => by
  obtain ⟨ad, e, hlt, h1, h2⟩ := h k hl
  have hbl : (ad.add (k * 2)).block = ad.block := by unfold Addr.add; split <;> rfl
  exact ⟨ad, e, hlt, (hb.cell (by rw [hbl]; exact hlt)).trans h1, (hb.cell (p := ⟨(ad.add (k * 2)).block, (ad.add (k * 2)).off + 1, none⟩) (by show (ad.add (k * 2)).block < B; rw [hbl]; exact hlt)).trans h2⟩
theorem prs_own {w : World} {base : Nat} {t : TypeId} {v : Value} {l : List (Nat × Nat)} (h : w.ownsRow base t 2 v l.length (prV l)) : ∃ a c, v = .slice a l.length c ∧ Prs w w.heap.size a l := by
  rcases h.2 with ⟨rfl, h0⟩ | ⟨g, cap, cur, rfl, _, hg, _⟩
  · exact ⟨none, 0, by rw [h0], fun k hk => absurd hk (by omega)⟩
  · refine ⟨_, _, rfl, fun k hk => ⟨_, rfl, ?_, ?_, ?_⟩⟩
    · exact (h.lt g rfl).2
    · exact h.cells (g := g) rfl (k * 2) _ (prV_get l k hk).1
    · have := h.cells (g := g) rfl (k * 2 + 1) _ (prV_get l k hk).2
      have e : (⟨((⟨g, 0, none⟩ : Addr).add (k * 2)).block, ((⟨g, 0, none⟩ : Addr).add (k * 2)).off + 1, none⟩ : Addr) = (⟨g, 0, none⟩ : Addr).add (k * 2 + 1) := by
        unfold Addr.add
        by_cases hk0 : k * 2 = 0 <;> simp [hk0]
      rw [e]; exact this
def RetPrs (w : World) (l : List (Nat × Nat)) (e : Ending) (w' : World) : Prop := ∃ a c, e = .returned (.slice a l.length c) ∧ Prs w' w'.heap.size a l ∧ Below w.heap.size w w'

/-- One pair laid in a block of its own, to be appended. -/
theorem news_pair (w : World) (x y : Int) (t : TypeId) : ∀ j u, [Value.int .i64 x, .int .i64 y][j]? = some u → (w.alloc (.cells #[.int .i64 x, .int .i64 y] t)).cell? ((⟨w.heap.size, 0, none⟩ : Addr).add j) = some u := by
  intro j u hj
  match j, hj with
  | 0, hj => simp at hj; subst hj; simp [Addr.add]
  | 1, hj => simp at hj; subst hj; simp [Addr.add, World.cell?_alloc_new]
theorem one_pair (x y : Int) : ∀ u ∈ [Value.int .i64 x, .int .i64 y], u.oneCell' = true := by
  intro u hu
  simp at hu
  rcases hu with rfl | rfl <;> rfl

/-- The last pair's second cell. -/
theorem last_cell {w : World} {base g cap : Nat} {t : TypeId} {L : List (Nat × Nat)} {x y : Nat} (h : w.ownsRow base t 2 (.slice (some ⟨g, 0, none⟩) (L.length + 1) cap) (L.length + 1) (prV (L ++ [(x, y)]))) :
    w.cell? ⟨g, L.length * 2 + 1, none⟩ = some (.int .i64 (y : Nat)) ∧ w.frozen? ⟨g, L.length * 2 + 1, none⟩ = false := by
  have h1 := h.cellAt (L.length * 2 + 1) (by omega)
  have h2 := (prV_get (L ++ [(x, y)]) L.length (by simp)).2
  rw [h2] at h1
  simp at h1
  exact ⟨h1, h.frozenAt _⟩
theorem last_set {w : World} {base g cap : Nat} {t : TypeId} {L : List (Nat × Nat)} {x y z : Nat} (h : w.ownsRow base t 2 (.slice (some ⟨g, 0, none⟩) (L.length + 1) cap) (L.length + 1) (prV (L ++ [(x, y)]))) :
    (w.setCell ⟨g, L.length * 2 + 1, none⟩ (.int .i64 (z : Nat))).ownsRow base t 2 (.slice (some ⟨g, 0, none⟩) (L.length + 1) cap) (L.length + 1) (prV (L ++ [(x, z)])) := by
  have := (h.stored (L.length * 2 + 1) (.int .i64 (z : Nat))).1
  rwa [prV_set] at this
theorem own_pairs {w : World} {base g cap : Nat} {t : TypeId} {L : List (Nat × Nat)} {x : Nat} (h : w.ownsRow base t 2 (.slice (some ⟨g, 0, none⟩) (L.length + 1) cap) (L.length + 1) (prV L ++ [.int .i64 (x : Nat), .int .i64 (x : Nat)])) :
    w.ownsRow base t 2 (.slice (some ⟨g, 0, none⟩) (L.length + 1) cap) (L.length + 1) (prV (L ++ [(x, x)])) := by rw [prV_app]; exact h

end Go.Proofs.Ytcoacbknhlnjmaa
