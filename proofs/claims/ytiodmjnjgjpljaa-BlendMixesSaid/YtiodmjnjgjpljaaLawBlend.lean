/-
  The walks of the laws BlendMixes, BlendEnds and BlendBytes.
-/
import Derived.Test.YtiodmjnjgjpljaaBlendDev2
import Derived.Deep.QuietTactic
import Derived.BigQuiet
namespace Go.Proofs.Ytiodmjnjgjpljaa
open Go.RowKit

theorem mix_here : mixOf ByteArray.empty ⟨#[97, 98]⟩ ⟨#[2]⟩ = ⟨#[0, 0]⟩ ∧ mixUs ByteArray.empty ⟨#[97, 98]⟩ ⟨#[2]⟩ = 1 := by decide +kernel
set_option maxRecDepth 100000 in
set_option maxHeartbeats 400000 in
theorem lives6_any (w : World) : Calls Try.prog 6 #[] w fun e w' => e = .returned (.bool true) ∧ Below w.heap.size w w' := by
  have hp := pmix_any ByteArray.empty ⟨#[97, 98]⟩ ⟨#[2]⟩ (by decide +kernel) (by decide +kernel)
  rw [mix_here.1, mix_here.2] at hp
  have HP := Lib.hid hp; clear hp
  go_enter Try.func6, Try.ntmps6
  go_wp2_with fail
  refine (HP.out _).mono ?_
  rintro e w' ⟨rfl, hb⟩
  go_wp2
  go_ret
  exact ⟨by simp, hb⟩

theorem big_cases {a b c m n : Nat} (h : ¬ (a ≤ m ∧ b ≤ m ∧ c ≤ n)) : m < a ∨ (a ≤ m ∧ m < b) ∨ (a ≤ m ∧ b ≤ m ∧ n < c) := by omega

set_option maxRecDepth 100000 in
set_option maxHeartbeats 400000 in
theorem blendMixes_walk (o n c : ByteArray) (_w0 : o.size ≤ maxLen) (_w1 : n.size ≤ maxLen) (_w2 : c.size ≤ maxLen) (w : World) :
    Calls Try.prog 3 #[.string o, .string n, .string c] w fun e w' => e = .returned (.bool true) ∧ Below w.heap.size w w' := by
  clear _w0 _w1 _w2
  by_cases hs : o.size ≤ 600 ∧ n.size ≤ 600 ∧ c.size ≤ 100
  · obtain ⟨ho, hn, hc⟩ := hs
    have c1 := pmix_any o n c (by omega) (by omega)
    have c2 := rmix_any o n c (by omega) (by omega)
    obtain ⟨x, hx⟩ : ∃ x, mixOf o n c = x := ⟨_, rfl⟩
    obtain ⟨u, hu⟩ : ∃ u, mixUs o n c = u := ⟨_, rfl⟩
    rw [hx, hu] at c1 c2
    have C1 := Lib.hid c1; have C2 := Lib.hid c2
    clear c1 c2 hx hu
    go_enter Try.func3, Try.ntmps3
    go_wp2_with fail
    refine (C1.out _).mono ?_
    rintro e w1 ⟨rfl, hb1⟩
    go_wp2_with fail
    refine (C2.out _).mono ?_
    rintro e w2 ⟨rfl, hb2⟩
    go_wp2_with fail
    refine (lives6_any _).mono ?_
    rintro e w3 ⟨rfl, hb3⟩
    go_wp2
    go_ret
    exact ⟨by simp, (hb1.trans (hb2.mono hb1.size)).trans (hb3.mono (hb1.trans (hb2.mono hb1.size)).size)⟩
  · rcases big_cases hs with h | ⟨h1, h⟩ | ⟨h1, h2, h⟩
    all_goals
      clear hs
      go_enter Try.func3, Try.ntmps3
      go_wp2_with fail
      refine (lives6_any _).mono ?_
      rintro e w3 ⟨rfl, hb3⟩
      go_wp2
      go_ret
      exact ⟨rfl, hb3⟩

theorem mixOf_list (o n c : ByteArray) : (mixOf o n c).data.toList = (mixL o.data.toList n.data.toList c.data.toList).1 := rfl
theorem mixOf_old (o n c : ByteArray) (h : ∀ u, chN c.data.toList u = 0) : mixOf o n c = o := str_ext (by rw [mixOf_list, mixL_old _ _ _ h])
theorem mixOf_new (o n c : ByteArray) (h : ∀ u, u < mixM o.data.toList n.data.toList → chN c.data.toList u = 1) : mixOf o n c = n := str_ext (by rw [mixOf_list, mixL_new _ _ _ h])
theorem mixOf_same (n c : ByteArray) : mixOf n n c = n ∧ mixUs n n c = 0 := ⟨str_ext (by rw [mixOf_list, mixL_same]), by show (mixL n.data.toList n.data.toList c.data.toList).2 = 0; rw [mixL_same]⟩
theorem mixUs_eq (o n c : ByteArray) : mixUs o n c = (unlL o.data.toList n.data.toList).length := mixL_used _ _ _
theorem mixUs_zero (o n c : ByteArray) : mixUs o n c = 0 ↔ o = n := by
  rw [mixUs_eq, List.length_eq_zero_iff, unlL_nil]
  exact ⟨fun h => str_ext h, fun h => by rw [h]⟩
theorem chN_nil (u : Nat) : chN ByteArray.empty.data.toList u = 0 := if_pos (Nat.zero_le _)
/-- Forty bytes 1. -/
def onesS : ByteArray := ⟨(List.replicate 40 (1 : UInt8)).toArray⟩
theorem chN_ones (u : Nat) (h : u < 40) : chN onesS.data.toList u = 1 := by
  have : ∀ u, u < 40 → chN onesS.data.toList u = 1 := by decide +kernel
  exact this u h

theorem bcell6 {W w1 : World} (hb : Below W.heap.size W w1) : (∀ b o, b < W.heap.size → w1.cell? ⟨b, o, none⟩ = W.cell? ⟨b, o, none⟩) ∧ (∀ b o, b < W.heap.size → w1.frozen? ⟨b, o, none⟩ = W.frozen? ⟨b, o, none⟩) :=
  ⟨fun b o h => hb.cell (p := ⟨b, o, none⟩) h, fun b o h => hb.frozen (p := ⟨b, o, none⟩) h⟩
/-- A row of forty bytes whose first k are 1. -/
def onk (k : Nat) : Array Value := ((List.range 40).map fun i => Value.int .u8 (if i < k then 1 else 0)).toArray
theorem onk_zero : zs 40 = onk 0 := by
  refine Array.ext (by rw [zs_size]; simp [onk]) fun i h1 h2 => ?_
  rw [zs_size] at h1
  have := zs_get 40 i h1
  rw [Array.getElem?_eq_getElem (by rw [zs_size]; exact h1)] at this
  rw [Option.some.inj this]
  simp [onk]
theorem onk_set (k : Nat) : (onk k).setIfInBounds k (.int .u8 1) = onk (k + 1) := by
  refine Array.ext (by simp [onk]) fun i h1 h2 => ?_
  rw [Array.getElem_setIfInBounds]
  · simp only [onk, List.getElem_toArray, List.getElem_map, List.getElem_range]
    split
    · rename_i h; subst h; simp
    · rename_i h
      congr 1
      by_cases g : i < k
      · rw [if_pos g, if_pos (by omega)]
      · rw [if_neg g, if_neg (by omega)]
  · simpa [onk] using h2
theorem onk_cell (w : World) (t : TypeId) (k j : Nat) (h : j < 40) : (w.alloc (.cells (onk k) t)).cell? ⟨w.heap.size, j, none⟩ = some (.int .u8 (if j < k then 1 else 0)) := by
  rw [World.cell?_alloc_new]
  simp [onk, h]
theorem ones_conv (w : World) (g : Nat) (h : ∀ i, i < 40 → w.cell? ⟨g, i, none⟩ = some (.int .u8 1)) : (convert 26 9 (.slice (some ⟨g, 0, none⟩) 40 40)).run Try.prog w = .ok (.string onesS) w := by
  have e : strOfNums (List.replicate 40 1) = onesS := by decide +kernel
  rw [← e]
  refine run_convert_bytes_arg _ 26 5 Try.underlying26 Try.underlying5 _ 0 40 40 (List.replicate 40 1) (by simp) (fun i hi => ?_) 9 Try.underlying9
  rw [Nat.zero_add, h i hi, List.getD_eq_getElem?_getD, List.getElem?_replicate, if_pos hi]
  rfl

set_option maxRecDepth 100000 in
set_option maxHeartbeats 800000 in
theorem blendEnds_walk (o n c : ByteArray) (_w0 : o.size ≤ maxLen) (_w1 : n.size ≤ maxLen) (_w2 : c.size ≤ maxLen) (w : World) :
    Calls Try.prog 4 #[.string o, .string n, .string c] w fun e w' => e = .returned (.bool true) ∧ Below w.heap.size w w' := by
  clear _w0 _w1 _w2
  by_cases hs : o.size ≤ 600 ∧ n.size ≤ 600 ∧ c.size ≤ 100
  · obtain ⟨ho, hn, hc⟩ := hs
    have c1 := pmix_any o n ByteArray.empty (by omega) (by omega)
    have c2 := pmix_any o n onesS (by omega) (by omega)
    have c3 := pmix_any n n c (by omega) (by omega)
    rw [mixOf_old _ _ _ chN_nil, mixUs_eq] at c1
    rw [mixOf_new _ _ _ (fun u hu => chN_ones u (by
      have e1 : o.data.toList.length = o.size := by simp
      have e2 : n.data.toList.length = n.size := by simp
      unfold mixM cntN at hu; omega)), mixUs_eq] at c2
    rw [(mixOf_same n c).1, (mixOf_same n c).2] at c3
    have hz := mixUs_zero o n ByteArray.empty
    rw [mixUs_eq] at hz
    obtain ⟨u, hu⟩ : ∃ u, (unlL o.data.toList n.data.toList).length = u := ⟨_, rfl⟩
    rw [hu] at c1 c2 hz
    have C1 := Lib.hid c1; have C2 := Lib.hid c2; have C3 := Lib.hid c3
    clear c1 c2 c3 hu
    have mk : ∀ W : World, (Instr.makeSlice 26 (.int .i64 40) (.int .i64 40)).run Try.prog W = .ok (.slice (some ⟨W.heap.size, 0, none⟩) 40 40) (W.alloc (.cells (onk 0) 5)) :=
      fun W => by have := make_zeros 40 40 rfl (by omega) W; rw [onk_zero] at this; exact this
    have HZ := Lib.hid hz; clear hz
    go_enter Try.func4, Try.ntmps4
    go_wp2
    go_loopw [8] (fun i wr => ∃ k : Nat, k ≤ 40 ∧ i = .int .i64 k ∧ wr = w.alloc (.cells (onk k) 5)) (fun i _ => 40 - (intOf i).toNat)
    case atStart => exact ⟨0, Nat.zero_le _, rfl, rfl⟩
    case round =>
      obtain ⟨k, hk, rfl, rfl⟩ := hrel
      by_cases hlt : k < 40
      · have hc := onk_cell w 5 k k hlt
        have hb0 : (0 : Int) ≤ (k : Int) := by omega
        have hb1 : (k : Int) < 40 := by omega
        go_wp2
        go_roundw
        case rel => exact ⟨k + 1, by omega, by go_num, by rw [onk_set]⟩
        case measure => simp [intOf]; omega
      · obtain rfl : k = 40 := by omega
        go_wp2_with fail
        refine (C1.out _).mono ?_
        rintro e w1 ⟨rfl, hb1⟩
        have hcv : (convert 26 9 (.slice (some ⟨w.heap.size, 0, none⟩) 40 40)).run Try.prog w1 = .ok (.string onesS) w1 := by
          refine ones_conv w1 w.heap.size fun i hi => ?_
          rw [(bcell6 hb1).1 _ _ (by simp), onk_cell w _ 40 i hi, if_pos hi]
        go_wp2_with fail
        refine (C2.out _).mono ?_
        rintro e w2 ⟨rfl, hb2⟩
        go_wp2_with fail
        refine (C3.out _).mono ?_
        rintro e w3 ⟨rfl, hb3⟩
        have hb4 : Below w.heap.size w w3 := ((((Below.refl _ _).alloc (Nat.le_refl _) _).trans (hb1.mono (by simp))).trans (hb2.mono (by have := hb1.size; simp at this; omega))).trans (hb3.mono (by have := hb1.size; have := hb2.size; simp at *; omega))
        have t1 : (o.toList == o.toList) = true := by simp
        have t2 : (n.toList == n.toList) = true := by simp
        have t5 : ((u : Int) == (u : Int)) = true := by simp
        by_cases hon : o = n
        · have t3 : (o.toList == n.toList) = true := by rw [hon]; simp
          obtain rfl : u = 0 := HZ.out.2 hon
          clear hon
          go_wp2_with fail
          refine (lives6_any _).mono ?_
          rintro e w5 ⟨rfl, hb5⟩
          go_wp2
          go_ret
          exact ⟨by simp, hb4.trans (hb5.mono hb4.size)⟩
        · have t3 := str_ne hon
          have hu : ¬ u = 0 := fun h => hon (HZ.out.1 h)
          have t4 : ((u : Int) == 0) = false := beq_eq_false_iff_ne.2 (by omega)
          have t6 : (u == 0) = false := beq_eq_false_iff_ne.2 hu
          clear hon hu
          go_wp2_with fail
          refine (lives6_any _).mono ?_
          rintro e w5 ⟨rfl, hb5⟩
          go_wp2
          go_ret
          exact ⟨by simp, hb4.trans (hb5.mono hb4.size)⟩
  · rcases big_cases hs with h | ⟨h1, h⟩ | ⟨h1, h2, h⟩
    all_goals
      clear hs
      go_enter Try.func4, Try.ntmps4
      go_wp2_with fail
      refine (lives6_any _).mono ?_
      rintro e w3 ⟨rfl, hb3⟩
      go_wp2
      go_ret
      exact ⟨rfl, hb3⟩

theorem mixOf_size (o n c : ByteArray) : (mixOf o n c).size ≤ max o.size n.size := by
  have := mixL_max o.data.toList n.data.toList c.data.toList
  rw [← mixOf_list] at this
  simpa using this
theorem mixOf_ok (o n c : ByteArray) (i : Nat) (h : i < (mixOf o n c).size) : okB o.data.toList n.data.toList i ((mixOf o n c)[i]'h).toNat := by
  have h' : i < (mixL o.data.toList n.data.toList c.data.toList).1.length := by rw [← mixOf_list]; simpa using h
  have := mixL_ok o.data.toList n.data.toList c.data.toList i h'
  rw [← mixOf_list, bt_get _ i h] at this
  exact this
/-- How a byte that is left stands: the four ways of the law's test. -/
theorem ok_ways (o n : ByteArray) (i b : Nat) (h : okB o.data.toList n.data.toList i b) :
    b = 0 ∨ (¬ b = 0 ∧ ∃ h : i < o.size, (o[i]'h).toNat = b) ∨ (¬ b = 0 ∧ o.size ≤ i ∧ ∃ h : i < n.size, (n[i]'h).toNat = b) ∨ (¬ b = 0 ∧ (∃ h : i < o.size, ¬ (o[i]'h).toNat = b) ∧ ∃ h : i < n.size, (n[i]'h).toNat = b) := by
  by_cases hb : b = 0
  · exact .inl hb
  rcases h with h | ⟨h1, h2⟩ | ⟨h1, h2⟩
  · exact .inl h
  · have h1' : i < o.size := by simpa using h1
    rw [bt_get o i h1'] at h2
    exact .inr (.inl ⟨hb, h1', h2⟩)
  · have h1' : i < n.size := by simpa using h1
    rw [bt_get n i h1'] at h2
    by_cases ho : i < o.size
    · by_cases he : (o[i]'ho).toNat = b
      · exact .inr (.inl ⟨hb, ho, he⟩)
      · exact .inr (.inr (.inr ⟨hb, ⟨ho, he⟩, h1', h2⟩))
    · exact .inr (.inr (.inl ⟨hb, by omega, h1', h2⟩))

set_option maxRecDepth 100000 in
set_option maxHeartbeats 3200000 in
theorem blendBytes_walk (o n c : ByteArray) (_w0 : o.size ≤ maxLen) (_w1 : n.size ≤ maxLen) (_w2 : c.size ≤ maxLen) (w : World) :
    Calls Try.prog 5 #[.string o, .string n, .string c] w fun e w' => e = .returned (.bool true) ∧ Below w.heap.size w w' := by
  clear _w0 _w1 _w2
  by_cases hs : o.size ≤ 600 ∧ n.size ≤ 600 ∧ c.size ≤ 100
  · obtain ⟨ho, hn, hc⟩ := hs
    have c1 := pmix_any o n c (by omega) (by omega)
    have hsz := mixOf_size o n c
    have hok := mixOf_ok o n c
    obtain ⟨s, hs⟩ : ∃ s, mixOf o n c = s := ⟨_, rfl⟩
    rw [hs] at c1 hsz
    subst hs
    obtain ⟨s, hs⟩ : ∃ s, mixOf o n c = s := ⟨_, rfl⟩
    have HOK : Hid (∀ (i : Nat) (h : i < s.size), okB o.data.toList n.data.toList i (s[i]'h).toNat) := by subst hs; exact hok
    rw [hs] at c1 hsz
    have C1 := Lib.hid c1
    clear c1 hs hok
    have hbig : s.size ≤ 600 := by omega
    have t0 : (decide ((o.size : Int) < (s.size : Int)) && decide ((n.size : Int) < (s.size : Int))) = false := by simp; omega
    rcases (show s.size ≤ o.size ∨ (o.size < s.size ∧ s.size ≤ n.size) by omega) with g | ⟨g, g'⟩
    all_goals
      clear hsz
      go_enter Try.func5, Try.ntmps5
      go_wp2_with fail
      refine (C1.out _).mono ?_
      rintro e w1 ⟨rfl, hb1⟩
      go_wp2
      go_loopw [9] (fun i wr => ∃ k d : Nat, k ≤ s.size ∧ i = .int .i64 k ∧ wr = w1.drewN d) (fun i _ => s.size - (intOf i).toNat)
      case atStart => exact ⟨0, 0, Nat.zero_le _, rfl, rfl⟩
      case round =>
        obtain ⟨k, d, hk, rfl, rfl⟩ := hrel
        by_cases hlt : k < s.size
        · have hway := ok_ways o n k _ (HOK.out k hlt)
          have b0 : (0 : Int) ≤ (k : Int) := by omega
          have b1 : (k : Int) < (s.size : Int) := by omega
          rcases hway with h0 | ⟨h0, h1, h2⟩ | ⟨h0, h1, h2, h3⟩ | ⟨h0, ⟨h1, h2⟩, h3, h4⟩
          · have t1 : (((s[k]'hlt).toNat : Int) != 0) = false := by rw [h0]; rfl
            clear h0
            go_wp2
            go_quiet (fail)
            go_wp2
            go_roundw
            case rel => exact ⟨k + 1, _, by omega, by go_num, rfl⟩
            case measure => simp [intOf]; omega
          · have t1 : (((s[k]'hlt).toNat : Int) != 0) = true := by rw [bne_iff_ne]; omega
            have t1n : ((s[k]'hlt).toNat != 0) = true := by rw [bne_iff_ne]; exact h0
            have t2 : decide ((o.size : Int) ≤ (k : Int)) = false := by simp; omega
            have t2n : decide (o.size ≤ k) = false := by simp; omega
            have t3 : (((o[k]'h1).toNat : Int) != ((s[k]'hlt).toNat : Int)) = false := by rw [h2]; simp
            have t3n : ((o[k]'h1).toNat != (s[k]'hlt).toNat) = false := by rw [h2]; simp
            have b2 : (k : Int) < (o.size : Int) := by omega
            clear h0 h2
            go_wp2
            go_quiet (fail)
            go_wp2
            go_roundw
            case rel => exact ⟨k + 1, _, by omega, by go_num, rfl⟩
            case measure => simp [intOf]; omega
          · by_cases hgg : s.size ≤ o.size
            · omega
            clear hgg
            have t1 : (((s[k]'hlt).toNat : Int) != 0) = true := by rw [bne_iff_ne]; omega
            have t1n : ((s[k]'hlt).toNat != 0) = true := by rw [bne_iff_ne]; exact h0
            have t2 : decide ((o.size : Int) ≤ (k : Int)) = true := by simp; omega
            have t2n : decide (o.size ≤ k) = true := by simp; omega
            have g2 : (o.size : Int) ≤ (k : Int) := by omega
            have t3 : decide ((n.size : Int) ≤ (k : Int)) = false := by simp; omega
            have t3n : decide (n.size ≤ k) = false := by simp; omega
            have t4 : (((n[k]'h2).toNat : Int) != ((s[k]'hlt).toNat : Int)) = false := by rw [h3]; simp
            have t4n : ((n[k]'h2).toNat != (s[k]'hlt).toNat) = false := by rw [h3]; simp
            have b2 : (k : Int) < (n.size : Int) := by omega
            clear h0 h3
            go_wp2
            go_quiet (fail)
            go_wp2
            go_roundw
            case rel => exact ⟨k + 1, _, by omega, by go_num, rfl⟩
            case measure => simp [intOf]; omega
          · have t1 : (((s[k]'hlt).toNat : Int) != 0) = true := by rw [bne_iff_ne]; omega
            have t1n : ((s[k]'hlt).toNat != 0) = true := by rw [bne_iff_ne]; exact h0
            have t2 : decide ((o.size : Int) ≤ (k : Int)) = false := by simp; omega
            have t2n : decide (o.size ≤ k) = false := by simp; omega
            have t5 : (((o[k]'h1).toNat : Int) != ((s[k]'hlt).toNat : Int)) = true := by rw [bne_iff_ne]; omega
            have t5n : ((o[k]'h1).toNat != (s[k]'hlt).toNat) = true := by rw [bne_iff_ne]; exact h2
            have t3 : decide ((n.size : Int) ≤ (k : Int)) = false := by simp; omega
            have t3n : decide (n.size ≤ k) = false := by simp; omega
            have t4 : (((n[k]'h3).toNat : Int) != ((s[k]'hlt).toNat : Int)) = false := by rw [h4]; simp
            have t4n : ((n[k]'h3).toNat != (s[k]'hlt).toNat) = false := by rw [h4]; simp
            have b2 : (k : Int) < (n.size : Int) := by omega
            have b3 : (k : Int) < (o.size : Int) := by omega
            clear h0 h2 h4
            go_wp2
            go_quiet (fail)
            go_wp2
            go_roundw
            case rel => exact ⟨k + 1, _, by omega, by go_num, rfl⟩
            case measure => simp [intOf]; omega
        · obtain rfl : k = s.size := by omega
          go_wp2_with fail
          refine (lives6_any _).mono ?_
          rintro e w3 ⟨rfl, hb4⟩
          go_wp2
          go_ret
          exact ⟨rfl, hb1.trans ((drewN_below (Below.refl _ _) d).trans (hb4.mono hb1.size))⟩
  · rcases big_cases hs with h | ⟨h1, h⟩ | ⟨h1, h2, h⟩
    all_goals
      clear hs
      go_enter Try.func5, Try.ntmps5
      go_wp2_with fail
      refine (lives6_any _).mono ?_
      rintro e w3 ⟨rfl, hb3⟩
      go_wp2
      go_ret
      exact ⟨rfl, hb3⟩
end Go.Proofs.Ytiodmjnjgjpljaa
