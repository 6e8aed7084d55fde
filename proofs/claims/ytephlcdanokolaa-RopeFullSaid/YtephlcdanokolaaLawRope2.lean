/-
  Layer 18's law RopeFull.
-/
import Derived.Test.YtephlcdanokolaaLawRope
import Derived.Test.YtephlcdanokolaaRow
import Derived.Lib.MinMax
namespace Go.Proofs.Ytephlcdanokolaa
open Go.RowKit
set_option linter.unusedVariables false
set_option linter.unusedSimpArgs false

/-- So many letters a. -/
def asS (n : Nat) : ByteArray := ⟨(List.replicate n (97 : UInt8)).toArray⟩
theorem asS_list (n : Nat) : (asS n).data.toList = List.replicate n 97 := rfl
theorem asS_size (n : Nat) : (asS n).size = n := by simp [asS, ByteArray.size]
theorem asS_vld (n : Nat) : vldB (asS n).data.toList = true := by
  rw [vldB_iff, asS_list]
  induction n with
  | zero => exact vld_nil
  | succ n ih =>
    rw [show List.replicate (n + 1) (97 : UInt8) = [97] ++ List.replicate n 97 from rfl]
    exact vld_app _ _ (by unfold vld; decide +kernel) ih
theorem asS_edge (n k : Nat) (h : k ≤ n) : edgeB (asS n).data.toList k = true := by
  unfold edgeB
  rw [decide_eq_true_eq, Int.toNat_natCast]
  refine ⟨by omega, ?_⟩
  rw [asS_list]
  rcases Nat.lt_or_ge k n with g | g
  · refine .inr (.inr ⟨by simpa using g, ?_⟩)
    have : bt (List.replicate n (97 : UInt8)) k = 97 := by
      unfold bt
      rw [List.getD_eq_getElem?_getD, List.getElem?_replicate, if_pos g]
      rfl
    omega
  · exact .inr (.inl (by rw [List.length_replicate]; omega))
theorem asS_insE (n k m : Nat) (h : k ≤ n) (hm : n + m ≤ 4096) : insE (asS n) k (asS m) = 0 := by
  unfold insE
  rw [asS_size, asS_size, asS_vld, asS_edge n k h, stand_iff.2 (show (0 : Int) ≤ (k : Int) ∧ (0 : Int) ≤ 0 ∧ (0 : Int) ≤ (n : Int) - k by omega), if_neg (by decide), if_neg (by decide), if_neg (by decide), if_neg (by omega)]
theorem asS_insE6 (n k m : Nat) (h : k ≤ n) (hm : 4096 < n + m) : insE (asS n) k (asS m) = 6 := by
  unfold insE
  rw [asS_size, asS_size, asS_vld, asS_edge n k h, stand_iff.2 (show (0 : Int) ≤ (k : Int) ∧ (0 : Int) ≤ 0 ∧ (0 : Int) ≤ (n : Int) - k by omega), if_neg (by decide), if_neg (by decide), if_neg (by decide), if_pos (by omega)]
theorem asS_insS (n k m : Nat) (h : k ≤ n) (hm : n + m ≤ 4096) : insS (asS n) k (asS m) = asS (n + m) := by
  unfold insS
  rw [asS_insE n k m h hm, if_pos rfl]
  apply str_ext
  rw [app_list, app_list, extract_list, extract_list, asS_list, asS_list, asS_list, asS_size, Int.toNat_natCast]
  simp only [List.drop_replicate, List.take_replicate, List.replicate_append_replicate]
  congr 1
  omega
theorem asS_delE (n k : Nat) (h : k + 1 ≤ n) : delE (asS n) k 1 = 0 := by
  unfold delE
  rw [asS_size, asS_edge n k (by omega), show (k : Int) + 1 = ((k + 1 : Nat) : Int) by omega, asS_edge n (k + 1) h, stand_iff.2 (show (0 : Int) ≤ (k : Int) ∧ (0 : Int) ≤ 1 ∧ (1 : Int) ≤ (n : Int) - k by omega), if_neg (by decide), if_neg (by decide)]
theorem asS_delS (n k : Nat) (h : k + 1 ≤ n) : (delS (asS n) k 1).size = n - 1 := by
  unfold delS
  rw [asS_delE n k h, if_pos rfl, ByteArray.size_append, asS_size, show (k : Int) + 1 = ((k + 1 : Nat) : Int) by omega, Int.toNat_natCast, Int.toNat_natCast, piece_size _ _ (by rw [asS_size]; omega)]
  have := rest_size (asS n) (k + 1)
  rw [asS_size] at this
  rw [this]
  omega
theorem rowAt_put18 {W : World} {g : Nat} {l : List UInt8} (h : RowAt W g l) (k : Nat) (hk : k < l.length) (b : UInt8) :
    RowAt (W.setCell ⟨g, k, none⟩ (.int .u8 (b.toNat : Nat))) g (l.set k b) := by
  intro i hi
  obtain ⟨h1, h2⟩ := rowAt_set h k hk b i hi
  exact ⟨by simpa using h1, h2⟩
theorem RowAt.below18 {W W' : World} {g B : Nat} {l : List UInt8} (h : RowAt W g l) (hb : Below B W W') (hg : g < B) : RowAt W' g l := fun i hi =>
  ⟨(hb.cell (p := ⟨g, i, none⟩) hg).trans (h i hi).1, (hb.frozen (p := ⟨g, i, none⟩) hg).trans (h i hi).2⟩
theorem rowAt_as {W : World} {g n m : Nat} (h : RowAt W g (List.replicate n 97)) (hm : m ≤ n) : RowAt W g (List.replicate m 97) := fun i hi => by
  rw [List.length_replicate] at hi
  have := h i (by rw [List.length_replicate]; omega)
  rw [List.getD_eq_getElem?_getD, List.getElem?_replicate, if_pos (by omega)] at this
  rw [List.getD_eq_getElem?_getD, List.getElem?_replicate, if_pos hi]
  exact this
/-- Letters a up to a place. -/
def fillA (n k : Nat) : List UInt8 := List.replicate k 97 ++ List.replicate (n - k) 0
theorem fillA_len {n k : Nat} (h : k ≤ n) : (fillA n k).length = n := by unfold fillA; simp; omega
theorem fillA_set {n k : Nat} (h : k < n) : (fillA n k).set k 97 = fillA n (k + 1) := by
  unfold fillA
  obtain ⟨m, rfl⟩ : ∃ m, n = k + (m + 1) := ⟨n - k - 1, by omega⟩
  rw [show k + (m + 1) - k = m + 1 by omega, show k + (m + 1) - (k + 1) = m by omega, List.set_append_right _ _ (by simp), List.length_replicate, Nat.sub_self, List.replicate_succ, List.set_cons_zero, List.replicate_succ' (n := k), List.append_assoc]
  rfl

set_option maxRecDepth 100000 in
set_option maxHeartbeats 3200000 in
theorem ropeFull_walk (n i : Int) (w0 : (Lit.int .i64 n).wf = true) (w1 : (Lit.int .i64 i).wf = true) (w : World) :
    Calls Try.prog 5 #[.int .i64 n, .int .i64 i] w fun e w' => e = .returned (.bool true) ∧ Below w.heap.size w w' := by
  have hi : i64P i := bounds_i64 w1
  clear w0 w1
  by_cases h0 : n < 4090
  · clear hi
    go_enter Try.func5, Try.ntmps5
    go_wp2_with fail
    refine (lives18_any _).mono ?_; rintro e w1 ⟨rfl, hb1⟩
    go_wp2
    go_ret
    exact ⟨rfl, hb1⟩
  by_cases h1 : 4100 < n
  · clear hi
    go_enter Try.func5, Try.ntmps5
    go_wp2_with fail
    refine (lives18_any _).mono ?_; rintro e w1 ⟨rfl, hb1⟩
    go_wp2
    go_ret
    exact ⟨rfl, hb1⟩
  obtain ⟨N, rfl⟩ := Int.eq_ofNat_of_zero_le (show 0 ≤ n by omega)
  have hN0 : 4090 ≤ N := by omega
  have hN1 : N ≤ 4100 := by omega
  have t1 : decide ((N : Int) < 4090) = false := decide_eq_false (by omega)
  have t2 : decide (N < 4090) = false := decide_eq_false (by omega)
  have t3 : decide ((4100 : Int) < (N : Int)) = false := decide_eq_false (by omega)
  have t4 : decide (4100 < N) = false := decide_eq_false (by omega)
  have hmk := make_zeros (N : Int) N rfl (by omega) w
  have hrow := rowAt_zeros w N 5
  have hbel : Below w.heap.size w (w.alloc (.cells (zs N) 5)) := (Below.refl _ _).alloc (Nat.le_refl _) _
  have hgl : w.heap.size < (w.alloc (.cells (zs N) 5)).heap.size := by simp
  have HROW := Lib.hid hrow; have HBEL := Lib.hid hbel; have HI := Lib.hid hi; have HGL := Lib.hid hgl
  clear hrow hbel hi h0 h1 hgl
  go_enter Try.func5, Try.ntmps5
  go_wp2
  go_loopw [6] (fun v wr => ∃ k : Nat, k ≤ N ∧ v = .int .i64 k ∧ RowAt wr w.heap.size (fillA N k) ∧ w.heap.size < wr.heap.size ∧ Below w.heap.size w wr) (fun v _ => N - (intOf v).toNat)
  case atStart => exact ⟨0, Nat.zero_le _, rfl, by simpa [fillA] using HROW.out, HGL.out, HBEL.out⟩
  case round =>
    obtain ⟨k, hk, rfl, hrow, hlt, hbel⟩ := hrel
    by_cases hkn : k < N
    · have hset := rowAt_put18 hrow k (by rw [fillA_len hk]; exact hkn) 97
      rw [fillA_set hkn] at hset
      obtain ⟨hc, hf⟩ := hrow k (by rw [fillA_len hk]; exact hkn)
      obtain ⟨b, hb⟩ : ∃ b, ((fillA N k).getD k 0).toNat = b := ⟨_, rfl⟩
      rw [hb] at hc
      have hbel2 := hbel.setCell (p := ⟨w.heap.size, k, none⟩) (Nat.le_refl _) (.int .u8 (97 : Nat))
      have hs2 : w.heap.size < (wr.setCell ⟨w.heap.size, k, none⟩ (.int .u8 (97 : Nat))).heap.size := by simpa [World.setCell] using hlt
      have H2 := Lib.hid hset; have H3 := Lib.hid hbel2; have H4 := Lib.hid hs2
      clear hset hb hrow hbel hbel2 hs2 HROW HBEL HGL
      go_wp2
      go_roundw
      case rel => exact ⟨k + 1, by omega, by go_num, H2.out, H4.out, H3.out⟩
      case measure => simp [intOf]; omega
    · obtain rfl : k = N := by omega
      have hr : RowAt wr w.heap.size (List.replicate k 97) := by simpa [fillA] using hrow
      have hcv := row_string hr k k (by simp)
      have HR := Lib.hid hr; have HB := Lib.hid hbel; have HLT := Lib.hid hlt
      rw [show (⟨(List.replicate k (97 : UInt8)).toArray⟩ : ByteArray) = asS k from rfl] at hcv
      clear hrow hbel hr hlt HROW HBEL HGL hkn hk hmk
      by_cases hl : 4096 < k
      · have co := (ro_of (asS k) (by rw [asS_size]; unfold maxLen; omega) wr).mono fun e w' h => h.no (by rw [ofE_long (asS_vld k) (by rw [asS_size]; exact hl)]; decide)
        rw [ofE_long (asS_vld k) (by rw [asS_size]; exact hl)] at co
        obtain ⟨S, hS⟩ : ∃ S, asS k = S := ⟨_, rfl⟩
        rw [hS] at co hcv
        have CO := Lib.hid co
        clear co hS
        go_wp2_with fail
        refine CO.out.mono ?_; rintro e w1 ⟨rfl, hb1⟩
        have HB1 := Lib.hid (HB.out.trans (hb1.mono HB.out.size))
        clear hb1
        go_wp2_with fail
        refine (onward HB1.out (lives18_any _)).mono ?_; rintro e w2 ⟨rfl, hb2⟩
        go_wp2
        go_ret
        exact ⟨rfl, hb2⟩
      · have co := (ro_of (asS k) (by rw [asS_size]; unfold maxLen; omega) wr).mono fun e w' h => h.yes (ofE_yes (asS_vld k) (by rw [asS_size]; omega))
        obtain ⟨M, hM⟩ : ∃ M : Nat, (4096 : Int) - (k : Int) = (M : Int) := ⟨4096 - k, by omega⟩
        have hM2 : 4096 - (k : Int) = (M : Int) := hM
        have hMk : M ≤ k := by omega
        have hkM : k + M = 4096 := by omega
        obtain ⟨K, hK⟩ : ∃ K : Nat, min (max i 0) (k : Int) = (K : Int) := ⟨(min (max i 0) (k : Int)).toNat, by omega⟩
        have hKk : K ≤ k := by omega
        obtain ⟨J, hJ⟩ : ∃ J : Nat, min (K : Int) 4095 = (J : Int) := ⟨(min (K : Int) 4095).toNat, by omega⟩
        have hJ1 : J + 1 ≤ 4096 := by omega
        have ci : ∀ W r p L, RopeW W r p L (asS k) → Calls Try.prog 16 #[.pointer r, .int .i64 K, .string (asS M)] W fun e w' => ∃ b p L, e = .returned (.tuple #[.pointer (some ⟨b, 0, none⟩), .int .i64 0]) ∧ RopeW w' (some ⟨b, 0, none⟩) p L (asS 4096) ∧ Below W.heap.size W w' := fun W r p L h => by
          have := ro_ins (x := asS M) (i := K) h (by rw [asS_size]; omega) (by rw [asS_size]; unfold maxLen; omega) (by unfold i64P; omega)
          rw [asS_insS k K M hKk (by omega), hkM] at this
          exact this.mono fun e w' h => h.yes (asS_insE k K M hKk (by omega))
        have cu : ∀ W r p L, RopeW W r p L (asS 4096) → Calls Try.prog 16 #[.pointer r, .int .i64 K, .string ⟨#[97]⟩] W fun e w' => e = .returned (.tuple #[.pointer none, .int .i64 6]) ∧ Below W.heap.size W w' := fun W r p L h => by
          have := ro_ins (x := asS 1) (i := K) h (by rw [asS_size]; omega) (by rw [asS_size]; unfold maxLen; omega) (by unfold i64P; omega)
          rw [asS_insE6 4096 K 1 (by omega) (by omega)] at this
          exact this.mono fun e w' h => h.no (by decide)
        have cd : ∀ W r p L, RopeW W r p L (asS 4096) → Calls Try.prog 14 #[.pointer r, .int .i64 J, .int .i64 1] W fun e w' => ∃ b p L, e = .returned (.tuple #[.pointer (some ⟨b, 0, none⟩), .int .i64 0]) ∧ RopeW w' (some ⟨b, 0, none⟩) p L (delS (asS 4096) J 1) ∧ Below W.heap.size W w' := fun W r p L h => by
          have := ro_del (i := J) (n := 1) h (by rw [asS_size]; omega) (by unfold i64P; omega)
          exact this.mono fun e w' h => h.yes (asS_delE 4096 J hJ1)
        have hdz := asS_delS 4096 J hJ1
        obtain ⟨T, hT⟩ : ∃ T, delS (asS 4096) J 1 = T := ⟨_, rfl⟩
        rw [hT] at cd hdz
        obtain ⟨S, hS⟩ : ∃ S, asS k = S := ⟨_, rfl⟩
        rw [hS] at co hcv ci
        have hz4 := asS_size 4096
        obtain ⟨F, hF⟩ : ∃ F, asS 4096 = F := ⟨_, rfl⟩
        rw [hF] at ci cu cd hz4
        have hcv2 : ∀ W, Below wr.heap.size wr W → (convert 41 9 (.slice (some ⟨w.heap.size, 0, none⟩) M k)).run Try.prog W = .ok (.string (asS M)) W := fun W hW => row_string (rowAt_as (HR.out.below18 hW HLT.out) hMk) M k (by simp)
        obtain ⟨SM, hSM⟩ : ∃ SM, asS M = SM := ⟨_, rfl⟩
        rw [hSM] at ci hcv2
        have CO := Lib.hid co; have CI := Lib.hid ci; have CU := Lib.hid cu; have CD := Lib.hid cd; have HCV := Lib.hid hcv2; have HDZ := Lib.hid hdz; have HZ4 := Lib.hid hz4
        have b1 : (M : Int) ≤ (k : Int) := by omega
        have b0 : (0 : Int) ≤ (M : Int) := by omega
        clear co ci cu cd hcv2 hS hT hF hSM hdz hz4
        go_wp2_with fail
        refine CO.out.mono ?_; rintro e w1 ⟨b, p, L, rfl, hR1, hb1⟩
        have hq := HCV.out w1 hb1
        have HR1 := Lib.hid hR1; have HB1 := Lib.hid (HB.out.trans (hb1.mono HB.out.size))
        clear hR1 hb1
        go_wp2_with fail
        refine (CI.out _ _ _ _ HR1.out).mono ?_; rintro e w2 ⟨b2, p2, L2, rfl, hR2, hb2⟩
        have HR2 := Lib.hid hR2; have HB2 := Lib.hid (HB1.out.trans (hb2.mono HB1.out.size))
        clear hR2 hb2
        go_wp2_with fail
        refine (CU.out _ _ _ _ HR2.out).mono ?_; rintro e w3 ⟨rfl, hb3⟩
        have HR3 := Lib.hid (HR2.out.later hb3); have HB3 := Lib.hid (HB2.out.trans (hb3.mono HB2.out.size))
        clear hb3
        go_wp2_with fail
        refine (CD.out _ _ _ _ HR3.out).mono ?_; rintro e w4 ⟨b4, p4, L4, rfl, hR4, hb4⟩
        have z1 := fun W (hW : Below w4.heap.size w4 W) => ro_len ((HR3.out.later hb4).later hW)
        have z2 := fun W (hW : Below w4.heap.size w4 W) => ro_len (hR4.later hW)
        have z3 := fun W (hW : Below w4.heap.size w4 W) => ro_right (hR4.later hW)
        rw [HZ4.out] at z1
        rw [HDZ.out] at z2
        have Z1 := Lib.hid z1; have Z2 := Lib.hid z2; have Z3 := Lib.hid z3; have HB4 := Lib.hid (HB3.out.trans (hb4.mono HB3.out.size))
        clear hR4 hb4 z1 z2 z3
        go_wp2_with fail
        refine (Z1.out _ (Below.refl _ _)).mono ?_; rintro e w5 ⟨rfl, hb5⟩
        have HB5 := Lib.hid hb5
        clear hb5
        go_wp2_with fail
        refine (onward HB5.out (Z2.out _ HB5.out)).mono ?_; rintro e w6 ⟨rfl, hb6⟩
        have HB6 := Lib.hid hb6
        clear hb6
        go_wp2_with fail
        refine (onward HB6.out (Z3.out _ HB6.out)).mono ?_; rintro e w7 ⟨rfl, hb7⟩
        have HB7 := Lib.hid hb7
        clear hb7
        go_wp2_with fail
        refine (onward HB7.out (lives18_any _)).mono ?_; rintro e w8 ⟨rfl, hb8⟩
        go_wp2
        go_ret
        exact ⟨by first | rfl | exact ret_bool (by simp), HB4.out.trans (hb8.mono HB4.out.size)⟩
end Go.Proofs.Ytephlcdanokolaa
