/-
  The document's bytes of an operation.
-/
import Derived.Test.YtlgdlkiekodocaaOpRef
namespace Go.Proofs.Ytlgdlkiekodocaa
open Go.RowKit

theorem body_size (k a n : Int) (s : ByteArray) : (bodyL k a n s.data.toList).length ≤ s.size + 9 := by
  unfold bodyL
  have h1 := leL_length (u64 a) 4
  have h2 := leL_length (u64 n) 4
  split <;> split <;> simp [h1, h2] <;> omega
theorem body_low {k a n : Int} (s : ByteArray) (h : k ≤ 3) (h2 : k ≠ 2) : bodyL k a n s.data.toList = UInt8.ofNat (k % 256).toNat :: (leL (u64 a) 4 ++ s.data.toList) := by
  unfold bodyL; rw [if_pos h, if_neg h2]; rfl
theorem body_two (a n : Int) (s : ByteArray) : bodyL 2 a n s.data.toList = UInt8.ofNat ((2 : Int) % 256).toNat :: (leL (u64 a) 4 ++ (leL (u64 n) 4 ++ s.data.toList)) := rfl
theorem body_high {k a n : Int} (s : ByteArray) (h : 3 < k) : bodyL k a n s.data.toList = UInt8.ofNat (k % 256).toNat :: s.data.toList := by
  unfold bodyL; rw [if_neg (by omega), if_neg (by omega)]; rfl
theorem mk_list (l : List UInt8) : (⟨l.toArray⟩ : ByteArray).data.toList = l := by simp
theorem leL4_size (u : Nat) : (⟨(leL u 4).toArray⟩ : ByteArray).size = 4 := by show (leL u 4).toArray.size = 4; simp [leL_length]

theorem conv_one (x : Int) (W : World) (b : Nat) (hb : W.heap.size = b) :
    (convert 33 9 (.slice (some ⟨b, 0, none⟩) 1 1)).run Try.prog (W.alloc (.cells #[.int .u8 x] 5)) = .ok (.string (strOfNums [x])) (W.alloc (.cells #[.int .u8 x] 5)) := by
  subst hb
  exact conv_row [x] 1 rfl W
theorem one_list (x : Int) : (strOfNums [x]).data.toList = [UInt8.ofNat x.toNat] := rfl

set_option maxRecDepth 100000 in
set_option maxHeartbeats 1600000 in
theorem rbody_two (a n : Int) (s : ByteArray) (hs : s.size ≤ 4294967296) (w : World) :
    Calls Try.prog 15 #[.agg #[.int .i64 2, .int .i64 a, .int .i64 n, .string s]] w fun e w' => e = .returned (.string ⟨(bodyL 2 a n s.data.toList).toArray⟩) ∧ Below w.heap.size w w' := by
  have hpa := rput32_any a
  have hpn := rput32_any n
  have za := leL4_size (u64 a)
  have zn := leL4_size (u64 n)
  have la := mk_list (leL (u64 a) 4)
  have ln := mk_list (leL (u64 n) 4)
  have HB := Lib.hid (body_two a n s)
  obtain ⟨A, hA⟩ : ∃ A : ByteArray, ⟨(leL (u64 a) 4).toArray⟩ = A := ⟨_, rfl⟩
  obtain ⟨N, hN⟩ : ∃ N : ByteArray, ⟨(leL (u64 n) 4).toArray⟩ = N := ⟨_, rfl⟩
  rw [hA] at hpa za la
  rw [hN] at hpn zn ln
  have HPA := Lib.hid hpa; have HPN := Lib.hid hpn; have HLA := Lib.hid la; have HLN := Lib.hid ln
  clear hpa hpn hA hN la ln
  have hcv := conv_one 2 (w.alloc (.cells #[.int .i64 2, .int .i64 a, .int .i64 n, .string s] 23)) (w.heap.size + 1) (by simp)
  obtain ⟨K, hK⟩ : ∃ K, strOfNums [2] = K := ⟨_, rfl⟩
  have hk1 : K.size = 1 := by rw [← hK]; rfl
  have hkl : K.data.toList = [UInt8.ofNat ((2 : Int) % 256).toNat] := by rw [← hK]; rfl
  rw [hK] at hcv
  have HKL := Lib.hid hkl
  clear hK hkl
  go_enter Try.func15, Try.ntmps15
  go_wp2_with fail
  refine (HPA.out _).mono ?_; rintro e w1 ⟨rfl, hb1⟩
  have hB := Blk.new w #[.int .i64 2, .int .i64 a, .int .i64 n, .string s] 23
  have hB1 := (hB.alloc (.cells #[.int .u8 2] 5)).onto hb1
  obtain ⟨c0, c1, c2, c3, -, -, -, -⟩ := hB1.four
  have HB1 := Lib.hid hb1
  clear hB hcv hb1
  have hz1 : w.heap.size + 2 ≤ w1.heap.size := by have := HB1.out.size; simp at this; omega
  go_wp2_with fail
  refine (HPN.out _).mono ?_; rintro e w2 ⟨rfl, hb2⟩
  have hB2 := hB1.onto hb2
  clear c0 c1 c2 c3
  obtain ⟨c0, c1, c2, c3, -, -, -, -⟩ := hB2.four
  have HB2 := Lib.hid hb2
  clear hb2 hB1
  have y1 : (K ++ A).size = 5 := by rw [ByteArray.size_append, hk1, za]
  have y2 : (K ++ A ++ N).size = 9 := by rw [ByteArray.size_append, y1, zn]
  go_wp2
  go_ret
  refine ⟨ret_str (str_ext ?_), ?_⟩
  · rw [mk_list, HB.out, app_list, app_list, app_list, HKL.out, HLA.out, HLN.out]; simp
  · exact (((Below.refl _ _).alloc (Nat.le_refl _) _).alloc (by simp) _).trans ((HB1.out.mono (by simp; omega)).trans (HB2.out.mono (by omega)))
set_option maxRecDepth 100000 in
set_option maxHeartbeats 1600000 in
theorem rbody_low (k a n : Int) (h3 : k ≤ 3) (h2 : k ≠ 2) (s : ByteArray) (hs : s.size ≤ 4294967296) (w : World) :
    Calls Try.prog 15 #[.agg #[.int .i64 k, .int .i64 a, .int .i64 n, .string s]] w fun e w' => e = .returned (.string ⟨(bodyL k a n s.data.toList).toArray⟩) ∧ Below w.heap.size w w' := by
  have hpa := rput32_any a
  have za := leL4_size (u64 a)
  have la := mk_list (leL (u64 a) 4)
  have HB := Lib.hid (body_low (k := k) (a := a) (n := n) s h3 h2)
  obtain ⟨A, hA⟩ : ∃ A : ByteArray, ⟨(leL (u64 a) 4).toArray⟩ = A := ⟨_, rfl⟩
  rw [hA] at hpa za la
  have HPA := Lib.hid hpa; have HLA := Lib.hid la
  clear hpa hA la
  have hcv := conv_one (k % 256) (w.alloc (.cells #[.int .i64 k, .int .i64 a, .int .i64 n, .string s] 23)) (w.heap.size + 1) (by simp)
  obtain ⟨K, hK⟩ : ∃ K, strOfNums [k % 256] = K := ⟨_, rfl⟩
  have hk1 : K.size = 1 := by rw [← hK]; rfl
  have hkl : K.data.toList = [UInt8.ofNat (k % 256).toNat] := by rw [← hK]; rfl
  rw [hK] at hcv
  have HKL := Lib.hid hkl
  clear hK hkl
  go_enter Try.func15, Try.ntmps15
  go_wp2_with fail
  refine (HPA.out _).mono ?_; rintro e w1 ⟨rfl, hb1⟩
  have hB := Blk.new w #[.int .i64 k, .int .i64 a, .int .i64 n, .string s] 23
  have hB1 := (hB.alloc (.cells #[.int .u8 (k % 256)] 5)).onto hb1
  obtain ⟨c0, c1, c2, c3, -, -, -, -⟩ := hB1.four
  have HB1 := Lib.hid hb1
  clear hB hcv hb1
  have y1 : (K ++ A).size = 5 := by rw [ByteArray.size_append, hk1, za]
  go_wp2
  go_ret
  refine ⟨ret_str (str_ext ?_), ?_⟩
  · rw [mk_list, HB.out, app_list, app_list, HKL.out, HLA.out]; simp
  · exact (((Below.refl _ _).alloc (Nat.le_refl _) _).alloc (by simp) _).trans (HB1.out.mono (by simp; omega))
set_option maxRecDepth 100000 in
set_option maxHeartbeats 1600000 in
theorem rbody_high (k a n : Int) (h3 : 3 < k) (s : ByteArray) (hs : s.size ≤ 4294967296) (w : World) :
    Calls Try.prog 15 #[.agg #[.int .i64 k, .int .i64 a, .int .i64 n, .string s]] w fun e w' => e = .returned (.string ⟨(bodyL k a n s.data.toList).toArray⟩) ∧ Below w.heap.size w w' := by
  have h2 : k ≠ 2 := by omega
  have HB := Lib.hid (body_high (k := k) (a := a) (n := n) s h3)
  have hcv := conv_one (k % 256) (w.alloc (.cells #[.int .i64 k, .int .i64 a, .int .i64 n, .string s] 23)) (w.heap.size + 1) (by simp)
  obtain ⟨K, hK⟩ : ∃ K, strOfNums [k % 256] = K := ⟨_, rfl⟩
  have hk1 : K.size = 1 := by rw [← hK]; rfl
  have hkl : K.data.toList = [UInt8.ofNat (k % 256).toNat] := by rw [← hK]; rfl
  rw [hK] at hcv
  have HKL := Lib.hid hkl
  clear hK hkl
  go_enter Try.func15, Try.ntmps15
  go_wp2
  go_ret
  refine ⟨ret_str (str_ext ?_), ?_⟩
  · rw [mk_list, HB.out, app_list, HKL.out]; simp
  · exact ((Below.refl _ _).alloc (Nat.le_refl _) _).alloc (by simp) _
/-- An operation's bytes. -/
theorem rbody_any (k a n : Int) (s : ByteArray) (hs : s.size ≤ 4294967296) (w : World) :
    Calls Try.prog 15 #[.agg #[.int .i64 k, .int .i64 a, .int .i64 n, .string s]] w fun e w' => e = .returned (.string ⟨(bodyL k a n s.data.toList).toArray⟩) ∧ Below w.heap.size w w' := by
  by_cases h3 : k ≤ 3
  · by_cases h2 : k = 2
    · subst h2; exact rbody_two a n s hs w
    · exact rbody_low k a n h3 h2 s hs w
  · exact rbody_high k a n (by omega) s hs w

/-- What Bytes answers. -/
def bytesR (k a n : Int) (s : ByteArray) : ByteArray × Int := if rightB k a n s.data.toList = true then (⟨(bodyL k a n s.data.toList).toArray⟩, 0) else (⟨#[]⟩, 2)

set_option maxRecDepth 100000 in
set_option maxHeartbeats 1600000 in
theorem rbytes_any (k a n : Int) (s : ByteArray) (hs : s.size ≤ 4294967296) (w : World) :
    Calls Try.prog 8 #[.agg #[.int .i64 k, .int .i64 a, .int .i64 n, .string s]] w fun e w' =>
      e = .returned (.tuple #[.string (bytesR k a n s).1, .int .i64 (bytesR k a n s).2]) ∧ Below w.heap.size w w' := by
  have hr := rright_any k a n s hs
  have hb := rbody_any k a n s hs
  unfold bytesR
  obtain ⟨r, hr1⟩ : ∃ r, rightB k a n s.data.toList = r := ⟨_, rfl⟩
  obtain ⟨B, hB⟩ : ∃ B : ByteArray, ⟨(bodyL k a n s.data.toList).toArray⟩ = B := ⟨_, rfl⟩
  rw [hr1] at hr ⊢
  rw [hB] at hb ⊢
  have HR := Lib.hid hr; have HB := Lib.hid hb
  clear hr hr1 hb hB
  cases r
  · go_enter Try.func8, Try.ntmps8
    go_wp2_with fail
    refine (HR.out _).mono ?_; rintro e w1 ⟨rfl, hb1⟩
    go_wp2
    go_ret2
    exact ⟨rfl, ((Below.refl _ _).alloc (Nat.le_refl _) _).trans (hb1.mono (by simp))⟩
  · go_enter Try.func8, Try.ntmps8
    go_wp2_with fail
    refine (HR.out _).mono ?_; rintro e w1 ⟨rfl, hb1⟩
    obtain ⟨c0, c1, c2, c3, -, -, -, -⟩ := ((Blk.new w #[.int .i64 k, .int .i64 a, .int .i64 n, .string s] 23).onto hb1).four
    have HB1 := Lib.hid hb1
    clear hb1
    go_wp2_with fail
    refine (HB.out _).mono ?_; rintro e w2 ⟨rfl, hb2⟩
    go_wp2
    go_ret2
    exact ⟨rfl, ((Below.refl _ _).alloc (Nat.le_refl _) _).trans ((HB1.out.mono (by simp)).trans (hb2.mono (by have := HB1.out.size; simp at this; omega)))⟩
end Go.Proofs.Ytlgdlkiekodocaa
