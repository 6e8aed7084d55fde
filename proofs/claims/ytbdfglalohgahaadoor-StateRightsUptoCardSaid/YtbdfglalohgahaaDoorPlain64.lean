/-
  Numbers in digits, whatever they are: the document's, the library's.
-/
import Derived.Test.YtbdfglalohgahaaDoorJOpPlain
import Derived.Test.YtbdfglalohgahaaDoorBufShelf
import Derived.Lib.AppendIntMem
namespace Go.Proofs.YtbdfglalohgahaaDoor
open Go.RowKit
set_option linter.unusedVariables false
set_option linter.unusedSimpArgs false

theorem dec_pow : ∀ (k u : Nat), u < 10 ^ (k + 1) → (Lib.decDigits u).length ≤ k + 1
  | 0, u, h => by rw [dec_short u (by simpa using h)]; simp
  | k + 1, u, h => by
    by_cases hu : u < 10
    · rw [dec_short u hu]; simp
    · rw [dec_step u hu]
      have := dec_pow k (u / 10) (by rw [Nat.pow_succ] at h; omega)
      simp
      omega
theorem dec_20 {u : Nat} (h : u ≤ 18446744073709551615) : (Lib.decDigits u).length ≤ 20 := dec_pow 19 u (by omega)
theorem decS_20 {n : Int} (h0 : -9223372036854775808 ≤ n) (h1 : n ≤ 9223372036854775807) : (decS n).size ≤ 21 := by
  have e : (decS n).size = (Lib.itoa n).length := by unfold decS; show (Lib.itoa n).toArray.size = _; simp
  rw [e]
  unfold Lib.itoa
  split
  · have := dec_20 (u := n.natAbs) (by omega)
    simp
    omega
  · have := dec_20 (u := n.toNat) (by omega)
    omega

set_option maxRecDepth 100000 in
set_option maxHeartbeats 400000 in
theorem rplain64_u (u : Nat) : ∀ (_ : u ≤ 18446744073709551615) (w : World),
    Calls Tryd.prog 68 #[.int .u64 u] w fun e w' => e = .returned (.string ⟨(Lib.decDigits u).toArray⟩) ∧ Below w.heap.size w w' := by
  induction u using Nat.strongRecOn with
  | ind u ih =>
    intro hu w
    have hcv := conv_one (48 + (u : Int) % 10) w w.heap.size rfl
    obtain ⟨K, hK⟩ : ∃ K, strOfNums [48 + (u : Int) % 10] = K := ⟨_, rfl⟩
    have hk1 : K.size = 1 := by rw [← hK]; rfl
    have hkl : K.data.toList = [UInt8.ofNat (48 + u % 10)] := by
      rw [← hK, one_list, show (48 + (u : Int) % 10).toNat = 48 + u % 10 by omega]
    rw [hK] at hcv
    have HKL := Lib.hid hkl
    clear hK hkl
    by_cases h : u < 10
    · have HD := Lib.hid (dec_short u h)
      have hm : u % 10 = u := by omega
      have HM := Lib.hid hm
      clear ih hm
      go_enter Tryd.func68, Tryd.ntmps68
      go_wp2
      go_ret
      exact ⟨ret_str (str_ext (by rw [HKL.out, HD.out, HM.out])), (Below.refl _ _).alloc (Nat.le_refl _) _⟩
    · have HD := Lib.hid (dec_step u h)
      have hl := dec_20 (u := u / 10) (by omega)
      have HI := Lib.hid (ih (u / 10) (by omega) (by omega))
      have h' : 10 ≤ u := by omega
      clear ih h
      obtain ⟨D, hD⟩ : ∃ D : ByteArray, ⟨(Lib.decDigits (u / 10)).toArray⟩ = D := ⟨_, rfl⟩
      rw [hD] at HI
      have hd1 : D.data.toList = Lib.decDigits (u / 10) := by rw [← hD, mk_list]
      have hd2 : D.size ≤ 20 := by
        have := congrArg List.length hd1
        rw [list_size] at this
        omega
      have HD1 := Lib.hid hd1
      clear hD hd1 hl
      go_enter Tryd.func68, Tryd.ntmps68
      go_wp2_with fail
      refine (HI.out _).mono ?_; rintro e w1 ⟨rfl, hb1⟩
      have HB := Lib.hid (((Below.refl w.heap.size w).alloc (Nat.le_refl _) (.cells #[.int .u8 (48 + (u : Int) % 10)] 5)).trans (hb1.mono (by simp)))
      clear hb1
      go_wp2
      go_ret
      exact ⟨ret_str (str_ext (by rw [app_list, HKL.out, HD.out, HD1.out])), HB.out⟩
set_option maxRecDepth 100000 in
theorem rplain64_any (n : Int) (h0 : -9223372036854775808 ≤ n) (h1 : n ≤ 9223372036854775807) (w : World) :
    Calls Tryd.prog 39 #[.int .i64 n] w fun e w' => e = .returned (.string (decS n)) ∧ Below w.heap.size w w' := by
  by_cases hn : n < 0
  · have hp := rplain64_u n.natAbs (by omega)
    have hd : decS n = ⟨#[45]⟩ ++ ⟨(Lib.decDigits n.natAbs).toArray⟩ := by
      unfold decS Lib.itoa
      rw [if_pos hn]
      exact str_ext (by rw [app_list]; simp)
    have hl := dec_20 (u := n.natAbs) (by omega)
    obtain ⟨D, hD⟩ : ∃ D : ByteArray, ⟨(Lib.decDigits n.natAbs).toArray⟩ = D := ⟨_, rfl⟩
    have hd2 : D.size ≤ 20 := by rw [← hD]; show (Lib.decDigits n.natAbs).toArray.size ≤ 20; simpa using hl
    rw [hD] at hp hd
    have hab : (n.natAbs : Int) = -n := by omega
    rw [hab] at hp
    rw [hd]
    have HP := Lib.hid hp
    have hw1 : IntKind.u64.wrap n = n + 18446744073709551616 := by show IntKind.wrap .u64 n = _; unfold IntKind.wrap; simp [IntKind.signed, IntKind.bits]; omega
    have hw2 : IntKind.u64.wrap (-(n + 18446744073709551616)) = -n := by show IntKind.wrap .u64 _ = _; unfold IntKind.wrap; simp [IntKind.signed, IntKind.bits]; omega
    clear hp hD hd hl hab
    go_enter Tryd.func39, Tryd.ntmps39
    go_wp2_with fail
    refine (HP.out _).mono ?_; rintro e w1 ⟨rfl, hb1⟩
    go_wp2
    go_ret
    exact ⟨rfl, hb1⟩
  · obtain ⟨u, rfl⟩ := Int.eq_ofNat_of_zero_le (show 0 ≤ n by omega)
    have hp := rplain64_u u (by omega)
    unfold decS
    rw [Lib.itoa_nonneg]
    obtain ⟨D, hD⟩ : ∃ D : ByteArray, ⟨(Lib.decDigits u).toArray⟩ = D := ⟨_, rfl⟩
    rw [hD] at hp ⊢
    have HP := Lib.hid hp
    clear hp hD
    go_enter Tryd.func39, Tryd.ntmps39
    go_wp2_with fail
    refine (HP.out _).mono ?_; rintro e w1 ⟨rfl, hb1⟩
    go_wp2
    go_ret
    exact ⟨rfl, hb1⟩

/-- The library's table of powers, as it must be. -/
def Pw (B : Nat) (w : World) : Prop := Lib.TabBelow Tryd.prog B w "internal/strconv.uint64pow10" .u64 Lib.pow10Tab
theorem Pw.on {B : Nat} {w w1 : World} (h : Pw B w) (hb : Below B w w1) : Pw B w1 := Lib.TabBelow.on h hb
theorem pw_grow (w : World) (k : Nat) (os : Array Obj) : Below w.heap.size w (Sort.grow (w.drewN k) os) :=
  ⟨rfl, rfl, rfl, by simp [Sort.grow], fun i hi => by
    show (w.heap ++ os)[i]? = _
    rw [Array.getElem?_append_left hi]⟩
theorem itoa64_any (n : Int) (h0 : -9223372036854775808 ≤ n) (h1 : n ≤ 9223372036854775807) (B : Nat) (w : World) (ht : Pw B w) :
    Calls Tryd.prog 37 #[.int .i64 n] w fun e w' => e = .returned (.string (decS n)) ∧ Below w.heap.size w w' :=
  (Tryd.strconv_Itoa n h0 h1 w ht.here).mono fun _ _ ⟨he, k, os, hw⟩ => ⟨he, hw ▸ pw_grow w k os⟩
end Go.Proofs.YtbdfglalohgahaaDoor
