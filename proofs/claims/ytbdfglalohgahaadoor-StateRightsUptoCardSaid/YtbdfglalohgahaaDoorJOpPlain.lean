/-
  Joined: OpPlain, OpText.
-/
import Derived.Test.YtbdfglalohgahaaDoorJOpRef
import Derived.Lib.ItoaNum
import Derived.Lib.ItoaMem
import Derived.Lib.Join
import Derived.Deep.RegionHeld3
namespace Go.Proofs.YtbdfglalohgahaaDoor
open Go.RowKit

theorem dec_short (u : Nat) (h : u < 10) : Lib.decDigits u = [UInt8.ofNat (48 + u)] := by rw [Lib.decDigits, dif_pos h]
theorem dec_step (u : Nat) (h : ¬ u < 10) : Lib.decDigits u = Lib.decDigits (u / 10) ++ [UInt8.ofNat (48 + u % 10)] := by
  rw [Lib.decDigits, dif_neg h]
theorem dec_len (u : Nat) : (Lib.decDigits u).length ≤ u + 1 := by
  induction u using Nat.strongRecOn with
  | ind u ih =>
    by_cases h : u < 10
    · rw [dec_short u h]; simp
    · rw [dec_step u h]
      have := ih (u / 10) (by omega)
      simp
      omega

set_option maxRecDepth 100000 in
set_option maxHeartbeats 400000 in
theorem rplain_u (u : Nat) : ∀ (_ : u ≤ 1000000) (w : World),
    Calls Tryd.prog 68 #[.int .u64 u] w fun e w' => e = .returned (.string ⟨(Lib.decDigits u).toArray⟩) ∧ Below w.heap.size w w' := by
  induction u using Nat.strongRecOn with
  | ind u ih =>
    intro hu w
    have hcv := conv_one (48 + (u : Int) % 10) w w.heap.size rfl
    obtain ⟨K, hK⟩ : ∃ K, strOfNums [48 + (u : Int) % 10] = K := ⟨_, rfl⟩
    have hk1 : K.size = 1 := by rw [← hK]; rfl
    have hkl : K.data.toList = [UInt8.ofNat (48 + u % 10)] := by
      rw [← hK, one_list, show (48 + (u : Int) % 10).toNat = 48 + u % 10 by omega]
    rw [hK] at hcv
    have HKL := Lib.hid hkl
    clear hK hkl
    by_cases h : u < 10
    · have HD := Lib.hid (dec_short u h)
      have hm : u % 10 = u := by omega
      have HM := Lib.hid hm
      clear ih hm
      go_enter Tryd.func68, Tryd.ntmps68
      go_wp2
      go_ret
      exact ⟨ret_str (str_ext (by rw [HKL.out, HD.out, HM.out])), (Below.refl _ _).alloc (Nat.le_refl _) _⟩
    · have HD := Lib.hid (dec_step u h)
      have hl := dec_len (u / 10)
      have HI := Lib.hid (ih (u / 10) (by omega) (by omega))
      have h' : 10 ≤ u := by omega
      clear ih h
      obtain ⟨D, hD⟩ : ∃ D : ByteArray, ⟨(Lib.decDigits (u / 10)).toArray⟩ = D := ⟨_, rfl⟩
      rw [hD] at HI
      have hd1 : D.data.toList = Lib.decDigits (u / 10) := by rw [← hD, mk_list]
      have hd2 : D.size ≤ 1000001 := by
        have := congrArg List.length hd1
        rw [list_size] at this
        omega
      have HD1 := Lib.hid hd1
      clear hD hd1 hl
      go_enter Tryd.func68, Tryd.ntmps68
      go_wp2_with fail
      refine (HI.out _).mono ?_; rintro e w1 ⟨rfl, hb1⟩
      have HB := Lib.hid (((Below.refl w.heap.size w).alloc (Nat.le_refl _) (.cells #[.int .u8 (48 + (u : Int) % 10)] 5)).trans (hb1.mono (by simp)))
      clear hb1
      go_wp2
      go_ret
      exact ⟨ret_str (str_ext (by rw [app_list, HKL.out, HD.out, HD1.out])), HB.out⟩
theorem rplain_any (n : Int) (h0 : 0 ≤ n) (h1 : n ≤ 1000000) (w : World) :
    Calls Tryd.prog 39 #[.int .i64 n] w fun e w' => e = .returned (.string ⟨(Lib.itoa n).toArray⟩) ∧ Below w.heap.size w w' := by
  obtain ⟨u, rfl⟩ := Int.eq_ofNat_of_zero_le h0
  have hp := rplain_u u (by omega)
  rw [Lib.itoa_nonneg]
  obtain ⟨D, hD⟩ : ∃ D : ByteArray, ⟨(Lib.decDigits u).toArray⟩ = D := ⟨_, rfl⟩
  rw [hD] at hp ⊢
  have HP := Lib.hid hp
  clear hp hD
  go_enter Tryd.func39, Tryd.ntmps39
  go_wp2_with fail
  refine (HP.out _).mono ?_; rintro e w1 ⟨rfl, hb1⟩
  go_wp2
  go_ret
  exact ⟨rfl, hb1⟩
end Go.Proofs.YtbdfglalohgahaaDoor
namespace Go.Proofs.YtbdfglalohgahaaDoor
open Go.RowKit

/-- A number's digits as a text. -/
def decS (n : Int) : ByteArray := ⟨(Lib.itoa n).toArray⟩
theorem decS_size {n : Int} (h0 : 0 ≤ n) (h1 : n ≤ 1000000) : (decS n).size ≤ 1000001 := by
  obtain ⟨u, rfl⟩ := Int.eq_ofNat_of_zero_le h0
  unfold decS
  have : (⟨(Lib.itoa (u : Int)).toArray⟩ : ByteArray).size = (Lib.itoa (u : Int)).length := by show (Lib.itoa (u : Int)).toArray.size = _; simp
  rw [this, Lib.itoa_nonneg]
  have := dec_len u
  omega
/-- An operation's words. -/
def wordsS (k a n : Int) (s : ByteArray) : ByteArray :=
  if k = 1 then ⟨#[105, 110, 115, 101, 114, 116, 32]⟩ ++ decS a ++ ⟨#[32]⟩ ++ s
  else if k = 2 then ⟨#[100, 101, 108, 101, 116, 101, 32]⟩ ++ decS a ++ ⟨#[32]⟩ ++ decS n
  else if k = 3 then ⟨#[109, 97, 114, 107, 32]⟩ ++ s ++ ⟨#[32]⟩ ++ decS a
  else if k = 4 then ⟨#[117, 110, 109, 97, 114, 107, 32]⟩ ++ s
  else if k = 5 then ⟨#[117, 110, 100, 111]⟩
  else if k = 6 then ⟨#[114, 101, 100, 111]⟩
  else if k = 7 then ⟨#[98, 101, 103, 105, 110]⟩
  else ⟨#[101, 110, 100]⟩
/-- What Text answers. -/
def textR (k a n : Int) (s : ByteArray) : ByteArray := if rightB k a n s.data.toList = true then wordsS k a n s else ⟨#[]⟩

/-- The operation's cells in a drawn region. -/
def Op4 (w : World) (a n : Int) (s : ByteArray) (w' : World) : Prop :=
  Below w.heap.size w w' ∧ w.heap.size + 1 ≤ w'.heap.size ∧ w'.cell? ⟨w.heap.size, 1, none⟩ = some (.int .i64 a) ∧ w'.cell? ⟨w.heap.size, 2, none⟩ = some (.int .i64 n) ∧ w'.cell? ⟨w.heap.size, 3, none⟩ = some (.string s)
theorem op4_drew {w w' : World} {a n : Int} {s : ByteArray} (h : Op4 w a n s w') : Op4 w a n s w'.drew := ⟨h.1.drew, h.2⟩
theorem op4_call {w w' w1 : World} {a n : Int} {s : ByteArray} (h : Op4 w a n s w') (hb : Below w'.heap.size w' w1) : Op4 w a n s w1 :=
  ⟨h.1.trans (hb.mono h.1.size), Nat.le_trans h.2.1 hb.size, (hb.cell (p := ⟨_, _, _⟩) h.2.1).trans h.2.2.1, (hb.cell (p := ⟨_, _, _⟩) h.2.1).trans h.2.2.2.1, (hb.cell (p := ⟨_, _, _⟩) h.2.1).trans h.2.2.2.2⟩
end Go.Proofs.YtbdfglalohgahaaDoor
