/-
  Contracts of Bad and Valid, the program's and the document's: the first place at which no rune stands.
-/
import Derived.Test.YthboipmlkgmofaaUtfDecode
import Derived.Test.YthboipmlkgmofaaLawTakes
namespace Go.Proofs.Ythboipmlkgmofaa
open Go.RowKit

/-- The first place from p on at which no rune stands. -/
def badAt (l : List UInt8) (p : Nat) : Int := badF (l.length + 1) (l.drop p) p
theorem badAt_zero (l : List UInt8) : badAt l 0 = bad l := rfl
theorem badAt_end (l : List UInt8) (p : Nat) (h : l.length ≤ p) : badAt l p = -1 := by
  unfold badAt; rw [List.drop_eq_nil_of_le h]; simp [badF]
theorem badAt_bad (l : List UInt8) (p : Nat) (h : p < l.length) (e : (tkl (l.drop p)).2 = 0) : badAt l p = p := by
  unfold badAt; simp only [badF]; rw [if_neg (by simp; omega), if_pos e]
theorem badAt_step (l : List UInt8) (p : Nat) (h : p < l.length) (e : (tkl (l.drop p)).2 ≠ 0) : badAt l p = badAt l (p + (tkl (l.drop p)).2) := by
  unfold badAt
  conv => lhs; rw [show badF (l.length + 1) (l.drop p) p = if l.drop p = [] then (-1 : Int) else if (tkl (l.drop p)).2 = 0 then (p : Int) else badF l.length ((l.drop p).drop (tkl (l.drop p)).2) (p + (tkl (l.drop p)).2) from rfl]
  rw [if_neg (by simp; omega), if_neg e, List.drop_drop]
  exact badF_more _ _ _ _ (by simp; omega) (by simp; omega)

set_option maxRecDepth 100000 in
set_option maxHeartbeats 400000 in
theorem bad_any (s : ByteArray) (hs : s.size ≤ maxLen) (w : World) :
    Calls Try.prog 45 #[.string s] w fun e w' => e = .returned (.int .i64 (bad s.data.toList)) ∧ Below w.heap.size w w' := by
  have hlen : s.data.toList.length = s.size := by simp
  have HN := Lib.hid hlen; clear hlen
  have HM := Lib.hid hs; clear hs
  obtain ⟨r, hr⟩ : ∃ r, bad s.data.toList = r := ⟨_, rfl⟩
  rw [hr]
  have HR := Lib.hid hr; clear hr
  go_enter Try.func45, Try.ntmps45
  go_wp2
  go_loopw [3] (fun _ wr => ∃ pos : Nat, wr = w.iter s pos ∧ badAt s.data.toList pos = r) (fun _ wr => s.size - wr.iterPos w.heap.size)
  case atStart => exact ⟨0, rfl, HR.out⟩
  case round =>
    obtain ⟨pos, rfl, hb⟩ := hrel
    have HB := Lib.hid hb; clear hb
    by_cases hp : pos < s.size
    · have hd := decode_tk s pos hp
      obtain ⟨c, n, hcn⟩ : ∃ c n, tkl (s.data.toList.drop pos) = (c, n) := ⟨_, _, rfl⟩
      rw [hcn] at hd
      have hnx0 := fun ty => run_next_any (P := Try.prog) w s pos ty hp
      have ht := take_in' s HM.out pos hp
      have hpl : pos < s.data.toList.length := by rw [HN.out]; exact hp
      by_cases hn : n = 0
      · rw [if_pos hn] at hd
        rw [hd] at hnx0
        have hres : r = pos := by rw [← HB.out, badAt_bad _ _ hpl (by rw [hcn]; exact hn)]
        have ht' := fun w => ht w c n hcn
        rw [hn] at ht'
        have HT := Lib.hid ht'; clear ht ht' hd hcn hn hpl
        have HRes := Lib.hid hres; clear hres
        go_wp2_with (go_at_call 47; refine (HT.out _).mono ?_; rintro e w' ⟨rfl, rfl⟩)
        go_ret
        exact ⟨ret_int HRes.out.symm, (Below.refl _ _).alloc (Nat.le_refl _) _⟩
      · rw [if_neg hn] at hd
        rw [hd] at hnx0
        have hstep : badAt s.data.toList (pos + n) = r := by
          rw [← HB.out, badAt_step _ _ hpl (by rw [hcn]; exact hn), hcn]
        have HS := Lib.hid hstep; clear hstep
        have hz : ((n : Int) == 0) = false := by simp; omega
        by_cases hc : c = 65533
        · have ht' := fun w => ht w c n hcn
          rw [hc] at ht' hnx0
          have HT := Lib.hid ht'; clear ht ht' hd hcn hpl hc
          go_wp2_with (go_at_call 47; refine (HT.out _).mono ?_; rintro e w' ⟨rfl, rfl⟩)
          go_roundw
          case rel => exact ⟨pos + n, rfl, HS.out⟩
          case measure => simp; omega
        · have hne : ((c : Int) != 65533) = true := by simp; omega
          clear ht hd hcn hpl hc
          go_wp2
          go_roundw
          case rel => exact ⟨pos + n, rfl, HS.out⟩
          case measure => simp; omega
    · have hnx0 := fun ty => run_next_end (P := Try.prog) w s pos ty hp
      have hres : r = -1 := by rw [← HB.out, badAt_end _ _ (by rw [HN.out]; omega)]
      have HRes := Lib.hid hres; clear hres
      go_wp2
      go_ret
      exact ⟨ret_int HRes.out.symm, (Below.refl _ _).alloc (Nat.le_refl _) _⟩

set_option maxRecDepth 100000 in
set_option maxHeartbeats 400000 in
theorem rbad_any (s : ByteArray) (hs : s.size ≤ 4294967296) (w : World) :
    Calls Try.prog 43 #[.string s] w fun e w' => e = .returned (.int .i64 (bad s.data.toList)) ∧ Below w.heap.size w w' := by
  have hlen : s.data.toList.length = s.size := by simp
  have HN := Lib.hid hlen; clear hlen
  obtain ⟨r, hr⟩ : ∃ r, bad s.data.toList = r := ⟨_, rfl⟩
  rw [hr]
  have HR := Lib.hid hr; clear hr
  go_enter Try.func43, Try.ntmps43
  go_wp2
  go_loopw [3] (fun i wr => ∃ pos : Nat, i = .int .i64 pos ∧ badAt s.data.toList pos = r ∧ pos ≤ s.size ∧ Below w.heap.size w wr) (fun i _ => s.size - (intOf i).toNat)
  case atStart => exact ⟨0, rfl, HR.out, Nat.zero_le _, Below.refl _ _⟩
  case round =>
    obtain ⟨pos, rfl, hb, hle, hbel⟩ := hrel
    have HB := Lib.hid hb; clear hb
    have HL := Lib.hid hbel; clear hbel
    by_cases hp : pos < s.size
    · obtain ⟨c, n, hcn⟩ : ∃ c n, tkl (s.data.toList.drop pos) = (c, n) := ⟨_, _, rfl⟩
      have ht := fun w => rtake_in s hs pos hp w c n hcn
      have HT := Lib.hid ht; clear ht
      have hpl : pos < s.data.toList.length := by rw [HN.out]; exact hp
      by_cases hn : n = 0
      · have hres : r = pos := by rw [← HB.out, badAt_bad _ _ hpl (by rw [hcn]; exact hn)]
        have HRes := Lib.hid hres; clear hres
        have hz : ((n : Int) == 0) = true := by simp; omega
        clear hcn hn hpl
        go_wp2_with (go_at_call 46; refine (HT.out _).mono ?_; rintro e w' ⟨rfl, hb1⟩)
        go_ret
        exact ⟨ret_int HRes.out.symm, HL.out.trans (Below.mono (by assumption) HL.out.size)⟩
      · have hstep : badAt s.data.toList (pos + n) = r := by
          rw [← HB.out, badAt_step _ _ hpl (by rw [hcn]; exact hn), hcn]
        have hnle : n ≤ s.size - pos := by
          have := tkl_le (s.data.toList.drop pos)
          rw [hcn, List.length_drop, HN.out] at this
          exact this
        have HS := Lib.hid hstep; clear hstep
        have hz : ((n : Int) == 0) = false := by simp; omega
        clear hcn hpl
        go_wp2_with (go_at_call 46; refine (HT.out _).mono ?_; rintro e w' ⟨rfl, hb1⟩)
        go_roundw
        case rel => exact ⟨pos + n, by go_num, HS.out, by omega, HL.out.trans (Below.mono (by assumption) HL.out.size)⟩
        case measure => simp [intOf]; omega
    · have hres : r = -1 := by rw [← HB.out, badAt_end _ _ (by rw [HN.out]; omega)]
      have HRes := Lib.hid hres; clear hres
      go_wp2
      go_ret
      exact ⟨ret_int HRes.out.symm, HL.out⟩

theorem bad_ge (l : List UInt8) : -1 ≤ bad l := by
  have := badF_range (l.length + 1) l 0
  unfold bad; omega
/-- Is a text made of runes alone, as a Bool? -/
def vldB (l : List UInt8) : Bool := decide (bad l < 0)
theorem vldB_iff (l : List UInt8) : vldB l = true ↔ vld l := by
  unfold vldB vld; have := bad_ge l; simp; omega

set_option maxRecDepth 100000 in
theorem valid_any (s : ByteArray) (hs : s.size ≤ maxLen) (w : World) :
    Calls Try.prog 41 #[.string s] w fun e w' => e = .returned (.bool (vldB s.data.toList)) ∧ Below w.heap.size w w' := by
  have hb := bad_any s hs
  have e : vldB s.data.toList = decide (bad s.data.toList < 0) := rfl
  rw [e]; clear e
  obtain ⟨r, hr⟩ : ∃ r, bad s.data.toList = r := ⟨_, rfl⟩
  rw [hr] at hb ⊢
  have HB := Lib.hid hb; clear hb hr
  go_enter Try.func41, Try.ntmps41
  go_wp2_with (go_at_call 45; refine (HB.out _).mono ?_; rintro e w' ⟨rfl, hb1⟩)
  go_ret
  exact ⟨rfl, by assumption⟩
set_option maxRecDepth 100000 in
theorem rvalid_any (s : ByteArray) (hs : s.size ≤ 4294967296) (w : World) :
    Calls Try.prog 38 #[.string s] w fun e w' => e = .returned (.bool (vldB s.data.toList)) ∧ Below w.heap.size w w' := by
  have hb := rbad_any s hs
  have e : vldB s.data.toList = decide (bad s.data.toList < 0) := rfl
  rw [e]; clear e
  obtain ⟨r, hr⟩ : ∃ r, bad s.data.toList = r := ⟨_, rfl⟩
  rw [hr] at hb ⊢
  have HB := Lib.hid hb; clear hb hr
  go_enter Try.func38, Try.ntmps38
  go_wp2_with (go_at_call 43; refine (HB.out _).mono ?_; rintro e w' ⟨rfl, hb1⟩)
  go_ret
  exact ⟨rfl, by assumption⟩
end Go.Proofs.Ythboipmlkgmofaa
