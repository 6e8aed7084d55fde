/-
  The program's steps (layer 23): Run, Right, Shift.
-/
import Derived.Test.YthboipmlkgmofaaStepRef
import Derived.Test.YthboipmlkgmofaaEditDev2
namespace Go.Proofs.Ythboipmlkgmofaa
open Go.RowKit
set_option linter.unusedVariables false

theorem sbox_on {wX wr w1 : World} {o : Obj} (h : Below wX.heap.size wX wr) (hb : Below (wr.alloc o).heap.size (wr.alloc o) w1) : Below wX.heap.size wX w1 := (h.alloc h.size o).trans (hb.mono (by have := h.size; simp; omega))

set_option maxRecDepth 100000 in
set_option maxHeartbeats 1600000 in
theorem srun_any (t : ByteArray) (a : Option Addr) (l : List Edt) (c : Nat) (w : World) (hr : Edts w (· < w.heap.size) a l) (ht : t.size ≤ 4294967296) (hl : l.length ≤ 1000000) (hf : Edtz l 4294967296) :
    Calls Try.prog 31 #[.string t, stpV a l.length c] w fun e w' => e = .returned (appV (runE t l)) ∧ Below w.heap.size w w' := by
  have hst := Stp.new w a l c hr
  obtain ⟨n, hn⟩ : ∃ n, l.length = n := ⟨_, rfl⟩
  obtain ⟨⟨rt, re⟩, hR⟩ : ∃ R, runE t l = R := ⟨_, rfl⟩
  rw [hR]
  obtain ⟨wX, hwX⟩ : ∃ wX, w.alloc (.cells #[.slice a l.length c] 25) = wX := ⟨_, rfl⟩
  rw [hwX] at hst
  have HST := Lib.hid hst; have HN := Lib.hid hn; have HF := Lib.hid hf
  have x0 := hst.cell
  have hd0 : runE t (l.drop 0) = (rt, re) := hR
  rw [hn] at hl hwX x0 ⊢
  have HD := Lib.hid hd0
  clear hst hr hn hf hR hd0
  go_enter Try.func31, Try.ntmps31
  go_wp2
  clear hwX
  go_loopw [0, 13] (fun tv i wr => ∃ (k : Nat) (s : ByteArray), k ≤ n ∧ i = .int .i64 k ∧ tv = .string s ∧ s.size ≤ 4294967296 ∧ runE s (l.drop k) = (rt, re) ∧ Below wX.heap.size wX wr) (fun _ i _ => n - (intOf i).toNat)
  case atStart => exact ⟨0, t, Nat.zero_le _, rfl, rfl, ht, HD.out, Below.refl _ _⟩
  case round =>
    obtain ⟨k, s, hk, rfl, rfl, hs, hrun, hbel⟩ := hrel
    have y0 := (hbel.cell (p := ⟨w.heap.size, 0, none⟩) HST.out.size).trans x0
    by_cases hlt : k < n
    · have hkl : k < l.length := by rw [HN.out]; exact hlt
      obtain ⟨ad, rfl, hab, q0, q1, q2⟩ := (HST.out.row.below (fun _ h => h) hbel).at k hkl
      obtain ⟨z1, z2⟩ := HF.out.at k hkl
      rw [edrop l k hkl] at hrun
      obtain ⟨x, hx⟩ : ∃ x, l[k]! = x := ⟨_, rfl⟩
      rw [hx] at q0 q1 q2 z1 z2 hrun
      obtain ⟨p, o, m⟩ := x
      simp only at q0 q1 q2 z1 z2
      have ca := apply_any s o m hs z1 z2 p
      obtain ⟨⟨u, e⟩, hu⟩ : ∃ y, appE s p o m = y := ⟨_, rfl⟩
      rw [hu] at ca
      have CA := Lib.hid ca; have HU := Lib.hid hu; have HRUN := Lib.hid hrun
      have bz := Below.size hbel
      have b0 : (0 : Int) ≤ (k : Int) := by omega
      have b1 : (k : Int) < (n : Int) := by omega
      clear ca hu hrun hx z1 z2 hab
      by_cases he : e = 0
      · subst he
        have HR2 := Lib.hid ((runE_ok HU.out).symm.trans HRUN.out)
        have HZ := Lib.hid (appE_size0 HU.out)
        go_wp2_with fail
        refine (CA.out _).mono ?_; rintro e w1 ⟨rfl, hb1⟩
        have HB := Lib.hid (sbox_on hbel hb1); clear hb1 hbel q0 q1 q2
        go_wp2
        go_roundw
        case rel => exact ⟨k + 1, u, by omega, by go_num, rfl, by have := HZ.out; omega, HR2.out, HB.out⟩
        case measure => simp [intOf]; omega
      · have hq := (runE_no HU.out he).symm.trans HRUN.out
        obtain rfl : (⟨#[]⟩ : ByteArray) = rt := congrArg Prod.fst hq
        obtain rfl : e = re := congrArg Prod.snd hq
        go_wp2_with fail
        refine (CA.out _).mono ?_; rintro e w1 ⟨rfl, hb1⟩
        have HB := Lib.hid (HST.out.below.trans ((sbox_on hbel hb1).mono HST.out.below.size)); clear hb1 hbel q0 q1 q2
        go_wp2
        go_ret2
        exact ⟨rfl, HB.out⟩
    · obtain rfl : k = n := by omega
      rw [List.drop_eq_nil_of_le (by rw [HN.out]; exact Nat.le_refl _), runE_nil] at hrun
      obtain rfl : s = rt := congrArg Prod.fst hrun
      obtain rfl : 0 = re := congrArg Prod.snd hrun
      have HB := Lib.hid (HST.out.below.trans (hbel.mono HST.out.below.size))
      clear hrun hbel
      go_wp2
      go_ret2
      exact ⟨rfl, HB.out⟩

set_option maxRecDepth 100000 in
set_option maxHeartbeats 1600000 in
theorem sright_any (t : ByteArray) (a : Option Addr) (l : List Edt) (c : Nat) (w : World) (hr : Edts w (· < w.heap.size) a l) (ht : t.size ≤ 4294967296) (hl : l.length ≤ 1000000) (hf : Edtz l 4294967296) :
    Calls Try.prog 30 #[.string t, stpV a l.length c] w fun e w' => e = .returned (.bool (rightS t l)) ∧ Below w.heap.size w w' := by
  have hst := Stp.new w a l c hr
  have cr := srun_any t a l c _ hst.row ht hl hf
  obtain ⟨wX, hwX⟩ : ∃ wX, w.alloc (.cells #[.slice a l.length c] 25) = wX := ⟨_, rfl⟩
  rw [hwX] at hst cr
  have x0 := hst.cell
  have r1 := rightS_few (t := t) (l := l)
  have r2 := rightS_many (t := t) (l := l)
  have r3 := rightS_mid (t := t) (l := l)
  obtain ⟨⟨rt, re⟩, hR⟩ : ∃ R, runE t l = R := ⟨_, rfl⟩
  rw [hR] at cr r3
  obtain ⟨r, hrr⟩ : ∃ r, rightS t l = r := ⟨_, rfl⟩
  rw [hrr] at r1 r2 r3 ⊢
  obtain ⟨n, hn⟩ : ∃ n, l.length = n := ⟨_, rfl⟩
  have HST := Lib.hid hst
  rw [hn] at hl hwX x0 cr r1 r2 r3 ⊢
  have CR := Lib.hid cr
  clear hst hr hn hf hR cr hrr
  rcases (show n < 1 ∨ (1 ≤ n ∧ n ≤ 32) ∨ 32 < n by omega) with h | ⟨h, h2⟩ | h
  · obtain rfl := r1 h
    clear r1 r2 r3
    go_enter Try.func30, Try.ntmps30
    go_wp2
    go_ret
    exact ⟨rfl, HST.out.below⟩
  · obtain rfl := r3 h h2
    clear r1 r2 r3
    go_enter Try.func30, Try.ntmps30
    go_wp2_with fail
    refine CR.out.mono ?_; rintro e w1 ⟨rfl, hb1⟩
    have HB := Lib.hid (HST.out.below.trans (hb1.mono HST.out.below.size)); clear hb1
    go_wp2
    go_ret
    exact ⟨rfl, HB.out⟩
  · obtain rfl := r2 h
    clear r1 r2 r3
    go_enter Try.func30, Try.ntmps30
    go_wp2
    go_ret
    exact ⟨rfl, HST.out.below⟩

end Go.Proofs.Ythboipmlkgmofaa
