/-
  The library's stable sort over rows of marks: two blocks turned round.
-/
import Derived.Test.YtimlfgjljnkbcaaStabSwap
namespace Go.Proofs.Ytimlfgjljnkbcaa
open Go.Shelf Go.RowKit Go.Lib Go.Sort
set_option linter.unusedVariables false
variable {P : Program}

set_option maxHeartbeats 4000000 in
set_option maxRecDepth 1000000 in
theorem rotate_gen (L : SoLays P) (k : Nat) (aE : ∀ w, (isAgg 30).run P w = .ok true w) (zE : ∀ w, (Go.sizeOf 30).run P w = .ok k w) (enc : Mrk → List Value) (g : Nat) (cb : Array Value) (blk off cap a m b : Nat) (d0 d : Array Mrk) (w0 w : World)
    (R : RowK enc k w0 blk off d0) (hs : d0.size = d.size) (S : SWK enc k w0 blk off d w) (ham : a < m) (hmb : m < b) (hb : b ≤ d.size) (hsz : d.size < 4611686018427387904) :
    Calls P 58 #[.slice (some ⟨blk, off, none⟩) d.size cap, .int .i64 a, .int .i64 m, .int .i64 b, .func (.func g) #[] cb] w fun e w' => e = .returned (.tuple #[]) ∧ ∃ f, SWK enc k w0 blk off f w' ∧ Rot d f a m b := by
  have mixed := L.mixed; have t0 := L.t0; have a0 := L.a0; have z0 := L.z0; have v0 := L.v0; have t3 := L.t3; have a3 := L.a3; have z3 := L.z3; have v3 := L.v3; have t4 := L.t4; have a4 := L.a4; have z4 := L.z4; have v4 := L.v4; have t22 := L.t22; have a22 := L.a22; have z22 := L.z22; have v22 := L.v22; have t63 := L.t63; have a63 := L.a63; have z63 := L.z63; have v63 := L.v63
  have FG := L.fRot
  have eS : ∀ args w, (callFunc 59 args).run P w = .ok (.enter 59 args) w := enters_of L.fSwap (by kernel_rfl) rfl
  have S0 : Aside (SWK enc k w0 blk off d w) := S
  have LL : Aside (SoLays P) := L
  have AE : Aside (∀ w, (isAgg 30).run P w = .ok true w) := aE
  have ZE : Aside (∀ w, (Go.sizeOf 30).run P w = .ok k w) := zE
  clear S L
  go_enter FG, Try.ntmps58
  go_wp2
  go_loopg [10, 11] (b - a) (fun kx s10 s11 wr => ∃ (i j : Nat) (dk : Array Mrk), s10 = .int .i64 i ∧ s11 = .int .i64 j ∧ 1 ≤ i ∧ 1 ≤ j ∧ i ≤ m ∧ m + j ≤ b ∧ i + j ≤ kx ∧ dk.size = d.size ∧ Aside (SWK enc k w0 blk off dk wr) ∧ Aside (∀ f, Rot dk f (m - i) m (m + j) → Rot d f a m b))
  case atStart => exact ⟨m - a, b - m, d, by go_num, by go_num, by omega, by omega, by omega, by omega, by omega, rfl, S0, (show ∀ f, _ → _ from fun f h => by rwa [show m - (m - a) = a by omega, show m + (b - m) = b by omega] at h)⟩
  case round =>
    clear S0
    obtain ⟨i, j, dk, rfl, rfl, hi1, hj1, him, hjb, hkx, hds, S1, H1⟩ := hrel
    have ei : ((m - i : Nat) : Int) = (m : Int) - (i : Int) := by omega
    by_cases hne : i = j
    · subst hne
      have hcall := swapRange_gen LL.out k AE.out ZE.out enc g cb blk off cap (m - i) m i d0 dk w0 wr R (by omega) S1.out (by omega) (by omega) (by omega)
      rw [ei, hds] at hcall
      clear S1
      go_wp2_with (go_at_fn 59; refine hcall.mono ?_; rintro e w1 ⟨rfl, f, S2, H2⟩)
      go_end0
      exact ⟨rfl, f, S2, H1.out f (rot_whole H2 him)⟩
    · have hnz : ¬ (i : Int) = (j : Int) := by omega
      by_cases hgt : j < i
      · have hgz : (j : Int) < (i : Int) := by omega
        have hcall := swapRange_gen LL.out k AE.out ZE.out enc g cb blk off cap (m - i) m j d0 dk w0 wr R (by omega) S1.out (by omega) (by omega) (by omega)
        rw [ei, hds] at hcall
        clear S1
        go_wp2_with (go_at_fn 59; refine hcall.mono ?_; rintro e w1 ⟨rfl, f, S2, H2⟩)
        go_roundg (i - j + j)
        case measure => omega
        case rel =>
          have HF : Aside (∀ f', Rot f f' (m - (i - j)) m (m + j) → Rot d f' a m b) := fun f' h => H1.out f' (rot_left H2 him hgt h)
          exact ⟨i - j, j, f, by go_num, rfl, by omega, hj1, by omega, hjb, Nat.le_refl _, by rw [H2.1]; exact hds, S2, HF⟩
      · have hgz : (i : Int) < (j : Int) := by omega
        have ej : ((m + j - i : Nat) : Int) = (m : Int) + (j : Int) - (i : Int) := by omega
        have hcall := swapRange_gen LL.out k AE.out ZE.out enc g cb blk off cap (m - i) (m + j - i) i d0 dk w0 wr R (by omega) S1.out (by omega) (by omega) (by omega)
        rw [ei, ej, hds] at hcall
        clear S1
        go_wp2_with (go_at_fn 59; refine hcall.mono ?_; rintro e w1 ⟨rfl, f, S2, H2⟩)
        go_roundg (i + (j - i))
        case measure => omega
        case rel =>
          have HF : Aside (∀ f', Rot f f' (m - i) m (m + (j - i)) → Rot d f' a m b) := fun f' h => H1.out f' (rot_right H2 him (by omega) h)
          exact ⟨i, j - i, f, rfl, by go_num, hi1, by omega, him, by omega, Nat.le_refl _, by rw [H2.1]; exact hds, S2, HF⟩
end Go.Proofs.Ytimlfgjljnkbcaa
