/-
  The library's stable sort over rows of marks: two sorted parts merged. (Written by gen_sym.py.)
-/
import Derived.Test.YtimlfgjljnkbcaaStabRot
namespace Go.Proofs.Ytimlfgjljnkbcaa
open Go.Shelf Go.RowKit Go.Lib Go.Sort
set_option linter.unusedVariables false
variable {P : Program}

/-- What the merge of n marks or fewer owes. -/
def SymP (P : Program) (enc : Mrk → List Value) (k g : Nat) (cb : Array Value) (blk off cap : Nat) (w0 : World) (sz n : Nat) : Prop :=
  ∀ (a m b : Nat) (d : Array Mrk) (w : World), b - a ≤ n → d.size = sz → SWK enc k w0 blk off d w → a < m → m < b → b ≤ sz → SrtM d a m → SrtM d m b →
    Calls P 55 #[.slice (some ⟨blk, off, none⟩) sz cap, .int .i64 a, .int .i64 m, .int .i64 b, .func (.func g) #[] cb] w fun e w' => e = .returned (.tuple #[]) ∧ ∃ f, SWK enc k w0 blk off f w' ∧ Stab a b d f ∧ SrtM f a b

set_option maxHeartbeats 4000000 in
set_option maxRecDepth 1000000 in
theorem sym_left (L : SoLays P) (k : Nat) (aE : ∀ w, (isAgg 30).run P w = .ok true w) (zE : ∀ w, (Go.sizeOf 30).run P w = .ok k w) (enc : Mrk → List Value) (g : Nat) (cb : Array Value) (blk off cap : Nat) (d0 : Array Mrk) (w0 : World) (eg : ∀ args w, (callFunc g args).run P w = .ok (.enter g args) w) (hcmp : CmpLays P g cb enc k cfM blk off d0.size w0) (R : RowK enc k w0 blk off d0) (hsz : d0.size < 4611686018427387904)
    (a m b : Nat) (d : Array Mrk) (w : World) (hds : d.size = d0.size) (S : SWK enc k w0 blk off d w) (hma : m = a + 1) (hmb : m < b) (hb : b ≤ d0.size) (hB : SrtM d m b) :
    Calls P 55 #[.slice (some ⟨blk, off, none⟩) d0.size cap, .int .i64 a, .int .i64 m, .int .i64 b, .func (.func g) #[] cb] w fun e w' => e = .returned (.tuple #[]) ∧ ∃ f, SWK enc k w0 blk off f w' ∧ Stab a b d f ∧ SrtM f a b := by
  have mixed := L.mixed; have t0 := L.t0; have a0 := L.a0; have z0 := L.z0; have v0 := L.v0; have t3 := L.t3; have a3 := L.a3; have z3 := L.z3; have v3 := L.v3; have t4 := L.t4; have a4 := L.a4; have z4 := L.z4; have v4 := L.v4; have t22 := L.t22; have a22 := L.a22; have z22 := L.z22; have v22 := L.v22; have t63 := L.t63; have a63 := L.a63; have z63 := L.z63; have v63 := L.v63; have t57 := L.t57; have a57 := L.a57; have z57 := L.z57; have v57 := L.v57
  have u0 := run_underlying L.t0; have u3 := run_underlying L.t3; have u4 := run_underlying L.t4; have u22 := run_underlying L.t22; have u57 := run_underlying L.t57
  have FG := L.fSym
  have HC : Aside _ := hcmp
  have S0 : Aside (SWK enc k w0 blk off d w) := S
  have HB : Aside (SrtM d m b) := hB
  have hone : ((m : Int) - (a : Int) == 1) = true := by rw [beq_iff_eq]; omega
  have HMA : Aside (m = a + 1) := hma
  have hm1 : a < m := by omega
  have hm2 : m < a + 2 := by omega
  clear hcmp S hB L hma
  go_enter FG, Try.ntmps55
  go_wp2
  go_loopg [10, 11] (b - m) (fun kx s10 s11 wr => ∃ (i j : Nat), s10 = .int .i64 i ∧ s11 = .int .i64 j ∧ m ≤ i ∧ i ≤ j ∧ j ≤ b ∧ j - i ≤ kx ∧ Aside (SWK enc k w0 blk off d wr) ∧
    Aside ((∀ t, m ≤ t → t < i → (d[t]!).p < (d[a]!).p) ∧ (∀ t, j ≤ t → t < b → (d[a]!).p ≤ (d[t]!).p)))
  case atStart => exact ⟨m, b, rfl, rfl, Nat.le_refl _, by omega, Nat.le_refl _, Nat.le_refl _, S0, (⟨fun t h1 h2 => by omega, fun t h1 h2 => by omega⟩ : (∀ t, m ≤ t → t < m → (d[t]!).p < (d[a]!).p) ∧ (∀ t, b ≤ t → t < b → (d[a]!).p ≤ (d[t]!).p))⟩
  case round =>
    clear S0
    obtain ⟨i, j, rfl, rfl, hmi, hij, hjb, hkx, S1, I⟩ := hrel
    by_cases hlt : i < j
    · have hltz : (i : Int) < (j : Int) := by omega
      by_cases hv : (d[(i + j) / 2]!).p < (d[a]!).p
      · have hvA : Aside ((d[(i + j) / 2]!).p < (d[a]!).p) := hv
        clear hv
        have e5a : (((i : Int) + (j : Int)) / 2).toNat = (i + j) / 2 := by omega
        have p5a : (0 : Int) ≤ ((i : Int) + (j : Int)) / 2 := by omega
        have b5a : ((i : Int) + (j : Int)) / 2 < (d0.size : Int) := by omega
        have r5a : IntKind.i64.wrap (((i : Int) + (j : Int)) / 2) = ((i : Int) + (j : Int)) / 2 := by rw [IntKind.wrap_i64]; omega
        have e5b : ((a : Int)).toNat = a := by omega
        have p5b : (0 : Int) ≤ (a : Int) := by omega
        have b5b : (a : Int) < (d0.size : Int) := by omega
        have r5b : IntKind.i64.wrap ((a : Int)) = (a : Int) := by rw [IntKind.wrap_i64]; omega
        obtain ⟨x5, hx5⟩ : ∃ x, x = d[(i + j) / 2]! := ⟨_, rfl⟩
        obtain ⟨y5, hy5⟩ : ∃ x, x = d[a]! := ⟨_, rfl⟩
        have l5a := S1.out.ld R (by omega) P ((i + j) / 2) (by omega)
        have l5b := S1.out.ld R (by omega) P (a) (by omega)
        rw [← hx5] at l5a
        rw [← hy5] at l5b
        have hc5 := S1.out.cmp HC.out (by omega) x5 y5
        have hv5 : cfM x5 y5 < 0 := by rw [hx5, hy5]; exact cfM_neg.2 hvA.out
        have hd5 : decide (cfM x5 y5 < 0) = true := decide_eq_true hv5
        clear hx5 hy5
        go_wp2_with fail
        go_quiet_grown (first | (go_at_fn g; refine Calls.grown_of (hc5 _ _)))
        have S1n : Aside (SWK enc k w0 blk off d (grow (wr.drewN nq) osq)) := S1.out.grown nq osq
        clear l5a l5b hc5 S1
        generalize grow (wr.drewN nq) osq = wu at S1n ⊢
        clear nq osq
        go_wp2
        go_roundg (j - ((i + j) / 2 + 1))
        case measure => omega
        case rel =>
          have I2 : Aside ((∀ t, m ≤ t → t < (i + j) / 2 + 1 → (d[t]!).p < (d[a]!).p) ∧ (∀ t, j ≤ t → t < b → (d[a]!).p ≤ (d[t]!).p)) := ⟨fun t h1 h2 => Int.lt_of_le_of_lt (HB.out.le h1 (show t ≤ (i + j) / 2 by omega) (by omega)) hvA.out, I.out.2⟩
          exact ⟨(i + j) / 2 + 1, j, by rw [show ((i : Int) + (j : Int)) / 2 + 1 = (((i + j) / 2 + 1 : Nat) : Int) by omega], rfl, by omega, by omega, hjb, Nat.le_refl _, S1n, I2⟩
      · have hvA : Aside ((d[a]!).p ≤ (d[(i + j) / 2]!).p) := Int.not_lt.1 hv
        clear hv
        have e6a : (((i : Int) + (j : Int)) / 2).toNat = (i + j) / 2 := by omega
        have p6a : (0 : Int) ≤ ((i : Int) + (j : Int)) / 2 := by omega
        have b6a : ((i : Int) + (j : Int)) / 2 < (d0.size : Int) := by omega
        have r6a : IntKind.i64.wrap (((i : Int) + (j : Int)) / 2) = ((i : Int) + (j : Int)) / 2 := by rw [IntKind.wrap_i64]; omega
        have e6b : ((a : Int)).toNat = a := by omega
        have p6b : (0 : Int) ≤ (a : Int) := by omega
        have b6b : (a : Int) < (d0.size : Int) := by omega
        have r6b : IntKind.i64.wrap ((a : Int)) = (a : Int) := by rw [IntKind.wrap_i64]; omega
        obtain ⟨x6, hx6⟩ : ∃ x, x = d[(i + j) / 2]! := ⟨_, rfl⟩
        obtain ⟨y6, hy6⟩ : ∃ x, x = d[a]! := ⟨_, rfl⟩
        have l6a := S1.out.ld R (by omega) P ((i + j) / 2) (by omega)
        have l6b := S1.out.ld R (by omega) P (a) (by omega)
        rw [← hx6] at l6a
        rw [← hy6] at l6b
        have hc6 := S1.out.cmp HC.out (by omega) x6 y6
        have hv6 : ¬ cfM x6 y6 < 0 := by rw [hx6, hy6]; exact fun h => Int.not_lt.2 hvA.out (cfM_neg.1 h)
        have hd6 : decide (cfM x6 y6 < 0) = false := decide_eq_false hv6
        clear hx6 hy6
        go_wp2_with fail
        go_quiet_grown (first | (go_at_fn g; refine Calls.grown_of (hc6 _ _)))
        have S1n : Aside (SWK enc k w0 blk off d (grow (wr.drewN nq) osq)) := S1.out.grown nq osq
        clear l6a l6b hc6 S1
        generalize grow (wr.drewN nq) osq = wu at S1n ⊢
        clear nq osq
        go_wp2
        go_roundg ((i + j) / 2 - i)
        case measure => omega
        case rel =>
          have I2 : Aside ((∀ t, m ≤ t → t < i → (d[t]!).p < (d[a]!).p) ∧ (∀ t, (i + j) / 2 ≤ t → t < b → (d[a]!).p ≤ (d[t]!).p)) := ⟨I.out.1, fun t h1 h2 => Int.le_trans (hvA.out) (HB.out.le (show m ≤ (i + j) / 2 by omega) h1 h2)⟩
          exact ⟨i, (i + j) / 2, rfl, by rw [show ((i : Int) + (j : Int)) / 2 = (((i + j) / 2 : Nat) : Int) by omega], hmi, by omega, by omega, Nat.le_refl _, S1n, I2⟩
    · obtain rfl : j = i := by omega
      go_wp2
      go_loopg [13] (j - 1 - a) (fun kx s13 wr2 => ∃ (t : Nat) (dk : Array Mrk), s13 = .int .i64 t ∧ a ≤ t ∧ t ≤ j - 1 ∧ j - 1 - t ≤ kx ∧ dk.size = d0.size ∧ Aside (SWK enc k w0 blk off dk wr2) ∧ Aside (Rot d dk a (a + 1) (t + 1)))
      case atStart => exact ⟨a, d, rfl, Nat.le_refl _, by omega, Nat.le_refl _, hds, S1, (rot_id d a (a + 1)).2⟩
      case round =>
        clear S1
        obtain ⟨t, dk, rfl, hat, htj, hkx2, hdk, S2, H2⟩ := hrel
        by_cases hlt2 : t < j - 1
        · have hltz2 : (t : Int) < (j : Int) - 1 := by omega
          have H3 : Aside (Rot d (swp dk t (t + 1)) a (a + 1) (t + 1 + 1)) := rot_up H2.out hat (by omega)
          clear H2
          have e7a : ((t : Int)).toNat = t := by omega
          have p7a : (0 : Int) ≤ (t : Int) := by omega
          have b7a : (t : Int) < (d0.size : Int) := by omega
          have r7a : IntKind.i64.wrap ((t : Int)) = (t : Int) := by rw [IntKind.wrap_i64]; omega
          have e7c : ((t : Int) + 1).toNat = t + 1 := by omega
          have p7c : (0 : Int) ≤ (t : Int) + 1 := by omega
          have b7c : (t : Int) + 1 < (d0.size : Int) := by omega
          have r7c : IntKind.i64.wrap ((t : Int) + 1) = (t : Int) + 1 := by rw [IntKind.wrap_i64]; omega
          have S2n : Aside (SWK enc k w0 blk off (swp dk (t) (t + 1)) ((wr.drew.setCells blk (off + (t) * k) (enc dk[t + 1]!)).setCells blk (off + (t + 1) * k) (enc dk[t]!))) := S2.out.swapped R (t) (t + 1) (by omega) (by omega)
          have l7a := S2.out.ld1 R (by omega) P (t) (by omega)
          have l7b := S2.out.ld1 R (by omega) P (t + 1) (by omega)
          have s7a := S2.out.st1 R (by omega) P (t) (by omega) dk[t + 1]!
          have s7b := S2.out.st2 R (by omega) P (t) (t + 1) (by omega) (by omega) dk[t + 1]! dk[t]!
          have n7a : (enc dk[t]!).length = k := R.hk _
          have n7b : (enc dk[t + 1]!).length = k := R.hk _
          generalize enc dk[t]! = cI7 at S2n l7a s7b n7a
          generalize enc dk[t + 1]! = cJ7 at S2n l7b s7a s7b n7b
          clear S2
          go_wp2_with fail
          go_big_region_o
          clear l7a l7b s7a s7b
          generalize (wr.drew.setCells blk (off + (t) * k) cJ7).setCells blk (off + (t + 1) * k) cI7 = w2 at S2n ⊢
          go_wp2
          go_roundg (j - 1 - (t + 1))
          case measure => omega
          case rel => exact ⟨t + 1, swp dk t (t + 1), by go_num, by omega, by omega, Nat.le_refl _, by rw [size_swp]; exact hdk, S2n, H3⟩
        · have hltz2 : ¬ (t : Int) < (j : Int) - 1 := by omega
          go_wp2
          (try simp only [Exit.inBlock, Exit.then])
          refine bodyPost_ret (results_none rfl _ _ _) rfl ?_
          have H3 : Rot d dk a (a + 1) j := by have := H2.out; rwa [show t + 1 = j by omega] at this
          have F := one_left (i := j) (by have := HB.out; rwa [HMA.out] at this) (by omega) hjb (by omega) (fun t h1 h2 => I.out.1 t (by omega) h2) I.out.2 H3
          exact ⟨rfl, dk, S2.out, F.1, F.2⟩

set_option maxHeartbeats 4000000 in
set_option maxRecDepth 1000000 in
theorem sym_right (L : SoLays P) (k : Nat) (aE : ∀ w, (isAgg 30).run P w = .ok true w) (zE : ∀ w, (Go.sizeOf 30).run P w = .ok k w) (enc : Mrk → List Value) (g : Nat) (cb : Array Value) (blk off cap : Nat) (d0 : Array Mrk) (w0 : World) (eg : ∀ args w, (callFunc g args).run P w = .ok (.enter g args) w) (hcmp : CmpLays P g cb enc k cfM blk off d0.size w0) (R : RowK enc k w0 blk off d0) (hsz : d0.size < 4611686018427387904)
    (a m b : Nat) (d : Array Mrk) (w : World) (hds : d.size = d0.size) (S : SWK enc k w0 blk off d w) (ham : a + 1 < m) (hmb : b = m + 1) (hb : b ≤ d0.size) (hA : SrtM d a m) :
    Calls P 55 #[.slice (some ⟨blk, off, none⟩) d0.size cap, .int .i64 a, .int .i64 m, .int .i64 b, .func (.func g) #[] cb] w fun e w' => e = .returned (.tuple #[]) ∧ ∃ f, SWK enc k w0 blk off f w' ∧ Stab a b d f ∧ SrtM f a b := by
  have mixed := L.mixed; have t0 := L.t0; have a0 := L.a0; have z0 := L.z0; have v0 := L.v0; have t3 := L.t3; have a3 := L.a3; have z3 := L.z3; have v3 := L.v3; have t4 := L.t4; have a4 := L.a4; have z4 := L.z4; have v4 := L.v4; have t22 := L.t22; have a22 := L.a22; have z22 := L.z22; have v22 := L.v22; have t63 := L.t63; have a63 := L.a63; have z63 := L.z63; have v63 := L.v63; have t57 := L.t57; have a57 := L.a57; have z57 := L.z57; have v57 := L.v57
  have u0 := run_underlying L.t0; have u3 := run_underlying L.t3; have u4 := run_underlying L.t4; have u22 := run_underlying L.t22; have u57 := run_underlying L.t57
  have FG := L.fSym
  have HC : Aside _ := hcmp
  have S0 : Aside (SWK enc k w0 blk off d w) := S
  have HA : Aside (SrtM d a m) := hA
  have hone : ((m : Int) - (a : Int) == 1) = false := by rw [beq_eq_false_iff_ne]; omega
  have hone2 : ((b : Int) - (m : Int) == 1) = true := by rw [beq_iff_eq]; omega
  have HMB : Aside (b = m + 1) := hmb
  have hm3 : m < b := by omega
  have hm4 : b < m + 2 := by omega
  clear hcmp S hA L hmb
  go_enter FG, Try.ntmps55
  go_wp2
  go_loopg [14, 15] (m - a) (fun kx s14 s15 wr => ∃ (i j : Nat), s14 = .int .i64 i ∧ s15 = .int .i64 j ∧ a ≤ i ∧ i ≤ j ∧ j ≤ m ∧ j - i ≤ kx ∧ Aside (SWK enc k w0 blk off d wr) ∧
    Aside ((∀ t, a ≤ t → t < i → (d[t]!).p ≤ (d[m]!).p) ∧ (∀ t, j ≤ t → t < m → (d[m]!).p < (d[t]!).p)))
  case atStart => exact ⟨a, m, rfl, rfl, Nat.le_refl _, by omega, Nat.le_refl _, Nat.le_refl _, S0, (⟨fun t h1 h2 => by omega, fun t h1 h2 => by omega⟩ : (∀ t, a ≤ t → t < a → (d[t]!).p ≤ (d[m]!).p) ∧ (∀ t, m ≤ t → t < m → (d[m]!).p < (d[t]!).p))⟩
  case round =>
    clear S0
    obtain ⟨i, j, rfl, rfl, hmi, hij, hjb, hkx, S1, I⟩ := hrel
    by_cases hlt : i < j
    · have hltz : (i : Int) < (j : Int) := by omega
      by_cases hv : (d[m]!).p < (d[(i + j) / 2]!).p
      · have hvA : Aside ((d[m]!).p < (d[(i + j) / 2]!).p) := hv
        clear hv
        have e5a : ((m : Int)).toNat = m := by omega
        have p5a : (0 : Int) ≤ (m : Int) := by omega
        have b5a : (m : Int) < (d0.size : Int) := by omega
        have r5a : IntKind.i64.wrap ((m : Int)) = (m : Int) := by rw [IntKind.wrap_i64]; omega
        have e5b : (((i : Int) + (j : Int)) / 2).toNat = (i + j) / 2 := by omega
        have p5b : (0 : Int) ≤ ((i : Int) + (j : Int)) / 2 := by omega
        have b5b : ((i : Int) + (j : Int)) / 2 < (d0.size : Int) := by omega
        have r5b : IntKind.i64.wrap (((i : Int) + (j : Int)) / 2) = ((i : Int) + (j : Int)) / 2 := by rw [IntKind.wrap_i64]; omega
        obtain ⟨x5, hx5⟩ : ∃ x, x = d[m]! := ⟨_, rfl⟩
        obtain ⟨y5, hy5⟩ : ∃ x, x = d[(i + j) / 2]! := ⟨_, rfl⟩
        have l5a := S1.out.ld R (by omega) P (m) (by omega)
        have l5b := S1.out.ld R (by omega) P ((i + j) / 2) (by omega)
        rw [← hx5] at l5a
        rw [← hy5] at l5b
        have hc5 := S1.out.cmp HC.out (by omega) x5 y5
        have hv5 : cfM x5 y5 < 0 := by rw [hx5, hy5]; exact cfM_neg.2 hvA.out
        have hd5 : decide (cfM x5 y5 < 0) = true := decide_eq_true hv5
        clear hx5 hy5
        go_wp2_with fail
        go_quiet_grown (first | (go_at_fn g; refine Calls.grown_of (hc5 _ _)))
        have S1n : Aside (SWK enc k w0 blk off d (grow (wr.drewN nq) osq)) := S1.out.grown nq osq
        clear l5a l5b hc5 S1
        generalize grow (wr.drewN nq) osq = wu at S1n ⊢
        clear nq osq
        go_wp2
        go_roundg ((i + j) / 2 - i)
        case measure => omega
        case rel =>
          have I2 : Aside ((∀ t, a ≤ t → t < i → (d[t]!).p ≤ (d[m]!).p) ∧ (∀ t, (i + j) / 2 ≤ t → t < m → (d[m]!).p < (d[t]!).p)) := ⟨I.out.1, fun t h1 h2 => Int.lt_of_lt_of_le hvA.out (HA.out.le (show a ≤ (i + j) / 2 by omega) h1 h2)⟩
          exact ⟨i, (i + j) / 2, rfl, by rw [show ((i : Int) + (j : Int)) / 2 = (((i + j) / 2 : Nat) : Int) by omega], hmi, by omega, by omega, Nat.le_refl _, S1n, I2⟩
      · have hvA : Aside ((d[(i + j) / 2]!).p ≤ (d[m]!).p) := Int.not_lt.1 hv
        clear hv
        have e6a : ((m : Int)).toNat = m := by omega
        have p6a : (0 : Int) ≤ (m : Int) := by omega
        have b6a : (m : Int) < (d0.size : Int) := by omega
        have r6a : IntKind.i64.wrap ((m : Int)) = (m : Int) := by rw [IntKind.wrap_i64]; omega
        have e6b : (((i : Int) + (j : Int)) / 2).toNat = (i + j) / 2 := by omega
        have p6b : (0 : Int) ≤ ((i : Int) + (j : Int)) / 2 := by omega
        have b6b : ((i : Int) + (j : Int)) / 2 < (d0.size : Int) := by omega
        have r6b : IntKind.i64.wrap (((i : Int) + (j : Int)) / 2) = ((i : Int) + (j : Int)) / 2 := by rw [IntKind.wrap_i64]; omega
        obtain ⟨x6, hx6⟩ : ∃ x, x = d[m]! := ⟨_, rfl⟩
        obtain ⟨y6, hy6⟩ : ∃ x, x = d[(i + j) / 2]! := ⟨_, rfl⟩
        have l6a := S1.out.ld R (by omega) P (m) (by omega)
        have l6b := S1.out.ld R (by omega) P ((i + j) / 2) (by omega)
        rw [← hx6] at l6a
        rw [← hy6] at l6b
        have hc6 := S1.out.cmp HC.out (by omega) x6 y6
        have hv6 : ¬ cfM x6 y6 < 0 := by rw [hx6, hy6]; exact fun h => Int.not_lt.2 hvA.out (cfM_neg.1 h)
        have hd6 : decide (cfM x6 y6 < 0) = false := decide_eq_false hv6
        clear hx6 hy6
        go_wp2_with fail
        go_quiet_grown (first | (go_at_fn g; refine Calls.grown_of (hc6 _ _)))
        have S1n : Aside (SWK enc k w0 blk off d (grow (wr.drewN nq) osq)) := S1.out.grown nq osq
        clear l6a l6b hc6 S1
        generalize grow (wr.drewN nq) osq = wu at S1n ⊢
        clear nq osq
        go_wp2
        go_roundg (j - ((i + j) / 2 + 1))
        case measure => omega
        case rel =>
          have I2 : Aside ((∀ t, a ≤ t → t < (i + j) / 2 + 1 → (d[t]!).p ≤ (d[m]!).p) ∧ (∀ t, j ≤ t → t < m → (d[m]!).p < (d[t]!).p)) := ⟨fun t h1 h2 => Int.le_trans (HA.out.le h1 (show t ≤ (i + j) / 2 by omega) (by omega)) (hvA.out), I.out.2⟩
          exact ⟨(i + j) / 2 + 1, j, by rw [show ((i : Int) + (j : Int)) / 2 + 1 = (((i + j) / 2 + 1 : Nat) : Int) by omega], rfl, by omega, by omega, hjb, Nat.le_refl _, S1n, I2⟩
    · obtain rfl : j = i := by omega
      go_wp2
      go_loopg [17] (m - j) (fun kx s17 wr2 => ∃ (t : Nat) (dk : Array Mrk), s17 = .int .i64 t ∧ j ≤ t ∧ t ≤ m ∧ t - j ≤ kx ∧ dk.size = d0.size ∧ Aside (SWK enc k w0 blk off dk wr2) ∧ Aside (Rot d dk t m (m + 1)))
      case atStart => exact ⟨m, d, rfl, hjb, Nat.le_refl _, Nat.le_refl _, hds, S1, (rot_id d m (m + 1)).1⟩
      case round =>
        clear S1
        have hmsz : m < d0.size := by have := HMB.out; omega
        obtain ⟨t, dk, rfl, hat, htj, hkx2, hdk, S2, H2⟩ := hrel
        by_cases hlt2 : j < t
        · obtain ⟨u, rfl⟩ : ∃ u, t = u + 1 := ⟨t - 1, by omega⟩
          have hltz2 : (j : Int) < (u : Int) + 1 := by omega
          have H3 : Aside (Rot d (swp dk (u + 1) u) u m (m + 1)) := rot_down H2.out (by omega) (by omega)
          clear H2
          have e7a : ((u : Int) + 1).toNat = u + 1 := by omega
          have p7a : (0 : Int) ≤ (u : Int) + 1 := by omega
          have b7a : (u : Int) + 1 < (d0.size : Int) := by omega
          have r7a : IntKind.i64.wrap ((u : Int) + 1) = (u : Int) + 1 := by rw [IntKind.wrap_i64]; omega
          have e7c : ((u : Int)).toNat = u := by omega
          have p7c : (0 : Int) ≤ (u : Int) := by omega
          have b7c : (u : Int) < (d0.size : Int) := by omega
          have r7c : IntKind.i64.wrap ((u : Int)) = (u : Int) := by rw [IntKind.wrap_i64]; omega
          have S2n : Aside (SWK enc k w0 blk off (swp dk (u + 1) (u)) ((wr.drew.setCells blk (off + (u + 1) * k) (enc dk[u]!)).setCells blk (off + (u) * k) (enc dk[u + 1]!))) := S2.out.swapped R (u + 1) (u) (by omega) (by omega)
          have l7a := S2.out.ld1 R (by omega) P (u + 1) (by omega)
          have l7b := S2.out.ld1 R (by omega) P (u) (by omega)
          have s7a := S2.out.st1 R (by omega) P (u + 1) (by omega) dk[u]!
          have s7b := S2.out.st2 R (by omega) P (u + 1) (u) (by omega) (by omega) dk[u]! dk[u + 1]!
          have n7a : (enc dk[u + 1]!).length = k := R.hk _
          have n7b : (enc dk[u]!).length = k := R.hk _
          generalize enc dk[u + 1]! = cI7 at S2n l7a s7b n7a
          generalize enc dk[u]! = cJ7 at S2n l7b s7a s7b n7b
          clear S2
          go_wp2_with fail
          go_big_region_o
          clear l7a l7b s7a s7b
          generalize (wr.drew.setCells blk (off + (u + 1) * k) cJ7).setCells blk (off + (u) * k) cI7 = w2 at S2n ⊢
          go_wp2
          go_roundg (u - j)
          case measure => omega
          case rel => exact ⟨u, swp dk (u + 1) u, by first | rfl | go_num | (congr 1; omega), by omega, by omega, Nat.le_refl _, by rw [size_swp]; exact hdk, S2n, H3⟩
        · have hltz2 : ¬ (j : Int) < (t : Int) := by omega
          obtain rfl : t = j := by omega
          go_wp2
          (try simp only [Exit.inBlock, Exit.then])
          refine bodyPost_ret (results_none rfl _ _ _) rfl ?_
          have hb2 := HMB.out
          subst hb2
          have F := one_right HA.out hmi hjb (by omega) I.out.1 I.out.2 H2.out
          exact ⟨rfl, dk, S2.out, F.1, F.2⟩

theorem SrtM.of2 {d f : Array Mrk} {a b c : Nat} (h : SrtM d c b) (hc : c ≤ a) (e : ∀ x, a ≤ x → x < b → f[x]! = d[x]!) : SrtM f a b := fun i j h1 h2 h3 => by
  rw [e i h1 (by omega), e j (by omega) h3]
  exact h i j (by omega) h2 h3
theorem SrtM.of2' {d f : Array Mrk} {a b c : Nat} (h : SrtM d a c) (hc : b ≤ c) (e : ∀ x, a ≤ x → x < b → f[x]! = d[x]!) : SrtM f a b := fun i j h1 h2 h3 => by
  rw [e i h1 (by omega), e j (by omega) h3]
  exact h i j h1 h2 (by omega)
theorem parts_end {d f f2 f3 : Array Mrk} {a mid b : Nat} (h1 : a ≤ mid) (h2 : mid ≤ b) (S : Stab a b d f) (sep : ∀ x y, a ≤ x → x < mid → mid ≤ y → y < b → (f[x]!).p ≤ (f[y]!).p)
    (T2 : Stab a mid f f2) (O2 : SrtM f2 a mid) (T3 : Stab mid b f2 f3) (O3 : SrtM f3 mid b) : Stab a b d f3 ∧ SrtM f3 a b :=
  ⟨(S.trans (T2.mono (Nat.le_refl _) h2)).trans (T3.mono h1 (Nat.le_refl _)), srt_join (O2.of fun x h3 h4 => T3.out x (by omega)) O3 (merge_right h1 h2 T3 (merge_left h1 h2 T2 sep))⟩

set_option maxHeartbeats 4000000 in
set_option maxRecDepth 1000000 in
theorem sym_cut_hi (L : SoLays P) (k : Nat) (aE : ∀ w, (isAgg 30).run P w = .ok true w) (zE : ∀ w, (Go.sizeOf 30).run P w = .ok k w) (enc : Mrk → List Value) (g : Nat) (cb : Array Value) (blk off cap : Nat) (d0 : Array Mrk) (w0 : World) (eg : ∀ args w, (callFunc g args).run P w = .ok (.enter g args) w) (hcmp : CmpLays P g cb enc k cfM blk off d0.size w0) (R : RowK enc k w0 blk off d0) (hsz : d0.size < 4611686018427387904)
    (n : Nat) (ih : SymP P enc k g cb blk off cap w0 d0.size n) (a m b mid : Nat) (d : Array Mrk) (w : World) (hn : b - a ≤ n + 1) (hds : d.size = d0.size) (S : SWK enc k w0 blk off d w) (ham : a + 1 < m) (hmb : m + 1 < b) (hb : b ≤ d0.size) (hA : SrtM d a m) (hB : SrtM d m b) (hmid : mid = (a + b) / 2) (hc : mid < m) :
    Calls P 55 #[.slice (some ⟨blk, off, none⟩) d0.size cap, .int .i64 a, .int .i64 m, .int .i64 b, .func (.func g) #[] cb] w fun e w' => e = .returned (.tuple #[]) ∧ ∃ f, SWK enc k w0 blk off f w' ∧ Stab a b d f ∧ SrtM f a b := by
  have mixed := L.mixed; have t0 := L.t0; have a0 := L.a0; have z0 := L.z0; have v0 := L.v0; have t3 := L.t3; have a3 := L.a3; have z3 := L.z3; have v3 := L.v3; have t4 := L.t4; have a4 := L.a4; have z4 := L.z4; have v4 := L.v4; have t22 := L.t22; have a22 := L.a22; have z22 := L.z22; have v22 := L.v22; have t63 := L.t63; have a63 := L.a63; have z63 := L.z63; have v63 := L.v63; have t57 := L.t57; have a57 := L.a57; have z57 := L.z57; have v57 := L.v57
  have u0 := run_underlying L.t0; have u3 := run_underlying L.t3; have u4 := run_underlying L.t4; have u22 := run_underlying L.t22; have u57 := run_underlying L.t57
  have FG := L.fSym
  have eS : ∀ args w, (callFunc 58 args).run P w = .ok (.enter 58 args) w := enters_of L.fRot (by kernel_rfl) rfl
  have eY : ∀ args w, (callFunc 55 args).run P w = .ok (.enter 55 args) w := enters_of L.fSym (by kernel_rfl) rfl
  have HC : Aside _ := hcmp
  have S0 : Aside (SWK enc k w0 blk off d w) := S
  have HA : Aside (SrtM d a m) := hA
  have HB : Aside (SrtM d m b) := hB
  have LL : Aside (SoLays P) := L
  have AE : Aside (∀ w, (isAgg 30).run P w = .ok true w) := aE
  have ZE : Aside (∀ w, (Go.sizeOf 30).run P w = .ok k w) := zE
  have IH : Aside (SymP P enc k g cb blk off cap w0 d0.size n) := ih
  have hone : ((m : Int) - (a : Int) == 1) = false := by rw [beq_eq_false_iff_ne]; omega
  have hone2 : ((b : Int) - (m : Int) == 1) = false := by rw [beq_eq_false_iff_ne]; omega
  have emid : ((a : Int) + (b : Int)) / 2 = (mid : Int) := by omega
  have hway : (mid : Int) < (m : Int) := by omega
  have HM : Aside (mid = (a + b) / 2) := hmid
  obtain ⟨p, ep, ep1, ep2⟩ : ∃ p : Nat, (mid : Int) + (m : Int) - 1 = (p : Int) ∧ p + 1 ≤ mid + m ∧ mid + m ≤ p + 1 := ⟨mid + m - 1, by omega, by omega, by omega⟩
  have b1 : a < mid := by omega
  have b2 : mid < b := by omega
  clear hcmp S hA hB L ih hmid
  go_enter FG, Try.ntmps55
  go_wp2
  go_loopg [20, 21] ((mid) - (mid + m - b)) (fun kx s20 s21 wr => ∃ (s r : Nat), s20 = .int .i64 s ∧ s21 = .int .i64 r ∧ mid + m - b ≤ s ∧ s ≤ r ∧ r ≤ mid ∧ r - s ≤ kx ∧ Aside (SWK enc k w0 blk off d wr) ∧
    Aside ((∀ c, mid + m - b ≤ c → c < s → (d[c]!).p ≤ (d[p - c]!).p) ∧ (∀ c, r ≤ c → c < mid → (d[p - c]!).p < (d[c]!).p)))
  case atStart => exact ⟨mid + m - b, mid, by first | rfl | go_num | (congr 1; have := HM.out; omega), by first | rfl | go_num, Nat.le_refl _, by have := HM.out; omega, Nat.le_refl _, Nat.le_refl _, S0, (⟨fun c h1 h2 => by omega, fun c h1 h2 => by omega⟩ : (∀ c, mid + m - b ≤ c → c < mid + m - b → (d[c]!).p ≤ (d[p - c]!).p) ∧ (∀ c, mid ≤ c → c < mid → (d[p - c]!).p < (d[c]!).p))⟩
  case round =>
    clear S0
    obtain ⟨s, r, rfl, rfl, hs0, hsr, hr0, hkx, S1, I⟩ := hrel
    have hB0 : mid + m - b + b ≥ mid + m ∧ mid + m - b ≥ a ∧ mid + m ≤ m + b := by have := HM.out; omega
    by_cases hlt : s < r
    · have hltz : (s : Int) < (r : Int) := by omega
      obtain ⟨c, hcz, hc1, hc2⟩ : ∃ c : Nat, ((s : Int) + (r : Int)) / 2 = (c : Int) ∧ s ≤ c ∧ c < r := ⟨(s + r) / 2, by omega, by omega, by omega⟩
      obtain ⟨q, hqz, hq1, hq2⟩ : ∃ q : Nat, (p : Int) - (c : Int) = (q : Int) ∧ q + c ≤ p ∧ p ≤ q + c := ⟨p - c, by omega, by omega, by omega⟩
      by_cases hv : (d[q]!).p < (d[c]!).p
      · have hvA : Aside ((d[q]!).p < (d[c]!).p) := hv
        clear hv
        have e5a : ((q : Int)).toNat = q := by omega
        have p5a : (0 : Int) ≤ (q : Int) := by omega
        have b5a : (q : Int) < (d0.size : Int) := by omega
        have r5a : IntKind.i64.wrap ((q : Int)) = (q : Int) := by rw [IntKind.wrap_i64]; omega
        have e5b : ((c : Int)).toNat = c := by omega
        have p5b : (0 : Int) ≤ (c : Int) := by omega
        have b5b : (c : Int) < (d0.size : Int) := by omega
        have r5b : IntKind.i64.wrap ((c : Int)) = (c : Int) := by rw [IntKind.wrap_i64]; omega
        obtain ⟨x5, hx5⟩ : ∃ x, x = d[q]! := ⟨_, rfl⟩
        obtain ⟨y5, hy5⟩ : ∃ x, x = d[c]! := ⟨_, rfl⟩
        have l5a := S1.out.ld R (by omega) P (q) (by omega)
        have l5b := S1.out.ld R (by omega) P (c) (by omega)
        rw [← hx5] at l5a
        rw [← hy5] at l5b
        have hc5 := S1.out.cmp HC.out (by omega) x5 y5
        have hv5 : cfM x5 y5 < 0 := by rw [hx5, hy5]; exact cfM_neg.2 hvA.out
        have hd5 : decide (cfM x5 y5 < 0) = true := decide_eq_true hv5
        clear hx5 hy5
        go_wp2_with fail
        go_quiet_grown (first | (go_at_fn g; refine Calls.grown_of (hc5 _ _)))
        have S1n : Aside (SWK enc k w0 blk off d (grow (wr.drewN nq) osq)) := S1.out.grown nq osq
        clear l5a l5b hc5 S1
        generalize grow (wr.drewN nq) osq = wu at S1n ⊢
        clear nq osq
        go_wp2
        go_roundg (c - s)
        case measure => omega
        case rel =>
          have I2 : Aside ((∀ t, mid + m - b ≤ t → t < s → (d[t]!).p ≤ (d[p - t]!).p) ∧ (∀ t, c ≤ t → t < mid → (d[p - t]!).p < (d[t]!).p)) := ⟨I.out.1, fun t h1 h2 => Int.lt_of_le_of_lt (HB.out.le (by omega) (show p - t ≤ q by omega) (by omega)) (Int.lt_of_lt_of_le hvA.out (HA.out.le (by omega) h1 (by omega)))⟩
          exact ⟨s, c, rfl, by first | rfl | rw [hcz], hs0, by omega, by omega, Nat.le_refl _, S1n, I2⟩
      · have hvA : Aside ((d[c]!).p ≤ (d[q]!).p) := Int.not_lt.1 hv
        clear hv
        have e6a : ((q : Int)).toNat = q := by omega
        have p6a : (0 : Int) ≤ (q : Int) := by omega
        have b6a : (q : Int) < (d0.size : Int) := by omega
        have r6a : IntKind.i64.wrap ((q : Int)) = (q : Int) := by rw [IntKind.wrap_i64]; omega
        have e6b : ((c : Int)).toNat = c := by omega
        have p6b : (0 : Int) ≤ (c : Int) := by omega
        have b6b : (c : Int) < (d0.size : Int) := by omega
        have r6b : IntKind.i64.wrap ((c : Int)) = (c : Int) := by rw [IntKind.wrap_i64]; omega
        obtain ⟨x6, hx6⟩ : ∃ x, x = d[q]! := ⟨_, rfl⟩
        obtain ⟨y6, hy6⟩ : ∃ x, x = d[c]! := ⟨_, rfl⟩
        have l6a := S1.out.ld R (by omega) P (q) (by omega)
        have l6b := S1.out.ld R (by omega) P (c) (by omega)
        rw [← hx6] at l6a
        rw [← hy6] at l6b
        have hc6 := S1.out.cmp HC.out (by omega) x6 y6
        have hv6 : ¬ cfM x6 y6 < 0 := by rw [hx6, hy6]; exact fun h => Int.not_lt.2 hvA.out (cfM_neg.1 h)
        have hd6 : decide (cfM x6 y6 < 0) = false := decide_eq_false hv6
        clear hx6 hy6
        go_wp2_with fail
        go_quiet_grown (first | (go_at_fn g; refine Calls.grown_of (hc6 _ _)))
        have S1n : Aside (SWK enc k w0 blk off d (grow (wr.drewN nq) osq)) := S1.out.grown nq osq
        clear l6a l6b hc6 S1
        generalize grow (wr.drewN nq) osq = wu at S1n ⊢
        clear nq osq
        go_wp2
        go_roundg (r - (c + 1))
        case measure => omega
        case rel =>
          have I2 : Aside ((∀ t, mid + m - b ≤ t → t < c + 1 → (d[t]!).p ≤ (d[p - t]!).p) ∧ (∀ t, r ≤ t → t < mid → (d[p - t]!).p < (d[t]!).p)) := ⟨fun t h1 h2 => Int.le_trans (HA.out.le (by omega) (show t ≤ c by omega) (by omega)) (Int.le_trans hvA.out (HB.out.le (by omega) (show q ≤ p - t by omega) (by omega))), I.out.2⟩
          exact ⟨c + 1, r, by go_num, rfl, by omega, by omega, hr0, Nat.le_refl _, S1n, I2⟩
    · obtain rfl : s = r := by omega
      have C : Aside (CutS d a m b mid s) := cut_found HA.out HB.out (by omega) (by omega) HM.out (.inl ⟨hc, rfl, rfl⟩) hs0 hr0 (fun c h1 h2 => by have := I.out.1 c h1 h2; rwa [show p - c = mid + m - 1 - c by omega] at this) (fun h => by have := I.out.2 s (Nat.le_refl _) h; rwa [show p - s = mid + m - 1 - s by omega] at this)
      have C1 := C.out.lo; have C2 := C.out.sm; have C3 := C.out.smid; have C4 := C.out.e1; have C5 := C.out.e2; have C6 := C.out.emid
      clear I
      rcases (show (s < m ∧ m < mid + m - s) ∨ ¬ s < m ∨ (s < m ∧ ¬ m < mid + m - s) by omega) with g1 | g1 | g1
      · rcases (show (a < s ∧ s < mid) ∨ ¬ a < s ∨ (a < s ∧ ¬ s < mid) by omega) with g2 | g2 | g2
        · rcases (show (mid < mid + m - s ∧ mid + m - s < b) ∨ ¬ mid < mid + m - s ∨ (mid < mid + m - s ∧ ¬ mid + m - s < b) by omega) with g3 | g3 | g3
          · have q1 : (s : Int) < (m : Int) := by omega
            have q2 : (m : Int) < (mid : Int) + (m : Int) - (s : Int) := by omega
            have hcall := rotate_gen LL.out k AE.out ZE.out enc g cb blk off cap s m (mid + m - s) d0 d w0 wr R (by omega) S1.out (by omega) (by omega) (by omega) (by omega)
            rw [show ((mid + m - s : Nat) : Int) = (mid : Int) + (m : Int) - (s : Int) by omega, hds] at hcall
            clear S1
            go_wp2_with fail
            refine hcall.mono ?_
            rintro e w1 ⟨rfl, f, S2, H2⟩
            have PT : Aside _ := cut_parts C.out HA.out HB.out (by omega) H2
            have hfs : f.size = d0.size := H2.1.trans hds
            clear hcall H2
            have q3 : (a : Int) < (s : Int) := by omega
            have q4 : (s : Int) < (mid : Int) := by omega
            have hcall2 := IH.out a s mid f _ (by omega) hfs S2 (by omega) (by omega) (by omega) PT.out.2.1 PT.out.2.2.1
            go_wp2_with fail
            refine hcall2.mono ?_
            rintro e w2 ⟨rfl, f2, S3, T2, O2⟩
            clear hcall2
            have hf2s : f2.size = d0.size := T2.size.trans hfs
            have q5 : (mid : Int) < (mid : Int) + (m : Int) - (s : Int) := by omega
            have q6 : (mid : Int) + (m : Int) - (s : Int) < (b : Int) := by omega
            have hcall3 := IH.out mid (mid + m - s) b f2 _ (by omega) hf2s S3 (by omega) (by omega) (by omega) (PT.out.2.2.2.1.of fun x h1 h2 => T2.out x (by omega)) (PT.out.2.2.2.2.1.of fun x h1 h2 => T2.out x (by omega))
            rw [show ((mid + m - s : Nat) : Int) = (mid : Int) + (m : Int) - (s : Int) by omega] at hcall3
            go_wp2_with fail
            refine hcall3.mono ?_
            rintro e w3 ⟨rfl, f3, S4, T3, O3⟩
            clear hcall3
            have Z := parts_end (by omega) (by omega) PT.out.1 PT.out.2.2.2.2.2 T2 O2 T3 O3
            go_wp2
            all_goals
              go_end0
              exact ⟨rfl, f3, S4, Z.1, Z.2⟩
          · exfalso; omega
          · have q1 : (s : Int) < (m : Int) := by omega
            have q2 : (m : Int) < (mid : Int) + (m : Int) - (s : Int) := by omega
            have hcall := rotate_gen LL.out k AE.out ZE.out enc g cb blk off cap s m (mid + m - s) d0 d w0 wr R (by omega) S1.out (by omega) (by omega) (by omega) (by omega)
            rw [show ((mid + m - s : Nat) : Int) = (mid : Int) + (m : Int) - (s : Int) by omega, hds] at hcall
            clear S1
            go_wp2_with fail
            refine hcall.mono ?_
            rintro e w1 ⟨rfl, f, S2, H2⟩
            have PT : Aside _ := cut_parts C.out HA.out HB.out (by omega) H2
            have hfs : f.size = d0.size := H2.1.trans hds
            clear hcall H2
            have q3 : (a : Int) < (s : Int) := by omega
            have q4 : (s : Int) < (mid : Int) := by omega
            have hcall2 := IH.out a s mid f _ (by omega) hfs S2 (by omega) (by omega) (by omega) PT.out.2.1 PT.out.2.2.1
            go_wp2_with fail
            refine hcall2.mono ?_
            rintro e w2 ⟨rfl, f2, S3, T2, O2⟩
            clear hcall2
            have hf2s : f2.size = d0.size := T2.size.trans hfs
            have q5 : (mid : Int) < (mid : Int) + (m : Int) - (s : Int) := by omega
            have q6 : ¬ (mid : Int) + (m : Int) - (s : Int) < (b : Int) := by omega
            have T3 : Stab mid b f2 f2 := Stab.refl _ _ _
            have O3 : SrtM f2 mid b := PT.out.2.2.2.1.of2' (by omega) (fun x h1 h2 => T2.out x (by omega))
            have Z := parts_end (by omega) (by omega) PT.out.1 PT.out.2.2.2.2.2 T2 O2 T3 O3
            go_wp2
            all_goals
              go_end0
              exact ⟨rfl, f2, S3, Z.1, Z.2⟩
        · rcases (show (mid < mid + m - s ∧ mid + m - s < b) ∨ ¬ mid < mid + m - s ∨ (mid < mid + m - s ∧ ¬ mid + m - s < b) by omega) with g3 | g3 | g3
          · have q1 : (s : Int) < (m : Int) := by omega
            have q2 : (m : Int) < (mid : Int) + (m : Int) - (s : Int) := by omega
            have hcall := rotate_gen LL.out k AE.out ZE.out enc g cb blk off cap s m (mid + m - s) d0 d w0 wr R (by omega) S1.out (by omega) (by omega) (by omega) (by omega)
            rw [show ((mid + m - s : Nat) : Int) = (mid : Int) + (m : Int) - (s : Int) by omega, hds] at hcall
            clear S1
            go_wp2_with fail
            refine hcall.mono ?_
            rintro e w1 ⟨rfl, f, S2, H2⟩
            have PT : Aside _ := cut_parts C.out HA.out HB.out (by omega) H2
            have hfs : f.size = d0.size := H2.1.trans hds
            clear hcall H2
            have q3 : ¬ (a : Int) < (s : Int) := by omega
            have T2 : Stab a mid f f := Stab.refl _ _ _
            have O2 : SrtM f a mid := PT.out.2.2.1.of2 (by omega) (fun _ _ _ => rfl)
            have hf2s : f.size = d0.size := T2.size.trans hfs
            have q5 : (mid : Int) < (mid : Int) + (m : Int) - (s : Int) := by omega
            have q6 : (mid : Int) + (m : Int) - (s : Int) < (b : Int) := by omega
            have hcall3 := IH.out mid (mid + m - s) b f _ (by omega) hf2s S2 (by omega) (by omega) (by omega) (PT.out.2.2.2.1.of fun x h1 h2 => T2.out x (by omega)) (PT.out.2.2.2.2.1.of fun x h1 h2 => T2.out x (by omega))
            rw [show ((mid + m - s : Nat) : Int) = (mid : Int) + (m : Int) - (s : Int) by omega] at hcall3
            go_wp2_with fail
            refine hcall3.mono ?_
            rintro e w3 ⟨rfl, f3, S4, T3, O3⟩
            clear hcall3
            have Z := parts_end (by omega) (by omega) PT.out.1 PT.out.2.2.2.2.2 T2 O2 T3 O3
            go_wp2
            all_goals
              go_end0
              exact ⟨rfl, f3, S4, Z.1, Z.2⟩
          · exfalso; omega
          · have q1 : (s : Int) < (m : Int) := by omega
            have q2 : (m : Int) < (mid : Int) + (m : Int) - (s : Int) := by omega
            have hcall := rotate_gen LL.out k AE.out ZE.out enc g cb blk off cap s m (mid + m - s) d0 d w0 wr R (by omega) S1.out (by omega) (by omega) (by omega) (by omega)
            rw [show ((mid + m - s : Nat) : Int) = (mid : Int) + (m : Int) - (s : Int) by omega, hds] at hcall
            clear S1
            go_wp2_with fail
            refine hcall.mono ?_
            rintro e w1 ⟨rfl, f, S2, H2⟩
            have PT : Aside _ := cut_parts C.out HA.out HB.out (by omega) H2
            have hfs : f.size = d0.size := H2.1.trans hds
            clear hcall H2
            have q3 : ¬ (a : Int) < (s : Int) := by omega
            have T2 : Stab a mid f f := Stab.refl _ _ _
            have O2 : SrtM f a mid := PT.out.2.2.1.of2 (by omega) (fun _ _ _ => rfl)
            have hf2s : f.size = d0.size := T2.size.trans hfs
            have q5 : (mid : Int) < (mid : Int) + (m : Int) - (s : Int) := by omega
            have q6 : ¬ (mid : Int) + (m : Int) - (s : Int) < (b : Int) := by omega
            have T3 : Stab mid b f f := Stab.refl _ _ _
            have O3 : SrtM f mid b := PT.out.2.2.2.1.of2' (by omega) (fun x h1 h2 => T2.out x (by omega))
            have Z := parts_end (by omega) (by omega) PT.out.1 PT.out.2.2.2.2.2 T2 O2 T3 O3
            go_wp2
            all_goals
              go_end0
              exact ⟨rfl, f, S2, Z.1, Z.2⟩
        · rcases (show (mid < mid + m - s ∧ mid + m - s < b) ∨ ¬ mid < mid + m - s ∨ (mid < mid + m - s ∧ ¬ mid + m - s < b) by omega) with g3 | g3 | g3
          · exfalso; omega
          · exfalso; omega
          · exfalso; omega
      · rcases (show (a < s ∧ s < mid) ∨ ¬ a < s ∨ (a < s ∧ ¬ s < mid) by omega) with g2 | g2 | g2
        · rcases (show (mid < mid + m - s ∧ mid + m - s < b) ∨ ¬ mid < mid + m - s ∨ (mid < mid + m - s ∧ ¬ mid + m - s < b) by omega) with g3 | g3 | g3
          · have q1 : ¬ (s : Int) < (m : Int) := by omega
            have PT : Aside _ := cut_parts C.out HA.out HB.out (by omega) (cut_still C.out (by omega))
            have hfs := hds
            have q3 : (a : Int) < (s : Int) := by omega
            have q4 : (s : Int) < (mid : Int) := by omega
            have hcall2 := IH.out a s mid d _ (by omega) hfs S1.out (by omega) (by omega) (by omega) PT.out.2.1 PT.out.2.2.1
            go_wp2_with fail
            refine hcall2.mono ?_
            rintro e w2 ⟨rfl, f2, S3, T2, O2⟩
            clear hcall2
            have hf2s : f2.size = d0.size := T2.size.trans hfs
            have q5 : (mid : Int) < (mid : Int) + (m : Int) - (s : Int) := by omega
            have q6 : (mid : Int) + (m : Int) - (s : Int) < (b : Int) := by omega
            have hcall3 := IH.out mid (mid + m - s) b f2 _ (by omega) hf2s S3 (by omega) (by omega) (by omega) (PT.out.2.2.2.1.of fun x h1 h2 => T2.out x (by omega)) (PT.out.2.2.2.2.1.of fun x h1 h2 => T2.out x (by omega))
            rw [show ((mid + m - s : Nat) : Int) = (mid : Int) + (m : Int) - (s : Int) by omega] at hcall3
            go_wp2_with fail
            refine hcall3.mono ?_
            rintro e w3 ⟨rfl, f3, S4, T3, O3⟩
            clear hcall3
            have Z := parts_end (by omega) (by omega) PT.out.1 PT.out.2.2.2.2.2 T2 O2 T3 O3
            go_wp2
            all_goals
              go_end0
              exact ⟨rfl, f3, S4, Z.1, Z.2⟩
          · have q1 : ¬ (s : Int) < (m : Int) := by omega
            have PT : Aside _ := cut_parts C.out HA.out HB.out (by omega) (cut_still C.out (by omega))
            have hfs := hds
            have q3 : (a : Int) < (s : Int) := by omega
            have q4 : (s : Int) < (mid : Int) := by omega
            have hcall2 := IH.out a s mid d _ (by omega) hfs S1.out (by omega) (by omega) (by omega) PT.out.2.1 PT.out.2.2.1
            go_wp2_with fail
            refine hcall2.mono ?_
            rintro e w2 ⟨rfl, f2, S3, T2, O2⟩
            clear hcall2
            have hf2s : f2.size = d0.size := T2.size.trans hfs
            have q5 : ¬ (mid : Int) < (mid : Int) + (m : Int) - (s : Int) := by omega
            have T3 : Stab mid b f2 f2 := Stab.refl _ _ _
            have O3 : SrtM f2 mid b := PT.out.2.2.2.2.1.of2 (by omega) (fun x h1 h2 => T2.out x (by omega))
            have Z := parts_end (by omega) (by omega) PT.out.1 PT.out.2.2.2.2.2 T2 O2 T3 O3
            go_wp2
            all_goals
              go_end0
              exact ⟨rfl, f2, S3, Z.1, Z.2⟩
          · have q1 : ¬ (s : Int) < (m : Int) := by omega
            have PT : Aside _ := cut_parts C.out HA.out HB.out (by omega) (cut_still C.out (by omega))
            have hfs := hds
            have q3 : (a : Int) < (s : Int) := by omega
            have q4 : (s : Int) < (mid : Int) := by omega
            have hcall2 := IH.out a s mid d _ (by omega) hfs S1.out (by omega) (by omega) (by omega) PT.out.2.1 PT.out.2.2.1
            go_wp2_with fail
            refine hcall2.mono ?_
            rintro e w2 ⟨rfl, f2, S3, T2, O2⟩
            clear hcall2
            have hf2s : f2.size = d0.size := T2.size.trans hfs
            have q5 : (mid : Int) < (mid : Int) + (m : Int) - (s : Int) := by omega
            have q6 : ¬ (mid : Int) + (m : Int) - (s : Int) < (b : Int) := by omega
            have T3 : Stab mid b f2 f2 := Stab.refl _ _ _
            have O3 : SrtM f2 mid b := PT.out.2.2.2.1.of2' (by omega) (fun x h1 h2 => T2.out x (by omega))
            have Z := parts_end (by omega) (by omega) PT.out.1 PT.out.2.2.2.2.2 T2 O2 T3 O3
            go_wp2
            all_goals
              go_end0
              exact ⟨rfl, f2, S3, Z.1, Z.2⟩
        · rcases (show (mid < mid + m - s ∧ mid + m - s < b) ∨ ¬ mid < mid + m - s ∨ (mid < mid + m - s ∧ ¬ mid + m - s < b) by omega) with g3 | g3 | g3
          · have q1 : ¬ (s : Int) < (m : Int) := by omega
            have PT : Aside _ := cut_parts C.out HA.out HB.out (by omega) (cut_still C.out (by omega))
            have hfs := hds
            have q3 : ¬ (a : Int) < (s : Int) := by omega
            have T2 : Stab a mid d d := Stab.refl _ _ _
            have O2 : SrtM d a mid := PT.out.2.2.1.of2 (by omega) (fun _ _ _ => rfl)
            have hf2s : d.size = d0.size := T2.size.trans hfs
            have q5 : (mid : Int) < (mid : Int) + (m : Int) - (s : Int) := by omega
            have q6 : (mid : Int) + (m : Int) - (s : Int) < (b : Int) := by omega
            have hcall3 := IH.out mid (mid + m - s) b d _ (by omega) hf2s S1.out (by omega) (by omega) (by omega) (PT.out.2.2.2.1.of fun x h1 h2 => T2.out x (by omega)) (PT.out.2.2.2.2.1.of fun x h1 h2 => T2.out x (by omega))
            rw [show ((mid + m - s : Nat) : Int) = (mid : Int) + (m : Int) - (s : Int) by omega] at hcall3
            go_wp2_with fail
            refine hcall3.mono ?_
            rintro e w3 ⟨rfl, f3, S4, T3, O3⟩
            clear hcall3
            have Z := parts_end (by omega) (by omega) PT.out.1 PT.out.2.2.2.2.2 T2 O2 T3 O3
            go_wp2
            all_goals
              go_end0
              exact ⟨rfl, f3, S4, Z.1, Z.2⟩
          · have q1 : ¬ (s : Int) < (m : Int) := by omega
            have PT : Aside _ := cut_parts C.out HA.out HB.out (by omega) (cut_still C.out (by omega))
            have hfs := hds
            have q3 : ¬ (a : Int) < (s : Int) := by omega
            have T2 : Stab a mid d d := Stab.refl _ _ _
            have O2 : SrtM d a mid := PT.out.2.2.1.of2 (by omega) (fun _ _ _ => rfl)
            have hf2s : d.size = d0.size := T2.size.trans hfs
            have q5 : ¬ (mid : Int) < (mid : Int) + (m : Int) - (s : Int) := by omega
            have T3 : Stab mid b d d := Stab.refl _ _ _
            have O3 : SrtM d mid b := PT.out.2.2.2.2.1.of2 (by omega) (fun x h1 h2 => T2.out x (by omega))
            have Z := parts_end (by omega) (by omega) PT.out.1 PT.out.2.2.2.2.2 T2 O2 T3 O3
            go_wp2
            all_goals
              go_end0
              exact ⟨rfl, d, S1.out, Z.1, Z.2⟩
          · have q1 : ¬ (s : Int) < (m : Int) := by omega
            have PT : Aside _ := cut_parts C.out HA.out HB.out (by omega) (cut_still C.out (by omega))
            have hfs := hds
            have q3 : ¬ (a : Int) < (s : Int) := by omega
            have T2 : Stab a mid d d := Stab.refl _ _ _
            have O2 : SrtM d a mid := PT.out.2.2.1.of2 (by omega) (fun _ _ _ => rfl)
            have hf2s : d.size = d0.size := T2.size.trans hfs
            have q5 : (mid : Int) < (mid : Int) + (m : Int) - (s : Int) := by omega
            have q6 : ¬ (mid : Int) + (m : Int) - (s : Int) < (b : Int) := by omega
            have T3 : Stab mid b d d := Stab.refl _ _ _
            have O3 : SrtM d mid b := PT.out.2.2.2.1.of2' (by omega) (fun x h1 h2 => T2.out x (by omega))
            have Z := parts_end (by omega) (by omega) PT.out.1 PT.out.2.2.2.2.2 T2 O2 T3 O3
            go_wp2
            all_goals
              go_end0
              exact ⟨rfl, d, S1.out, Z.1, Z.2⟩
        · rcases (show (mid < mid + m - s ∧ mid + m - s < b) ∨ ¬ mid < mid + m - s ∨ (mid < mid + m - s ∧ ¬ mid + m - s < b) by omega) with g3 | g3 | g3
          · have q1 : ¬ (s : Int) < (m : Int) := by omega
            have PT : Aside _ := cut_parts C.out HA.out HB.out (by omega) (cut_still C.out (by omega))
            have hfs := hds
            have q3 : (a : Int) < (s : Int) := by omega
            have q4 : ¬ (s : Int) < (mid : Int) := by omega
            have T2 : Stab a mid d d := Stab.refl _ _ _
            have O2 : SrtM d a mid := PT.out.2.1.of2' (by omega) (fun _ _ _ => rfl)
            have hf2s : d.size = d0.size := T2.size.trans hfs
            have q5 : (mid : Int) < (mid : Int) + (m : Int) - (s : Int) := by omega
            have q6 : (mid : Int) + (m : Int) - (s : Int) < (b : Int) := by omega
            have hcall3 := IH.out mid (mid + m - s) b d _ (by omega) hf2s S1.out (by omega) (by omega) (by omega) (PT.out.2.2.2.1.of fun x h1 h2 => T2.out x (by omega)) (PT.out.2.2.2.2.1.of fun x h1 h2 => T2.out x (by omega))
            rw [show ((mid + m - s : Nat) : Int) = (mid : Int) + (m : Int) - (s : Int) by omega] at hcall3
            go_wp2_with fail
            refine hcall3.mono ?_
            rintro e w3 ⟨rfl, f3, S4, T3, O3⟩
            clear hcall3
            have Z := parts_end (by omega) (by omega) PT.out.1 PT.out.2.2.2.2.2 T2 O2 T3 O3
            go_wp2
            all_goals
              go_end0
              exact ⟨rfl, f3, S4, Z.1, Z.2⟩
          · have q1 : ¬ (s : Int) < (m : Int) := by omega
            have PT : Aside _ := cut_parts C.out HA.out HB.out (by omega) (cut_still C.out (by omega))
            have hfs := hds
            have q3 : (a : Int) < (s : Int) := by omega
            have q4 : ¬ (s : Int) < (mid : Int) := by omega
            have T2 : Stab a mid d d := Stab.refl _ _ _
            have O2 : SrtM d a mid := PT.out.2.1.of2' (by omega) (fun _ _ _ => rfl)
            have hf2s : d.size = d0.size := T2.size.trans hfs
            have q5 : ¬ (mid : Int) < (mid : Int) + (m : Int) - (s : Int) := by omega
            have T3 : Stab mid b d d := Stab.refl _ _ _
            have O3 : SrtM d mid b := PT.out.2.2.2.2.1.of2 (by omega) (fun x h1 h2 => T2.out x (by omega))
            have Z := parts_end (by omega) (by omega) PT.out.1 PT.out.2.2.2.2.2 T2 O2 T3 O3
            go_wp2
            all_goals
              go_end0
              exact ⟨rfl, d, S1.out, Z.1, Z.2⟩
          · have q1 : ¬ (s : Int) < (m : Int) := by omega
            have PT : Aside _ := cut_parts C.out HA.out HB.out (by omega) (cut_still C.out (by omega))
            have hfs := hds
            have q3 : (a : Int) < (s : Int) := by omega
            have q4 : ¬ (s : Int) < (mid : Int) := by omega
            have T2 : Stab a mid d d := Stab.refl _ _ _
            have O2 : SrtM d a mid := PT.out.2.1.of2' (by omega) (fun _ _ _ => rfl)
            have hf2s : d.size = d0.size := T2.size.trans hfs
            have q5 : (mid : Int) < (mid : Int) + (m : Int) - (s : Int) := by omega
            have q6 : ¬ (mid : Int) + (m : Int) - (s : Int) < (b : Int) := by omega
            have T3 : Stab mid b d d := Stab.refl _ _ _
            have O3 : SrtM d mid b := PT.out.2.2.2.1.of2' (by omega) (fun x h1 h2 => T2.out x (by omega))
            have Z := parts_end (by omega) (by omega) PT.out.1 PT.out.2.2.2.2.2 T2 O2 T3 O3
            go_wp2
            all_goals
              go_end0
              exact ⟨rfl, d, S1.out, Z.1, Z.2⟩
      · rcases (show (a < s ∧ s < mid) ∨ ¬ a < s ∨ (a < s ∧ ¬ s < mid) by omega) with g2 | g2 | g2
        · rcases (show (mid < mid + m - s ∧ mid + m - s < b) ∨ ¬ mid < mid + m - s ∨ (mid < mid + m - s ∧ ¬ mid + m - s < b) by omega) with g3 | g3 | g3
          · have q1 : (s : Int) < (m : Int) := by omega
            have q2 : ¬ (m : Int) < (mid : Int) + (m : Int) - (s : Int) := by omega
            have PT : Aside _ := cut_parts C.out HA.out HB.out (by omega) (cut_still C.out (by omega))
            have hfs := hds
            have q3 : (a : Int) < (s : Int) := by omega
            have q4 : (s : Int) < (mid : Int) := by omega
            have hcall2 := IH.out a s mid d _ (by omega) hfs S1.out (by omega) (by omega) (by omega) PT.out.2.1 PT.out.2.2.1
            go_wp2_with fail
            refine hcall2.mono ?_
            rintro e w2 ⟨rfl, f2, S3, T2, O2⟩
            clear hcall2
            have hf2s : f2.size = d0.size := T2.size.trans hfs
            have q5 : (mid : Int) < (mid : Int) + (m : Int) - (s : Int) := by omega
            have q6 : (mid : Int) + (m : Int) - (s : Int) < (b : Int) := by omega
            have hcall3 := IH.out mid (mid + m - s) b f2 _ (by omega) hf2s S3 (by omega) (by omega) (by omega) (PT.out.2.2.2.1.of fun x h1 h2 => T2.out x (by omega)) (PT.out.2.2.2.2.1.of fun x h1 h2 => T2.out x (by omega))
            rw [show ((mid + m - s : Nat) : Int) = (mid : Int) + (m : Int) - (s : Int) by omega] at hcall3
            go_wp2_with fail
            refine hcall3.mono ?_
            rintro e w3 ⟨rfl, f3, S4, T3, O3⟩
            clear hcall3
            have Z := parts_end (by omega) (by omega) PT.out.1 PT.out.2.2.2.2.2 T2 O2 T3 O3
            go_wp2
            all_goals
              go_end0
              exact ⟨rfl, f3, S4, Z.1, Z.2⟩
          · have q1 : (s : Int) < (m : Int) := by omega
            have q2 : ¬ (m : Int) < (mid : Int) + (m : Int) - (s : Int) := by omega
            have PT : Aside _ := cut_parts C.out HA.out HB.out (by omega) (cut_still C.out (by omega))
            have hfs := hds
            have q3 : (a : Int) < (s : Int) := by omega
            have q4 : (s : Int) < (mid : Int) := by omega
            have hcall2 := IH.out a s mid d _ (by omega) hfs S1.out (by omega) (by omega) (by omega) PT.out.2.1 PT.out.2.2.1
            go_wp2_with fail
            refine hcall2.mono ?_
            rintro e w2 ⟨rfl, f2, S3, T2, O2⟩
            clear hcall2
            have hf2s : f2.size = d0.size := T2.size.trans hfs
            have q5 : ¬ (mid : Int) < (mid : Int) + (m : Int) - (s : Int) := by omega
            have T3 : Stab mid b f2 f2 := Stab.refl _ _ _
            have O3 : SrtM f2 mid b := PT.out.2.2.2.2.1.of2 (by omega) (fun x h1 h2 => T2.out x (by omega))
            have Z := parts_end (by omega) (by omega) PT.out.1 PT.out.2.2.2.2.2 T2 O2 T3 O3
            go_wp2
            all_goals
              go_end0
              exact ⟨rfl, f2, S3, Z.1, Z.2⟩
          · have q1 : (s : Int) < (m : Int) := by omega
            have q2 : ¬ (m : Int) < (mid : Int) + (m : Int) - (s : Int) := by omega
            have PT : Aside _ := cut_parts C.out HA.out HB.out (by omega) (cut_still C.out (by omega))
            have hfs := hds
            have q3 : (a : Int) < (s : Int) := by omega
            have q4 : (s : Int) < (mid : Int) := by omega
            have hcall2 := IH.out a s mid d _ (by omega) hfs S1.out (by omega) (by omega) (by omega) PT.out.2.1 PT.out.2.2.1
            go_wp2_with fail
            refine hcall2.mono ?_
            rintro e w2 ⟨rfl, f2, S3, T2, O2⟩
            clear hcall2
            have hf2s : f2.size = d0.size := T2.size.trans hfs
            have q5 : (mid : Int) < (mid : Int) + (m : Int) - (s : Int) := by omega
            have q6 : ¬ (mid : Int) + (m : Int) - (s : Int) < (b : Int) := by omega
            have T3 : Stab mid b f2 f2 := Stab.refl _ _ _
            have O3 : SrtM f2 mid b := PT.out.2.2.2.1.of2' (by omega) (fun x h1 h2 => T2.out x (by omega))
            have Z := parts_end (by omega) (by omega) PT.out.1 PT.out.2.2.2.2.2 T2 O2 T3 O3
            go_wp2
            all_goals
              go_end0
              exact ⟨rfl, f2, S3, Z.1, Z.2⟩
        · rcases (show (mid < mid + m - s ∧ mid + m - s < b) ∨ ¬ mid < mid + m - s ∨ (mid < mid + m - s ∧ ¬ mid + m - s < b) by omega) with g3 | g3 | g3
          · have q1 : (s : Int) < (m : Int) := by omega
            have q2 : ¬ (m : Int) < (mid : Int) + (m : Int) - (s : Int) := by omega
            have PT : Aside _ := cut_parts C.out HA.out HB.out (by omega) (cut_still C.out (by omega))
            have hfs := hds
            have q3 : ¬ (a : Int) < (s : Int) := by omega
            have T2 : Stab a mid d d := Stab.refl _ _ _
            have O2 : SrtM d a mid := PT.out.2.2.1.of2 (by omega) (fun _ _ _ => rfl)
            have hf2s : d.size = d0.size := T2.size.trans hfs
            have q5 : (mid : Int) < (mid : Int) + (m : Int) - (s : Int) := by omega
            have q6 : (mid : Int) + (m : Int) - (s : Int) < (b : Int) := by omega
            have hcall3 := IH.out mid (mid + m - s) b d _ (by omega) hf2s S1.out (by omega) (by omega) (by omega) (PT.out.2.2.2.1.of fun x h1 h2 => T2.out x (by omega)) (PT.out.2.2.2.2.1.of fun x h1 h2 => T2.out x (by omega))
            rw [show ((mid + m - s : Nat) : Int) = (mid : Int) + (m : Int) - (s : Int) by omega] at hcall3
            go_wp2_with fail
            refine hcall3.mono ?_
            rintro e w3 ⟨rfl, f3, S4, T3, O3⟩
            clear hcall3
            have Z := parts_end (by omega) (by omega) PT.out.1 PT.out.2.2.2.2.2 T2 O2 T3 O3
            go_wp2
            all_goals
              go_end0
              exact ⟨rfl, f3, S4, Z.1, Z.2⟩
          · have q1 : (s : Int) < (m : Int) := by omega
            have q2 : ¬ (m : Int) < (mid : Int) + (m : Int) - (s : Int) := by omega
            have PT : Aside _ := cut_parts C.out HA.out HB.out (by omega) (cut_still C.out (by omega))
            have hfs := hds
            have q3 : ¬ (a : Int) < (s : Int) := by omega
            have T2 : Stab a mid d d := Stab.refl _ _ _
            have O2 : SrtM d a mid := PT.out.2.2.1.of2 (by omega) (fun _ _ _ => rfl)
            have hf2s : d.size = d0.size := T2.size.trans hfs
            have q5 : ¬ (mid : Int) < (mid : Int) + (m : Int) - (s : Int) := by omega
            have T3 : Stab mid b d d := Stab.refl _ _ _
            have O3 : SrtM d mid b := PT.out.2.2.2.2.1.of2 (by omega) (fun x h1 h2 => T2.out x (by omega))
            have Z := parts_end (by omega) (by omega) PT.out.1 PT.out.2.2.2.2.2 T2 O2 T3 O3
            go_wp2
            all_goals
              go_end0
              exact ⟨rfl, d, S1.out, Z.1, Z.2⟩
          · have q1 : (s : Int) < (m : Int) := by omega
            have q2 : ¬ (m : Int) < (mid : Int) + (m : Int) - (s : Int) := by omega
            have PT : Aside _ := cut_parts C.out HA.out HB.out (by omega) (cut_still C.out (by omega))
            have hfs := hds
            have q3 : ¬ (a : Int) < (s : Int) := by omega
            have T2 : Stab a mid d d := Stab.refl _ _ _
            have O2 : SrtM d a mid := PT.out.2.2.1.of2 (by omega) (fun _ _ _ => rfl)
            have hf2s : d.size = d0.size := T2.size.trans hfs
            have q5 : (mid : Int) < (mid : Int) + (m : Int) - (s : Int) := by omega
            have q6 : ¬ (mid : Int) + (m : Int) - (s : Int) < (b : Int) := by omega
            have T3 : Stab mid b d d := Stab.refl _ _ _
            have O3 : SrtM d mid b := PT.out.2.2.2.1.of2' (by omega) (fun x h1 h2 => T2.out x (by omega))
            have Z := parts_end (by omega) (by omega) PT.out.1 PT.out.2.2.2.2.2 T2 O2 T3 O3
            go_wp2
            all_goals
              go_end0
              exact ⟨rfl, d, S1.out, Z.1, Z.2⟩
        · rcases (show (mid < mid + m - s ∧ mid + m - s < b) ∨ ¬ mid < mid + m - s ∨ (mid < mid + m - s ∧ ¬ mid + m - s < b) by omega) with g3 | g3 | g3
          · have q1 : (s : Int) < (m : Int) := by omega
            have q2 : ¬ (m : Int) < (mid : Int) + (m : Int) - (s : Int) := by omega
            have PT : Aside _ := cut_parts C.out HA.out HB.out (by omega) (cut_still C.out (by omega))
            have hfs := hds
            have q3 : (a : Int) < (s : Int) := by omega
            have q4 : ¬ (s : Int) < (mid : Int) := by omega
            have T2 : Stab a mid d d := Stab.refl _ _ _
            have O2 : SrtM d a mid := PT.out.2.1.of2' (by omega) (fun _ _ _ => rfl)
            have hf2s : d.size = d0.size := T2.size.trans hfs
            have q5 : (mid : Int) < (mid : Int) + (m : Int) - (s : Int) := by omega
            have q6 : (mid : Int) + (m : Int) - (s : Int) < (b : Int) := by omega
            have hcall3 := IH.out mid (mid + m - s) b d _ (by omega) hf2s S1.out (by omega) (by omega) (by omega) (PT.out.2.2.2.1.of fun x h1 h2 => T2.out x (by omega)) (PT.out.2.2.2.2.1.of fun x h1 h2 => T2.out x (by omega))
            rw [show ((mid + m - s : Nat) : Int) = (mid : Int) + (m : Int) - (s : Int) by omega] at hcall3
            go_wp2_with fail
            refine hcall3.mono ?_
            rintro e w3 ⟨rfl, f3, S4, T3, O3⟩
            clear hcall3
            have Z := parts_end (by omega) (by omega) PT.out.1 PT.out.2.2.2.2.2 T2 O2 T3 O3
            go_wp2
            all_goals
              go_end0
              exact ⟨rfl, f3, S4, Z.1, Z.2⟩
          · have q1 : (s : Int) < (m : Int) := by omega
            have q2 : ¬ (m : Int) < (mid : Int) + (m : Int) - (s : Int) := by omega
            have PT : Aside _ := cut_parts C.out HA.out HB.out (by omega) (cut_still C.out (by omega))
            have hfs := hds
            have q3 : (a : Int) < (s : Int) := by omega
            have q4 : ¬ (s : Int) < (mid : Int) := by omega
            have T2 : Stab a mid d d := Stab.refl _ _ _
            have O2 : SrtM d a mid := PT.out.2.1.of2' (by omega) (fun _ _ _ => rfl)
            have hf2s : d.size = d0.size := T2.size.trans hfs
            have q5 : ¬ (mid : Int) < (mid : Int) + (m : Int) - (s : Int) := by omega
            have T3 : Stab mid b d d := Stab.refl _ _ _
            have O3 : SrtM d mid b := PT.out.2.2.2.2.1.of2 (by omega) (fun x h1 h2 => T2.out x (by omega))
            have Z := parts_end (by omega) (by omega) PT.out.1 PT.out.2.2.2.2.2 T2 O2 T3 O3
            go_wp2
            all_goals
              go_end0
              exact ⟨rfl, d, S1.out, Z.1, Z.2⟩
          · have q1 : (s : Int) < (m : Int) := by omega
            have q2 : ¬ (m : Int) < (mid : Int) + (m : Int) - (s : Int) := by omega
            have PT : Aside _ := cut_parts C.out HA.out HB.out (by omega) (cut_still C.out (by omega))
            have hfs := hds
            have q3 : (a : Int) < (s : Int) := by omega
            have q4 : ¬ (s : Int) < (mid : Int) := by omega
            have T2 : Stab a mid d d := Stab.refl _ _ _
            have O2 : SrtM d a mid := PT.out.2.1.of2' (by omega) (fun _ _ _ => rfl)
            have hf2s : d.size = d0.size := T2.size.trans hfs
            have q5 : (mid : Int) < (mid : Int) + (m : Int) - (s : Int) := by omega
            have q6 : ¬ (mid : Int) + (m : Int) - (s : Int) < (b : Int) := by omega
            have T3 : Stab mid b d d := Stab.refl _ _ _
            have O3 : SrtM d mid b := PT.out.2.2.2.1.of2' (by omega) (fun x h1 h2 => T2.out x (by omega))
            have Z := parts_end (by omega) (by omega) PT.out.1 PT.out.2.2.2.2.2 T2 O2 T3 O3
            go_wp2
            all_goals
              go_end0
              exact ⟨rfl, d, S1.out, Z.1, Z.2⟩

set_option maxHeartbeats 4000000 in
set_option maxRecDepth 1000000 in
theorem sym_cut_lo (L : SoLays P) (k : Nat) (aE : ∀ w, (isAgg 30).run P w = .ok true w) (zE : ∀ w, (Go.sizeOf 30).run P w = .ok k w) (enc : Mrk → List Value) (g : Nat) (cb : Array Value) (blk off cap : Nat) (d0 : Array Mrk) (w0 : World) (eg : ∀ args w, (callFunc g args).run P w = .ok (.enter g args) w) (hcmp : CmpLays P g cb enc k cfM blk off d0.size w0) (R : RowK enc k w0 blk off d0) (hsz : d0.size < 4611686018427387904)
    (n : Nat) (ih : SymP P enc k g cb blk off cap w0 d0.size n) (a m b mid : Nat) (d : Array Mrk) (w : World) (hn : b - a ≤ n + 1) (hds : d.size = d0.size) (S : SWK enc k w0 blk off d w) (ham : a + 1 < m) (hmb : m + 1 < b) (hb : b ≤ d0.size) (hA : SrtM d a m) (hB : SrtM d m b) (hmid : mid = (a + b) / 2) (hc : m ≤ mid) :
    Calls P 55 #[.slice (some ⟨blk, off, none⟩) d0.size cap, .int .i64 a, .int .i64 m, .int .i64 b, .func (.func g) #[] cb] w fun e w' => e = .returned (.tuple #[]) ∧ ∃ f, SWK enc k w0 blk off f w' ∧ Stab a b d f ∧ SrtM f a b := by
  have mixed := L.mixed; have t0 := L.t0; have a0 := L.a0; have z0 := L.z0; have v0 := L.v0; have t3 := L.t3; have a3 := L.a3; have z3 := L.z3; have v3 := L.v3; have t4 := L.t4; have a4 := L.a4; have z4 := L.z4; have v4 := L.v4; have t22 := L.t22; have a22 := L.a22; have z22 := L.z22; have v22 := L.v22; have t63 := L.t63; have a63 := L.a63; have z63 := L.z63; have v63 := L.v63; have t57 := L.t57; have a57 := L.a57; have z57 := L.z57; have v57 := L.v57
  have u0 := run_underlying L.t0; have u3 := run_underlying L.t3; have u4 := run_underlying L.t4; have u22 := run_underlying L.t22; have u57 := run_underlying L.t57
  have FG := L.fSym
  have eS : ∀ args w, (callFunc 58 args).run P w = .ok (.enter 58 args) w := enters_of L.fRot (by kernel_rfl) rfl
  have eY : ∀ args w, (callFunc 55 args).run P w = .ok (.enter 55 args) w := enters_of L.fSym (by kernel_rfl) rfl
  have HC : Aside _ := hcmp
  have S0 : Aside (SWK enc k w0 blk off d w) := S
  have HA : Aside (SrtM d a m) := hA
  have HB : Aside (SrtM d m b) := hB
  have LL : Aside (SoLays P) := L
  have AE : Aside (∀ w, (isAgg 30).run P w = .ok true w) := aE
  have ZE : Aside (∀ w, (Go.sizeOf 30).run P w = .ok k w) := zE
  have IH : Aside (SymP P enc k g cb blk off cap w0 d0.size n) := ih
  have hone : ((m : Int) - (a : Int) == 1) = false := by rw [beq_eq_false_iff_ne]; omega
  have hone2 : ((b : Int) - (m : Int) == 1) = false := by rw [beq_eq_false_iff_ne]; omega
  have emid : ((a : Int) + (b : Int)) / 2 = (mid : Int) := by omega
  have hway : ¬ (mid : Int) < (m : Int) := by omega
  have HM : Aside (mid = (a + b) / 2) := hmid
  obtain ⟨p, ep, ep1, ep2⟩ : ∃ p : Nat, (mid : Int) + (m : Int) - 1 = (p : Int) ∧ p + 1 ≤ mid + m ∧ mid + m ≤ p + 1 := ⟨mid + m - 1, by omega, by omega, by omega⟩
  have b1 : a < mid := by omega
  have b2 : mid < b := by omega
  clear hcmp S hA hB L ih hmid
  go_enter FG, Try.ntmps55
  go_wp2
  go_loopg [20, 21] ((m) - (a)) (fun kx s20 s21 wr => ∃ (s r : Nat), s20 = .int .i64 s ∧ s21 = .int .i64 r ∧ a ≤ s ∧ s ≤ r ∧ r ≤ m ∧ r - s ≤ kx ∧ Aside (SWK enc k w0 blk off d wr) ∧
    Aside ((∀ c, a ≤ c → c < s → (d[c]!).p ≤ (d[p - c]!).p) ∧ (∀ c, r ≤ c → c < m → (d[p - c]!).p < (d[c]!).p)))
  case atStart => exact ⟨a, m, by first | rfl | go_num | (congr 1; have := HM.out; omega), by first | rfl | go_num, Nat.le_refl _, by have := HM.out; omega, Nat.le_refl _, Nat.le_refl _, S0, (⟨fun c h1 h2 => by omega, fun c h1 h2 => by omega⟩ : (∀ c, a ≤ c → c < a → (d[c]!).p ≤ (d[p - c]!).p) ∧ (∀ c, m ≤ c → c < m → (d[p - c]!).p < (d[c]!).p))⟩
  case round =>
    clear S0
    obtain ⟨s, r, rfl, rfl, hs0, hsr, hr0, hkx, S1, I⟩ := hrel
    have hB0 : a + b ≥ mid + m ∧ a ≥ a ∧ mid + m ≤ m + b := by have := HM.out; omega
    by_cases hlt : s < r
    · have hltz : (s : Int) < (r : Int) := by omega
      obtain ⟨c, hcz, hc1, hc2⟩ : ∃ c : Nat, ((s : Int) + (r : Int)) / 2 = (c : Int) ∧ s ≤ c ∧ c < r := ⟨(s + r) / 2, by omega, by omega, by omega⟩
      obtain ⟨q, hqz, hq1, hq2⟩ : ∃ q : Nat, (p : Int) - (c : Int) = (q : Int) ∧ q + c ≤ p ∧ p ≤ q + c := ⟨p - c, by omega, by omega, by omega⟩
      by_cases hv : (d[q]!).p < (d[c]!).p
      · have hvA : Aside ((d[q]!).p < (d[c]!).p) := hv
        clear hv
        have e5a : ((q : Int)).toNat = q := by omega
        have p5a : (0 : Int) ≤ (q : Int) := by omega
        have b5a : (q : Int) < (d0.size : Int) := by omega
        have r5a : IntKind.i64.wrap ((q : Int)) = (q : Int) := by rw [IntKind.wrap_i64]; omega
        have e5b : ((c : Int)).toNat = c := by omega
        have p5b : (0 : Int) ≤ (c : Int) := by omega
        have b5b : (c : Int) < (d0.size : Int) := by omega
        have r5b : IntKind.i64.wrap ((c : Int)) = (c : Int) := by rw [IntKind.wrap_i64]; omega
        obtain ⟨x5, hx5⟩ : ∃ x, x = d[q]! := ⟨_, rfl⟩
        obtain ⟨y5, hy5⟩ : ∃ x, x = d[c]! := ⟨_, rfl⟩
        have l5a := S1.out.ld R (by omega) P (q) (by omega)
        have l5b := S1.out.ld R (by omega) P (c) (by omega)
        rw [← hx5] at l5a
        rw [← hy5] at l5b
        have hc5 := S1.out.cmp HC.out (by omega) x5 y5
        have hv5 : cfM x5 y5 < 0 := by rw [hx5, hy5]; exact cfM_neg.2 hvA.out
        have hd5 : decide (cfM x5 y5 < 0) = true := decide_eq_true hv5
        clear hx5 hy5
        go_wp2_with fail
        go_quiet_grown (first | (go_at_fn g; refine Calls.grown_of (hc5 _ _)))
        have S1n : Aside (SWK enc k w0 blk off d (grow (wr.drewN nq) osq)) := S1.out.grown nq osq
        clear l5a l5b hc5 S1
        generalize grow (wr.drewN nq) osq = wu at S1n ⊢
        clear nq osq
        go_wp2
        go_roundg (c - s)
        case measure => omega
        case rel =>
          have I2 : Aside ((∀ t, a ≤ t → t < s → (d[t]!).p ≤ (d[p - t]!).p) ∧ (∀ t, c ≤ t → t < m → (d[p - t]!).p < (d[t]!).p)) := ⟨I.out.1, fun t h1 h2 => Int.lt_of_le_of_lt (HB.out.le (by omega) (show p - t ≤ q by omega) (by omega)) (Int.lt_of_lt_of_le hvA.out (HA.out.le (by omega) h1 (by omega)))⟩
          exact ⟨s, c, rfl, by first | rfl | rw [hcz], hs0, by omega, by omega, Nat.le_refl _, S1n, I2⟩
      · have hvA : Aside ((d[c]!).p ≤ (d[q]!).p) := Int.not_lt.1 hv
        clear hv
        have e6a : ((q : Int)).toNat = q := by omega
        have p6a : (0 : Int) ≤ (q : Int) := by omega
        have b6a : (q : Int) < (d0.size : Int) := by omega
        have r6a : IntKind.i64.wrap ((q : Int)) = (q : Int) := by rw [IntKind.wrap_i64]; omega
        have e6b : ((c : Int)).toNat = c := by omega
        have p6b : (0 : Int) ≤ (c : Int) := by omega
        have b6b : (c : Int) < (d0.size : Int) := by omega
        have r6b : IntKind.i64.wrap ((c : Int)) = (c : Int) := by rw [IntKind.wrap_i64]; omega
        obtain ⟨x6, hx6⟩ : ∃ x, x = d[q]! := ⟨_, rfl⟩
        obtain ⟨y6, hy6⟩ : ∃ x, x = d[c]! := ⟨_, rfl⟩
        have l6a := S1.out.ld R (by omega) P (q) (by omega)
        have l6b := S1.out.ld R (by omega) P (c) (by omega)
        rw [← hx6] at l6a
        rw [← hy6] at l6b
        have hc6 := S1.out.cmp HC.out (by omega) x6 y6
        have hv6 : ¬ cfM x6 y6 < 0 := by rw [hx6, hy6]; exact fun h => Int.not_lt.2 hvA.out (cfM_neg.1 h)
        have hd6 : decide (cfM x6 y6 < 0) = false := decide_eq_false hv6
        clear hx6 hy6
        go_wp2_with fail
        go_quiet_grown (first | (go_at_fn g; refine Calls.grown_of (hc6 _ _)))
        have S1n : Aside (SWK enc k w0 blk off d (grow (wr.drewN nq) osq)) := S1.out.grown nq osq
        clear l6a l6b hc6 S1
        generalize grow (wr.drewN nq) osq = wu at S1n ⊢
        clear nq osq
        go_wp2
        go_roundg (r - (c + 1))
        case measure => omega
        case rel =>
          have I2 : Aside ((∀ t, a ≤ t → t < c + 1 → (d[t]!).p ≤ (d[p - t]!).p) ∧ (∀ t, r ≤ t → t < m → (d[p - t]!).p < (d[t]!).p)) := ⟨fun t h1 h2 => Int.le_trans (HA.out.le (by omega) (show t ≤ c by omega) (by omega)) (Int.le_trans hvA.out (HB.out.le (by omega) (show q ≤ p - t by omega) (by omega))), I.out.2⟩
          exact ⟨c + 1, r, by go_num, rfl, by omega, by omega, hr0, Nat.le_refl _, S1n, I2⟩
    · obtain rfl : s = r := by omega
      have C : Aside (CutS d a m b mid s) := cut_found HA.out HB.out (by omega) (by omega) HM.out (.inr ⟨hc, rfl, rfl⟩) hs0 hr0 (fun c h1 h2 => by have := I.out.1 c h1 h2; rwa [show p - c = mid + m - 1 - c by omega] at this) (fun h => by have := I.out.2 s (Nat.le_refl _) h; rwa [show p - s = mid + m - 1 - s by omega] at this)
      have C1 := C.out.lo; have C2 := C.out.sm; have C3 := C.out.smid; have C4 := C.out.e1; have C5 := C.out.e2; have C6 := C.out.emid
      clear I
      rcases (show (s < m ∧ m < mid + m - s) ∨ ¬ s < m ∨ (s < m ∧ ¬ m < mid + m - s) by omega) with g1 | g1 | g1
      · rcases (show (a < s ∧ s < mid) ∨ ¬ a < s ∨ (a < s ∧ ¬ s < mid) by omega) with g2 | g2 | g2
        · rcases (show (mid < mid + m - s ∧ mid + m - s < b) ∨ ¬ mid < mid + m - s ∨ (mid < mid + m - s ∧ ¬ mid + m - s < b) by omega) with g3 | g3 | g3
          · have q1 : (s : Int) < (m : Int) := by omega
            have q2 : (m : Int) < (mid : Int) + (m : Int) - (s : Int) := by omega
            have hcall := rotate_gen LL.out k AE.out ZE.out enc g cb blk off cap s m (mid + m - s) d0 d w0 wr R (by omega) S1.out (by omega) (by omega) (by omega) (by omega)
            rw [show ((mid + m - s : Nat) : Int) = (mid : Int) + (m : Int) - (s : Int) by omega, hds] at hcall
            clear S1
            go_wp2_with fail
            refine hcall.mono ?_
            rintro e w1 ⟨rfl, f, S2, H2⟩
            have PT : Aside _ := cut_parts C.out HA.out HB.out (by omega) H2
            have hfs : f.size = d0.size := H2.1.trans hds
            clear hcall H2
            have q3 : (a : Int) < (s : Int) := by omega
            have q4 : (s : Int) < (mid : Int) := by omega
            have hcall2 := IH.out a s mid f _ (by omega) hfs S2 (by omega) (by omega) (by omega) PT.out.2.1 PT.out.2.2.1
            go_wp2_with fail
            refine hcall2.mono ?_
            rintro e w2 ⟨rfl, f2, S3, T2, O2⟩
            clear hcall2
            have hf2s : f2.size = d0.size := T2.size.trans hfs
            have q5 : (mid : Int) < (mid : Int) + (m : Int) - (s : Int) := by omega
            have q6 : (mid : Int) + (m : Int) - (s : Int) < (b : Int) := by omega
            have hcall3 := IH.out mid (mid + m - s) b f2 _ (by omega) hf2s S3 (by omega) (by omega) (by omega) (PT.out.2.2.2.1.of fun x h1 h2 => T2.out x (by omega)) (PT.out.2.2.2.2.1.of fun x h1 h2 => T2.out x (by omega))
            rw [show ((mid + m - s : Nat) : Int) = (mid : Int) + (m : Int) - (s : Int) by omega] at hcall3
            go_wp2_with fail
            refine hcall3.mono ?_
            rintro e w3 ⟨rfl, f3, S4, T3, O3⟩
            clear hcall3
            have Z := parts_end (by omega) (by omega) PT.out.1 PT.out.2.2.2.2.2 T2 O2 T3 O3
            go_wp2
            all_goals
              go_end0
              exact ⟨rfl, f3, S4, Z.1, Z.2⟩
          · exfalso; omega
          · have q1 : (s : Int) < (m : Int) := by omega
            have q2 : (m : Int) < (mid : Int) + (m : Int) - (s : Int) := by omega
            have hcall := rotate_gen LL.out k AE.out ZE.out enc g cb blk off cap s m (mid + m - s) d0 d w0 wr R (by omega) S1.out (by omega) (by omega) (by omega) (by omega)
            rw [show ((mid + m - s : Nat) : Int) = (mid : Int) + (m : Int) - (s : Int) by omega, hds] at hcall
            clear S1
            go_wp2_with fail
            refine hcall.mono ?_
            rintro e w1 ⟨rfl, f, S2, H2⟩
            have PT : Aside _ := cut_parts C.out HA.out HB.out (by omega) H2
            have hfs : f.size = d0.size := H2.1.trans hds
            clear hcall H2
            have q3 : (a : Int) < (s : Int) := by omega
            have q4 : (s : Int) < (mid : Int) := by omega
            have hcall2 := IH.out a s mid f _ (by omega) hfs S2 (by omega) (by omega) (by omega) PT.out.2.1 PT.out.2.2.1
            go_wp2_with fail
            refine hcall2.mono ?_
            rintro e w2 ⟨rfl, f2, S3, T2, O2⟩
            clear hcall2
            have hf2s : f2.size = d0.size := T2.size.trans hfs
            have q5 : (mid : Int) < (mid : Int) + (m : Int) - (s : Int) := by omega
            have q6 : ¬ (mid : Int) + (m : Int) - (s : Int) < (b : Int) := by omega
            have T3 : Stab mid b f2 f2 := Stab.refl _ _ _
            have O3 : SrtM f2 mid b := PT.out.2.2.2.1.of2' (by omega) (fun x h1 h2 => T2.out x (by omega))
            have Z := parts_end (by omega) (by omega) PT.out.1 PT.out.2.2.2.2.2 T2 O2 T3 O3
            go_wp2
            all_goals
              go_end0
              exact ⟨rfl, f2, S3, Z.1, Z.2⟩
        · rcases (show (mid < mid + m - s ∧ mid + m - s < b) ∨ ¬ mid < mid + m - s ∨ (mid < mid + m - s ∧ ¬ mid + m - s < b) by omega) with g3 | g3 | g3
          · have q1 : (s : Int) < (m : Int) := by omega
            have q2 : (m : Int) < (mid : Int) + (m : Int) - (s : Int) := by omega
            have hcall := rotate_gen LL.out k AE.out ZE.out enc g cb blk off cap s m (mid + m - s) d0 d w0 wr R (by omega) S1.out (by omega) (by omega) (by omega) (by omega)
            rw [show ((mid + m - s : Nat) : Int) = (mid : Int) + (m : Int) - (s : Int) by omega, hds] at hcall
            clear S1
            go_wp2_with fail
            refine hcall.mono ?_
            rintro e w1 ⟨rfl, f, S2, H2⟩
            have PT : Aside _ := cut_parts C.out HA.out HB.out (by omega) H2
            have hfs : f.size = d0.size := H2.1.trans hds
            clear hcall H2
            have q3 : ¬ (a : Int) < (s : Int) := by omega
            have T2 : Stab a mid f f := Stab.refl _ _ _
            have O2 : SrtM f a mid := PT.out.2.2.1.of2 (by omega) (fun _ _ _ => rfl)
            have hf2s : f.size = d0.size := T2.size.trans hfs
            have q5 : (mid : Int) < (mid : Int) + (m : Int) - (s : Int) := by omega
            have q6 : (mid : Int) + (m : Int) - (s : Int) < (b : Int) := by omega
            have hcall3 := IH.out mid (mid + m - s) b f _ (by omega) hf2s S2 (by omega) (by omega) (by omega) (PT.out.2.2.2.1.of fun x h1 h2 => T2.out x (by omega)) (PT.out.2.2.2.2.1.of fun x h1 h2 => T2.out x (by omega))
            rw [show ((mid + m - s : Nat) : Int) = (mid : Int) + (m : Int) - (s : Int) by omega] at hcall3
            go_wp2_with fail
            refine hcall3.mono ?_
            rintro e w3 ⟨rfl, f3, S4, T3, O3⟩
            clear hcall3
            have Z := parts_end (by omega) (by omega) PT.out.1 PT.out.2.2.2.2.2 T2 O2 T3 O3
            go_wp2
            all_goals
              go_end0
              exact ⟨rfl, f3, S4, Z.1, Z.2⟩
          · exfalso; omega
          · have q1 : (s : Int) < (m : Int) := by omega
            have q2 : (m : Int) < (mid : Int) + (m : Int) - (s : Int) := by omega
            have hcall := rotate_gen LL.out k AE.out ZE.out enc g cb blk off cap s m (mid + m - s) d0 d w0 wr R (by omega) S1.out (by omega) (by omega) (by omega) (by omega)
            rw [show ((mid + m - s : Nat) : Int) = (mid : Int) + (m : Int) - (s : Int) by omega, hds] at hcall
            clear S1
            go_wp2_with fail
            refine hcall.mono ?_
            rintro e w1 ⟨rfl, f, S2, H2⟩
            have PT : Aside _ := cut_parts C.out HA.out HB.out (by omega) H2
            have hfs : f.size = d0.size := H2.1.trans hds
            clear hcall H2
            have q3 : ¬ (a : Int) < (s : Int) := by omega
            have T2 : Stab a mid f f := Stab.refl _ _ _
            have O2 : SrtM f a mid := PT.out.2.2.1.of2 (by omega) (fun _ _ _ => rfl)
            have hf2s : f.size = d0.size := T2.size.trans hfs
            have q5 : (mid : Int) < (mid : Int) + (m : Int) - (s : Int) := by omega
            have q6 : ¬ (mid : Int) + (m : Int) - (s : Int) < (b : Int) := by omega
            have T3 : Stab mid b f f := Stab.refl _ _ _
            have O3 : SrtM f mid b := PT.out.2.2.2.1.of2' (by omega) (fun x h1 h2 => T2.out x (by omega))
            have Z := parts_end (by omega) (by omega) PT.out.1 PT.out.2.2.2.2.2 T2 O2 T3 O3
            go_wp2
            all_goals
              go_end0
              exact ⟨rfl, f, S2, Z.1, Z.2⟩
        · rcases (show (mid < mid + m - s ∧ mid + m - s < b) ∨ ¬ mid < mid + m - s ∨ (mid < mid + m - s ∧ ¬ mid + m - s < b) by omega) with g3 | g3 | g3
          · exfalso; omega
          · exfalso; omega
          · exfalso; omega
      · rcases (show (a < s ∧ s < mid) ∨ ¬ a < s ∨ (a < s ∧ ¬ s < mid) by omega) with g2 | g2 | g2
        · rcases (show (mid < mid + m - s ∧ mid + m - s < b) ∨ ¬ mid < mid + m - s ∨ (mid < mid + m - s ∧ ¬ mid + m - s < b) by omega) with g3 | g3 | g3
          · have q1 : ¬ (s : Int) < (m : Int) := by omega
            have PT : Aside _ := cut_parts C.out HA.out HB.out (by omega) (cut_still C.out (by omega))
            have hfs := hds
            have q3 : (a : Int) < (s : Int) := by omega
            have q4 : (s : Int) < (mid : Int) := by omega
            have hcall2 := IH.out a s mid d _ (by omega) hfs S1.out (by omega) (by omega) (by omega) PT.out.2.1 PT.out.2.2.1
            go_wp2_with fail
            refine hcall2.mono ?_
            rintro e w2 ⟨rfl, f2, S3, T2, O2⟩
            clear hcall2
            have hf2s : f2.size = d0.size := T2.size.trans hfs
            have q5 : (mid : Int) < (mid : Int) + (m : Int) - (s : Int) := by omega
            have q6 : (mid : Int) + (m : Int) - (s : Int) < (b : Int) := by omega
            have hcall3 := IH.out mid (mid + m - s) b f2 _ (by omega) hf2s S3 (by omega) (by omega) (by omega) (PT.out.2.2.2.1.of fun x h1 h2 => T2.out x (by omega)) (PT.out.2.2.2.2.1.of fun x h1 h2 => T2.out x (by omega))
            rw [show ((mid + m - s : Nat) : Int) = (mid : Int) + (m : Int) - (s : Int) by omega] at hcall3
            go_wp2_with fail
            refine hcall3.mono ?_
            rintro e w3 ⟨rfl, f3, S4, T3, O3⟩
            clear hcall3
            have Z := parts_end (by omega) (by omega) PT.out.1 PT.out.2.2.2.2.2 T2 O2 T3 O3
            go_wp2
            all_goals
              go_end0
              exact ⟨rfl, f3, S4, Z.1, Z.2⟩
          · have q1 : ¬ (s : Int) < (m : Int) := by omega
            have PT : Aside _ := cut_parts C.out HA.out HB.out (by omega) (cut_still C.out (by omega))
            have hfs := hds
            have q3 : (a : Int) < (s : Int) := by omega
            have q4 : (s : Int) < (mid : Int) := by omega
            have hcall2 := IH.out a s mid d _ (by omega) hfs S1.out (by omega) (by omega) (by omega) PT.out.2.1 PT.out.2.2.1
            go_wp2_with fail
            refine hcall2.mono ?_
            rintro e w2 ⟨rfl, f2, S3, T2, O2⟩
            clear hcall2
            have hf2s : f2.size = d0.size := T2.size.trans hfs
            have q5 : ¬ (mid : Int) < (mid : Int) + (m : Int) - (s : Int) := by omega
            have T3 : Stab mid b f2 f2 := Stab.refl _ _ _
            have O3 : SrtM f2 mid b := PT.out.2.2.2.2.1.of2 (by omega) (fun x h1 h2 => T2.out x (by omega))
            have Z := parts_end (by omega) (by omega) PT.out.1 PT.out.2.2.2.2.2 T2 O2 T3 O3
            go_wp2
            all_goals
              go_end0
              exact ⟨rfl, f2, S3, Z.1, Z.2⟩
          · have q1 : ¬ (s : Int) < (m : Int) := by omega
            have PT : Aside _ := cut_parts C.out HA.out HB.out (by omega) (cut_still C.out (by omega))
            have hfs := hds
            have q3 : (a : Int) < (s : Int) := by omega
            have q4 : (s : Int) < (mid : Int) := by omega
            have hcall2 := IH.out a s mid d _ (by omega) hfs S1.out (by omega) (by omega) (by omega) PT.out.2.1 PT.out.2.2.1
            go_wp2_with fail
            refine hcall2.mono ?_
            rintro e w2 ⟨rfl, f2, S3, T2, O2⟩
            clear hcall2
            have hf2s : f2.size = d0.size := T2.size.trans hfs
            have q5 : (mid : Int) < (mid : Int) + (m : Int) - (s : Int) := by omega
            have q6 : ¬ (mid : Int) + (m : Int) - (s : Int) < (b : Int) := by omega
            have T3 : Stab mid b f2 f2 := Stab.refl _ _ _
            have O3 : SrtM f2 mid b := PT.out.2.2.2.1.of2' (by omega) (fun x h1 h2 => T2.out x (by omega))
            have Z := parts_end (by omega) (by omega) PT.out.1 PT.out.2.2.2.2.2 T2 O2 T3 O3
            go_wp2
            all_goals
              go_end0
              exact ⟨rfl, f2, S3, Z.1, Z.2⟩
        · rcases (show (mid < mid + m - s ∧ mid + m - s < b) ∨ ¬ mid < mid + m - s ∨ (mid < mid + m - s ∧ ¬ mid + m - s < b) by omega) with g3 | g3 | g3
          · have q1 : ¬ (s : Int) < (m : Int) := by omega
            have PT : Aside _ := cut_parts C.out HA.out HB.out (by omega) (cut_still C.out (by omega))
            have hfs := hds
            have q3 : ¬ (a : Int) < (s : Int) := by omega
            have T2 : Stab a mid d d := Stab.refl _ _ _
            have O2 : SrtM d a mid := PT.out.2.2.1.of2 (by omega) (fun _ _ _ => rfl)
            have hf2s : d.size = d0.size := T2.size.trans hfs
            have q5 : (mid : Int) < (mid : Int) + (m : Int) - (s : Int) := by omega
            have q6 : (mid : Int) + (m : Int) - (s : Int) < (b : Int) := by omega
            have hcall3 := IH.out mid (mid + m - s) b d _ (by omega) hf2s S1.out (by omega) (by omega) (by omega) (PT.out.2.2.2.1.of fun x h1 h2 => T2.out x (by omega)) (PT.out.2.2.2.2.1.of fun x h1 h2 => T2.out x (by omega))
            rw [show ((mid + m - s : Nat) : Int) = (mid : Int) + (m : Int) - (s : Int) by omega] at hcall3
            go_wp2_with fail
            refine hcall3.mono ?_
            rintro e w3 ⟨rfl, f3, S4, T3, O3⟩
            clear hcall3
            have Z := parts_end (by omega) (by omega) PT.out.1 PT.out.2.2.2.2.2 T2 O2 T3 O3
            go_wp2
            all_goals
              go_end0
              exact ⟨rfl, f3, S4, Z.1, Z.2⟩
          · have q1 : ¬ (s : Int) < (m : Int) := by omega
            have PT : Aside _ := cut_parts C.out HA.out HB.out (by omega) (cut_still C.out (by omega))
            have hfs := hds
            have q3 : ¬ (a : Int) < (s : Int) := by omega
            have T2 : Stab a mid d d := Stab.refl _ _ _
            have O2 : SrtM d a mid := PT.out.2.2.1.of2 (by omega) (fun _ _ _ => rfl)
            have hf2s : d.size = d0.size := T2.size.trans hfs
            have q5 : ¬ (mid : Int) < (mid : Int) + (m : Int) - (s : Int) := by omega
            have T3 : Stab mid b d d := Stab.refl _ _ _
            have O3 : SrtM d mid b := PT.out.2.2.2.2.1.of2 (by omega) (fun x h1 h2 => T2.out x (by omega))
            have Z := parts_end (by omega) (by omega) PT.out.1 PT.out.2.2.2.2.2 T2 O2 T3 O3
            go_wp2
            all_goals
              go_end0
              exact ⟨rfl, d, S1.out, Z.1, Z.2⟩
          · have q1 : ¬ (s : Int) < (m : Int) := by omega
            have PT : Aside _ := cut_parts C.out HA.out HB.out (by omega) (cut_still C.out (by omega))
            have hfs := hds
            have q3 : ¬ (a : Int) < (s : Int) := by omega
            have T2 : Stab a mid d d := Stab.refl _ _ _
            have O2 : SrtM d a mid := PT.out.2.2.1.of2 (by omega) (fun _ _ _ => rfl)
            have hf2s : d.size = d0.size := T2.size.trans hfs
            have q5 : (mid : Int) < (mid : Int) + (m : Int) - (s : Int) := by omega
            have q6 : ¬ (mid : Int) + (m : Int) - (s : Int) < (b : Int) := by omega
            have T3 : Stab mid b d d := Stab.refl _ _ _
            have O3 : SrtM d mid b := PT.out.2.2.2.1.of2' (by omega) (fun x h1 h2 => T2.out x (by omega))
            have Z := parts_end (by omega) (by omega) PT.out.1 PT.out.2.2.2.2.2 T2 O2 T3 O3
            go_wp2
            all_goals
              go_end0
              exact ⟨rfl, d, S1.out, Z.1, Z.2⟩
        · rcases (show (mid < mid + m - s ∧ mid + m - s < b) ∨ ¬ mid < mid + m - s ∨ (mid < mid + m - s ∧ ¬ mid + m - s < b) by omega) with g3 | g3 | g3
          · have q1 : ¬ (s : Int) < (m : Int) := by omega
            have PT : Aside _ := cut_parts C.out HA.out HB.out (by omega) (cut_still C.out (by omega))
            have hfs := hds
            have q3 : (a : Int) < (s : Int) := by omega
            have q4 : ¬ (s : Int) < (mid : Int) := by omega
            have T2 : Stab a mid d d := Stab.refl _ _ _
            have O2 : SrtM d a mid := PT.out.2.1.of2' (by omega) (fun _ _ _ => rfl)
            have hf2s : d.size = d0.size := T2.size.trans hfs
            have q5 : (mid : Int) < (mid : Int) + (m : Int) - (s : Int) := by omega
            have q6 : (mid : Int) + (m : Int) - (s : Int) < (b : Int) := by omega
            have hcall3 := IH.out mid (mid + m - s) b d _ (by omega) hf2s S1.out (by omega) (by omega) (by omega) (PT.out.2.2.2.1.of fun x h1 h2 => T2.out x (by omega)) (PT.out.2.2.2.2.1.of fun x h1 h2 => T2.out x (by omega))
            rw [show ((mid + m - s : Nat) : Int) = (mid : Int) + (m : Int) - (s : Int) by omega] at hcall3
            go_wp2_with fail
            refine hcall3.mono ?_
            rintro e w3 ⟨rfl, f3, S4, T3, O3⟩
            clear hcall3
            have Z := parts_end (by omega) (by omega) PT.out.1 PT.out.2.2.2.2.2 T2 O2 T3 O3
            go_wp2
            all_goals
              go_end0
              exact ⟨rfl, f3, S4, Z.1, Z.2⟩
          · have q1 : ¬ (s : Int) < (m : Int) := by omega
            have PT : Aside _ := cut_parts C.out HA.out HB.out (by omega) (cut_still C.out (by omega))
            have hfs := hds
            have q3 : (a : Int) < (s : Int) := by omega
            have q4 : ¬ (s : Int) < (mid : Int) := by omega
            have T2 : Stab a mid d d := Stab.refl _ _ _
            have O2 : SrtM d a mid := PT.out.2.1.of2' (by omega) (fun _ _ _ => rfl)
            have hf2s : d.size = d0.size := T2.size.trans hfs
            have q5 : ¬ (mid : Int) < (mid : Int) + (m : Int) - (s : Int) := by omega
            have T3 : Stab mid b d d := Stab.refl _ _ _
            have O3 : SrtM d mid b := PT.out.2.2.2.2.1.of2 (by omega) (fun x h1 h2 => T2.out x (by omega))
            have Z := parts_end (by omega) (by omega) PT.out.1 PT.out.2.2.2.2.2 T2 O2 T3 O3
            go_wp2
            all_goals
              go_end0
              exact ⟨rfl, d, S1.out, Z.1, Z.2⟩
          · have q1 : ¬ (s : Int) < (m : Int) := by omega
            have PT : Aside _ := cut_parts C.out HA.out HB.out (by omega) (cut_still C.out (by omega))
            have hfs := hds
            have q3 : (a : Int) < (s : Int) := by omega
            have q4 : ¬ (s : Int) < (mid : Int) := by omega
            have T2 : Stab a mid d d := Stab.refl _ _ _
            have O2 : SrtM d a mid := PT.out.2.1.of2' (by omega) (fun _ _ _ => rfl)
            have hf2s : d.size = d0.size := T2.size.trans hfs
            have q5 : (mid : Int) < (mid : Int) + (m : Int) - (s : Int) := by omega
            have q6 : ¬ (mid : Int) + (m : Int) - (s : Int) < (b : Int) := by omega
            have T3 : Stab mid b d d := Stab.refl _ _ _
            have O3 : SrtM d mid b := PT.out.2.2.2.1.of2' (by omega) (fun x h1 h2 => T2.out x (by omega))
            have Z := parts_end (by omega) (by omega) PT.out.1 PT.out.2.2.2.2.2 T2 O2 T3 O3
            go_wp2
            all_goals
              go_end0
              exact ⟨rfl, d, S1.out, Z.1, Z.2⟩
      · rcases (show (a < s ∧ s < mid) ∨ ¬ a < s ∨ (a < s ∧ ¬ s < mid) by omega) with g2 | g2 | g2
        · rcases (show (mid < mid + m - s ∧ mid + m - s < b) ∨ ¬ mid < mid + m - s ∨ (mid < mid + m - s ∧ ¬ mid + m - s < b) by omega) with g3 | g3 | g3
          · have q1 : (s : Int) < (m : Int) := by omega
            have q2 : ¬ (m : Int) < (mid : Int) + (m : Int) - (s : Int) := by omega
            have PT : Aside _ := cut_parts C.out HA.out HB.out (by omega) (cut_still C.out (by omega))
            have hfs := hds
            have q3 : (a : Int) < (s : Int) := by omega
            have q4 : (s : Int) < (mid : Int) := by omega
            have hcall2 := IH.out a s mid d _ (by omega) hfs S1.out (by omega) (by omega) (by omega) PT.out.2.1 PT.out.2.2.1
            go_wp2_with fail
            refine hcall2.mono ?_
            rintro e w2 ⟨rfl, f2, S3, T2, O2⟩
            clear hcall2
            have hf2s : f2.size = d0.size := T2.size.trans hfs
            have q5 : (mid : Int) < (mid : Int) + (m : Int) - (s : Int) := by omega
            have q6 : (mid : Int) + (m : Int) - (s : Int) < (b : Int) := by omega
            have hcall3 := IH.out mid (mid + m - s) b f2 _ (by omega) hf2s S3 (by omega) (by omega) (by omega) (PT.out.2.2.2.1.of fun x h1 h2 => T2.out x (by omega)) (PT.out.2.2.2.2.1.of fun x h1 h2 => T2.out x (by omega))
            rw [show ((mid + m - s : Nat) : Int) = (mid : Int) + (m : Int) - (s : Int) by omega] at hcall3
            go_wp2_with fail
            refine hcall3.mono ?_
            rintro e w3 ⟨rfl, f3, S4, T3, O3⟩
            clear hcall3
            have Z := parts_end (by omega) (by omega) PT.out.1 PT.out.2.2.2.2.2 T2 O2 T3 O3
            go_wp2
            all_goals
              go_end0
              exact ⟨rfl, f3, S4, Z.1, Z.2⟩
          · have q1 : (s : Int) < (m : Int) := by omega
            have q2 : ¬ (m : Int) < (mid : Int) + (m : Int) - (s : Int) := by omega
            have PT : Aside _ := cut_parts C.out HA.out HB.out (by omega) (cut_still C.out (by omega))
            have hfs := hds
            have q3 : (a : Int) < (s : Int) := by omega
            have q4 : (s : Int) < (mid : Int) := by omega
            have hcall2 := IH.out a s mid d _ (by omega) hfs S1.out (by omega) (by omega) (by omega) PT.out.2.1 PT.out.2.2.1
            go_wp2_with fail
            refine hcall2.mono ?_
            rintro e w2 ⟨rfl, f2, S3, T2, O2⟩
            clear hcall2
            have hf2s : f2.size = d0.size := T2.size.trans hfs
            have q5 : ¬ (mid : Int) < (mid : Int) + (m : Int) - (s : Int) := by omega
            have T3 : Stab mid b f2 f2 := Stab.refl _ _ _
            have O3 : SrtM f2 mid b := PT.out.2.2.2.2.1.of2 (by omega) (fun x h1 h2 => T2.out x (by omega))
            have Z := parts_end (by omega) (by omega) PT.out.1 PT.out.2.2.2.2.2 T2 O2 T3 O3
            go_wp2
            all_goals
              go_end0
              exact ⟨rfl, f2, S3, Z.1, Z.2⟩
          · have q1 : (s : Int) < (m : Int) := by omega
            have q2 : ¬ (m : Int) < (mid : Int) + (m : Int) - (s : Int) := by omega
            have PT : Aside _ := cut_parts C.out HA.out HB.out (by omega) (cut_still C.out (by omega))
            have hfs := hds
            have q3 : (a : Int) < (s : Int) := by omega
            have q4 : (s : Int) < (mid : Int) := by omega
            have hcall2 := IH.out a s mid d _ (by omega) hfs S1.out (by omega) (by omega) (by omega) PT.out.2.1 PT.out.2.2.1
            go_wp2_with fail
            refine hcall2.mono ?_
            rintro e w2 ⟨rfl, f2, S3, T2, O2⟩
            clear hcall2
            have hf2s : f2.size = d0.size := T2.size.trans hfs
            have q5 : (mid : Int) < (mid : Int) + (m : Int) - (s : Int) := by omega
            have q6 : ¬ (mid : Int) + (m : Int) - (s : Int) < (b : Int) := by omega
            have T3 : Stab mid b f2 f2 := Stab.refl _ _ _
            have O3 : SrtM f2 mid b := PT.out.2.2.2.1.of2' (by omega) (fun x h1 h2 => T2.out x (by omega))
            have Z := parts_end (by omega) (by omega) PT.out.1 PT.out.2.2.2.2.2 T2 O2 T3 O3
            go_wp2
            all_goals
              go_end0
              exact ⟨rfl, f2, S3, Z.1, Z.2⟩
        · rcases (show (mid < mid + m - s ∧ mid + m - s < b) ∨ ¬ mid < mid + m - s ∨ (mid < mid + m - s ∧ ¬ mid + m - s < b) by omega) with g3 | g3 | g3
          · have q1 : (s : Int) < (m : Int) := by omega
            have q2 : ¬ (m : Int) < (mid : Int) + (m : Int) - (s : Int) := by omega
            have PT : Aside _ := cut_parts C.out HA.out HB.out (by omega) (cut_still C.out (by omega))
            have hfs := hds
            have q3 : ¬ (a : Int) < (s : Int) := by omega
            have T2 : Stab a mid d d := Stab.refl _ _ _
            have O2 : SrtM d a mid := PT.out.2.2.1.of2 (by omega) (fun _ _ _ => rfl)
            have hf2s : d.size = d0.size := T2.size.trans hfs
            have q5 : (mid : Int) < (mid : Int) + (m : Int) - (s : Int) := by omega
            have q6 : (mid : Int) + (m : Int) - (s : Int) < (b : Int) := by omega
            have hcall3 := IH.out mid (mid + m - s) b d _ (by omega) hf2s S1.out (by omega) (by omega) (by omega) (PT.out.2.2.2.1.of fun x h1 h2 => T2.out x (by omega)) (PT.out.2.2.2.2.1.of fun x h1 h2 => T2.out x (by omega))
            rw [show ((mid + m - s : Nat) : Int) = (mid : Int) + (m : Int) - (s : Int) by omega] at hcall3
            go_wp2_with fail
            refine hcall3.mono ?_
            rintro e w3 ⟨rfl, f3, S4, T3, O3⟩
            clear hcall3
            have Z := parts_end (by omega) (by omega) PT.out.1 PT.out.2.2.2.2.2 T2 O2 T3 O3
            go_wp2
            all_goals
              go_end0
              exact ⟨rfl, f3, S4, Z.1, Z.2⟩
          · have q1 : (s : Int) < (m : Int) := by omega
            have q2 : ¬ (m : Int) < (mid : Int) + (m : Int) - (s : Int) := by omega
            have PT : Aside _ := cut_parts C.out HA.out HB.out (by omega) (cut_still C.out (by omega))
            have hfs := hds
            have q3 : ¬ (a : Int) < (s : Int) := by omega
            have T2 : Stab a mid d d := Stab.refl _ _ _
            have O2 : SrtM d a mid := PT.out.2.2.1.of2 (by omega) (fun _ _ _ => rfl)
            have hf2s : d.size = d0.size := T2.size.trans hfs
            have q5 : ¬ (mid : Int) < (mid : Int) + (m : Int) - (s : Int) := by omega
            have T3 : Stab mid b d d := Stab.refl _ _ _
            have O3 : SrtM d mid b := PT.out.2.2.2.2.1.of2 (by omega) (fun x h1 h2 => T2.out x (by omega))
            have Z := parts_end (by omega) (by omega) PT.out.1 PT.out.2.2.2.2.2 T2 O2 T3 O3
            go_wp2
            all_goals
              go_end0
              exact ⟨rfl, d, S1.out, Z.1, Z.2⟩
          · have q1 : (s : Int) < (m : Int) := by omega
            have q2 : ¬ (m : Int) < (mid : Int) + (m : Int) - (s : Int) := by omega
            have PT : Aside _ := cut_parts C.out HA.out HB.out (by omega) (cut_still C.out (by omega))
            have hfs := hds
            have q3 : ¬ (a : Int) < (s : Int) := by omega
            have T2 : Stab a mid d d := Stab.refl _ _ _
            have O2 : SrtM d a mid := PT.out.2.2.1.of2 (by omega) (fun _ _ _ => rfl)
            have hf2s : d.size = d0.size := T2.size.trans hfs
            have q5 : (mid : Int) < (mid : Int) + (m : Int) - (s : Int) := by omega
            have q6 : ¬ (mid : Int) + (m : Int) - (s : Int) < (b : Int) := by omega
            have T3 : Stab mid b d d := Stab.refl _ _ _
            have O3 : SrtM d mid b := PT.out.2.2.2.1.of2' (by omega) (fun x h1 h2 => T2.out x (by omega))
            have Z := parts_end (by omega) (by omega) PT.out.1 PT.out.2.2.2.2.2 T2 O2 T3 O3
            go_wp2
            all_goals
              go_end0
              exact ⟨rfl, d, S1.out, Z.1, Z.2⟩
        · rcases (show (mid < mid + m - s ∧ mid + m - s < b) ∨ ¬ mid < mid + m - s ∨ (mid < mid + m - s ∧ ¬ mid + m - s < b) by omega) with g3 | g3 | g3
          · have q1 : (s : Int) < (m : Int) := by omega
            have q2 : ¬ (m : Int) < (mid : Int) + (m : Int) - (s : Int) := by omega
            have PT : Aside _ := cut_parts C.out HA.out HB.out (by omega) (cut_still C.out (by omega))
            have hfs := hds
            have q3 : (a : Int) < (s : Int) := by omega
            have q4 : ¬ (s : Int) < (mid : Int) := by omega
            have T2 : Stab a mid d d := Stab.refl _ _ _
            have O2 : SrtM d a mid := PT.out.2.1.of2' (by omega) (fun _ _ _ => rfl)
            have hf2s : d.size = d0.size := T2.size.trans hfs
            have q5 : (mid : Int) < (mid : Int) + (m : Int) - (s : Int) := by omega
            have q6 : (mid : Int) + (m : Int) - (s : Int) < (b : Int) := by omega
            have hcall3 := IH.out mid (mid + m - s) b d _ (by omega) hf2s S1.out (by omega) (by omega) (by omega) (PT.out.2.2.2.1.of fun x h1 h2 => T2.out x (by omega)) (PT.out.2.2.2.2.1.of fun x h1 h2 => T2.out x (by omega))
            rw [show ((mid + m - s : Nat) : Int) = (mid : Int) + (m : Int) - (s : Int) by omega] at hcall3
            go_wp2_with fail
            refine hcall3.mono ?_
            rintro e w3 ⟨rfl, f3, S4, T3, O3⟩
            clear hcall3
            have Z := parts_end (by omega) (by omega) PT.out.1 PT.out.2.2.2.2.2 T2 O2 T3 O3
            go_wp2
            all_goals
              go_end0
              exact ⟨rfl, f3, S4, Z.1, Z.2⟩
          · have q1 : (s : Int) < (m : Int) := by omega
            have q2 : ¬ (m : Int) < (mid : Int) + (m : Int) - (s : Int) := by omega
            have PT : Aside _ := cut_parts C.out HA.out HB.out (by omega) (cut_still C.out (by omega))
            have hfs := hds
            have q3 : (a : Int) < (s : Int) := by omega
            have q4 : ¬ (s : Int) < (mid : Int) := by omega
            have T2 : Stab a mid d d := Stab.refl _ _ _
            have O2 : SrtM d a mid := PT.out.2.1.of2' (by omega) (fun _ _ _ => rfl)
            have hf2s : d.size = d0.size := T2.size.trans hfs
            have q5 : ¬ (mid : Int) < (mid : Int) + (m : Int) - (s : Int) := by omega
            have T3 : Stab mid b d d := Stab.refl _ _ _
            have O3 : SrtM d mid b := PT.out.2.2.2.2.1.of2 (by omega) (fun x h1 h2 => T2.out x (by omega))
            have Z := parts_end (by omega) (by omega) PT.out.1 PT.out.2.2.2.2.2 T2 O2 T3 O3
            go_wp2
            all_goals
              go_end0
              exact ⟨rfl, d, S1.out, Z.1, Z.2⟩
          · have q1 : (s : Int) < (m : Int) := by omega
            have q2 : ¬ (m : Int) < (mid : Int) + (m : Int) - (s : Int) := by omega
            have PT : Aside _ := cut_parts C.out HA.out HB.out (by omega) (cut_still C.out (by omega))
            have hfs := hds
            have q3 : (a : Int) < (s : Int) := by omega
            have q4 : ¬ (s : Int) < (mid : Int) := by omega
            have T2 : Stab a mid d d := Stab.refl _ _ _
            have O2 : SrtM d a mid := PT.out.2.1.of2' (by omega) (fun _ _ _ => rfl)
            have hf2s : d.size = d0.size := T2.size.trans hfs
            have q5 : (mid : Int) < (mid : Int) + (m : Int) - (s : Int) := by omega
            have q6 : ¬ (mid : Int) + (m : Int) - (s : Int) < (b : Int) := by omega
            have T3 : Stab mid b d d := Stab.refl _ _ _
            have O3 : SrtM d mid b := PT.out.2.2.2.1.of2' (by omega) (fun x h1 h2 => T2.out x (by omega))
            have Z := parts_end (by omega) (by omega) PT.out.1 PT.out.2.2.2.2.2 T2 O2 T3 O3
            go_wp2
            all_goals
              go_end0
              exact ⟨rfl, d, S1.out, Z.1, Z.2⟩

theorem sym_gen (L : SoLays P) (k : Nat) (aE : ∀ w, (isAgg 30).run P w = .ok true w) (zE : ∀ w, (Go.sizeOf 30).run P w = .ok k w) (enc : Mrk → List Value) (g : Nat) (cb : Array Value) (blk off cap : Nat) (d0 : Array Mrk) (w0 : World) (eg : ∀ args w, (callFunc g args).run P w = .ok (.enter g args) w) (hcmp : CmpLays P g cb enc k cfM blk off d0.size w0) (R : RowK enc k w0 blk off d0) (hsz : d0.size < 4611686018427387904) : ∀ n, SymP P enc k g cb blk off cap w0 d0.size n
  | 0 => fun a m b d w hn hds S ham hmb hb hA hB => by omega
  | n + 1 => fun a m b d w hn hds S ham hmb hb hA hB => by
    have ih := sym_gen L k aE zE enc g cb blk off cap d0 w0 eg hcmp R hsz n
    by_cases h1 : m = a + 1
    · exact sym_left L k aE zE enc g cb blk off cap d0 w0 eg hcmp R hsz a m b d w hds S h1 hmb hb hB
    by_cases h2 : b = m + 1
    · exact sym_right L k aE zE enc g cb blk off cap d0 w0 eg hcmp R hsz a m b d w hds S (by omega) h2 hb hA
    by_cases h3 : (a + b) / 2 < m
    · exact sym_cut_hi L k aE zE enc g cb blk off cap d0 w0 eg hcmp R hsz n ih a m b _ d w hn hds S (by omega) (by omega) hb hA hB rfl h3
    · exact sym_cut_lo L k aE zE enc g cb blk off cap d0 w0 eg hcmp R hsz n ih a m b _ d w hn hds S (by omega) (by omega) hb hA hB rfl (by omega)
end Go.Proofs.Ytimlfgjljnkbcaa
