/-
  The library's stable sort over rows of marks: the whole, of up to 40 marks, by the closure of the program.
-/
import Derived.Test.YtimlfgjljnkbcaaStabSym
import Derived.Test.YtimlfgjljnkbcaaMarkShelf
import Derived.Lib.OwnBridge
import Derived.Lib.AppendIntMem
namespace Go.Proofs.Ytimlfgjljnkbcaa
open Go.Shelf Go.RowKit
set_option linter.unusedVariables false

/-- A mark's two cells. -/
def encM (x : Mrk) : List Value := [.string x.name, .int .i64 x.p]
theorem rowM {w : World} {blk off : Nat} {d : Array Mrk} (h : Sort.HoldsK encM 2 w blk off d) (hblk : blk < w.heap.size) : RowK encM 2 w blk off d :=
  ⟨fun _ => rfl, fun x v hv => by simp [encM] at hv; rcases hv with rfl | rfl <;> rfl, h, hblk⟩

set_option maxHeartbeats 1000000 in
/-- The program's closure: it compares the places. -/
theorem less_any (x y : Mrk) (W : World) : Calls Try.prog 44 #[.agg #[.string x.name, .int .i64 x.p], .agg #[.string y.name, .int .i64 y.p]] W fun e w' => e = .returned (.int .i64 (cfM x y)) ∧ ∃ q os', w' = Sort.grow (W.drewN q) os' := by
  have hcon := fun W' => AnyG.cmp_Compare_int Try.mkCmp x.p y.p W'
  change ∀ W', Calls Try.prog 45 _ _ _ at hcon
  have e : Lib.compareInt x.p y.p = cfM x y := rfl
  rw [e] at hcon
  generalize cfM x y = r at hcon ⊢
  clear e
  go_enter Try.func44, Try.ntmps44
  go_wp2_with (go_at_call 45; refine (hcon _).mono ?_; rintro e w' ⟨rfl, rfl⟩)
  go_ret
  exact ⟨rfl, 0, _, by rw [Sort.alloc_eq_grow, Sort.alloc_eq_grow, Sort.grow_grow]; rfl⟩
theorem less_lays (blk off size : Nat) (w : World) : CmpLays Try.prog 44 #[] encM 2 cfM blk off size w := fun _ _ _ _ x y => less_any x y _
theorem less_enters : ∀ args w, (callFunc 44 args).run Try.prog w = .ok (.enter 44 args) w := enters_of Try.func44 (by kernel_rfl) rfl

/-- A block is sorted. -/
theorem insert_any (blk off cap a b : Nat) (d0 d : Array Mrk) (w0 w : World) (R : RowK encM 2 w0 blk off d0) (hs : d.size = d0.size) (S : SWK encM 2 w0 blk off d w) (hab : a ≤ b) (hb : b ≤ d0.size) (hsz : d0.size < 4611686018427387904) :
    Calls Try.prog 54 #[.slice (some ⟨blk, off, none⟩) d0.size cap, .int .i64 a, .int .i64 b, .func (.func 44) #[] #[]] w fun e w' => e = .returned (.tuple #[]) ∧ ∃ f, SWK encM 2 w0 blk off f w' ∧ Stab a b d f ∧ SrtM f a b := by
  have F := ins_stab d a b hab (by omega)
  have h := AnyQ.insertionSortCmpFunc Try.mkIns 2 Try.isAgg30 Try.sizeOf30 encM R.hk R.h1 cfM 44 #[] blk off cap a b d w less_enters (less_lays _ _ _ _) (S.holds R.hblk R.hH hs) (S.lt R.hblk) hab (by omega) (by omega)
  rw [hs] at h
  refine Calls.mono h ?_
  rintro e w' ⟨rfl, n, os, rfl⟩
  exact ⟨rfl, _, S.on R.hblk n _ os F.1.size, F.1, F.2⟩

/-- What is sorted: the row of w, behind the sort. -/
def Sorted40 (w : World) (blk off : Nat) (d : Array Mrk) (e : Ending) (w' : World) : Prop := e = .returned (.tuple #[]) ∧ ∃ f, SWK encM 2 w blk off f w' ∧ Stab 0 d.size d f ∧ SrtM f 0 d.size

set_option maxHeartbeats 2000000 in
set_option maxRecDepth 100000 in
theorem stable_any (blk off cap : Nat) (d : Array Mrk) (w : World) (hH : Sort.HoldsK encM 2 w blk off d) (hblk : blk < w.heap.size) (h40 : d.size ≤ 40) :
    Calls Try.prog 50 #[.slice (some ⟨blk, off, none⟩) d.size cap, .int .i64 d.size, .func (.func 44) #[] #[]] w (Sorted40 w blk off d) := by
  have R := rowM hH hblk
  have INS : ∀ (a b : Nat) (dk : Array Mrk) (W : World), dk.size = d.size → SWK encM 2 w blk off dk W → a ≤ b → b ≤ d.size →
      Calls Try.prog 54 #[.slice (some ⟨blk, off, none⟩) d.size cap, .int .i64 a, .int .i64 b, .func (.func 44) #[] #[]] W fun e w' => e = .returned (.tuple #[]) ∧ ∃ f, SWK encM 2 w blk off f w' ∧ Stab a b dk f ∧ SrtM f a b :=
    fun a b dk W h1 h2 h3 h4 => insert_any blk off cap a b d dk w W R h1 h2 h3 h4 (by omega)
  have SYM : ∀ (a m b : Nat) (dk : Array Mrk) (W : World), dk.size = d.size → SWK encM 2 w blk off dk W → a < m → m < b → b ≤ d.size → SrtM dk a m → SrtM dk m b →
      Calls Try.prog 55 #[.slice (some ⟨blk, off, none⟩) d.size cap, .int .i64 a, .int .i64 m, .int .i64 b, .func (.func 44) #[] #[]] W fun e w' => e = .returned (.tuple #[]) ∧ ∃ f, SWK encM 2 w blk off f w' ∧ Stab a b dk f ∧ SrtM f a b :=
    fun a m b dk W h1 h2 h3 h4 h5 h6 h7 => sym_gen so_lays 2 Try.isAgg30 Try.sizeOf30 encM 44 #[] blk off cap d w less_enters (less_lays _ _ _ _) R (by omega) (b - a) a m b dk W (Nat.le_refl _) h1 h2 h3 h4 h5 h6 h7
  have S0 := Lib.hid (SWK.start hH)
  have II := Lib.hid INS; have SY := Lib.hid SYM
  obtain ⟨n, hn⟩ : ∃ n, d.size = n := ⟨_, rfl⟩
  have HN := Lib.hid hn
  have RET : ∀ (f : Array Mrk) (w' : World), SWK encM 2 w blk off f w' → Stab 0 n d f → SrtM f 0 n → Sorted40 w blk off d (.returned (.tuple #[])) w' := fun f w' h1 h2 h3 => ⟨rfl, f, h1, by rw [HN.out]; exact h2, by rw [HN.out]; exact h3⟩
  have RR := Lib.hid RET
  rw [hn] at h40 ⊢
  clear INS SYM R hH hn RET
  by_cases c20 : n < 20
  · have i1 := II.out 0 n d w rfl S0.out (Nat.zero_le _) (by rw [HN.out]; exact Nat.le_refl _)
    rw [HN.out] at i1
    have I1 := Lib.hid i1; clear i1
    go_enter Try.func50, Try.ntmps50
    go_wp2
    refine wp_loop_rounds 1 ?_
    rw [rounds_succ]
    go_wp2_with fail
    refine I1.out.mono ?_
    rintro e w1 ⟨rfl, f, S1, T1, O1⟩
    have Z := Lib.hid (RR.out f w1 S1 T1 O1)
    clear S1 T1 O1
    go_wp2_with fail
    refine wp_loop_rounds 1 ?_
    rw [rounds_succ]
    go_wp2
    go_end0
    exact Z.out
  by_cases c40 : n = 40
  · subst c40
    have i1 := II.out 0 20 d w rfl S0.out (by omega) (by rw [HN.out]; omega)
    rw [HN.out] at i1
    have I1 := Lib.hid i1; clear i1 c20
    go_enter Try.func50, Try.ntmps50
    go_wp2
    refine wp_loop_rounds 3 ?_
    rw [rounds_succ]
    go_wp2_with fail
    refine I1.out.mono ?_
    rintro e w1 ⟨rfl, f1, S1, T1, O1⟩
    have i2 := II.out 20 40 f1 w1 (by have := T1.size; omega) S1 (by omega) (by rw [HN.out]; exact Nat.le_refl _)
    rw [HN.out] at i2
    have I2 := Lib.hid i2; have TT1 := Lib.hid T1; have OO1 := Lib.hid O1; clear i2 S1 T1 O1
    go_wp2_with fail
    rw [rounds_succ]
    go_wp2_with fail
    refine I2.out.mono ?_
    rintro e w2 ⟨rfl, f2, S2, T2, O2⟩
    have i3 := II.out 40 40 f2 w2 (by have := T2.size; have := TT1.out.size; omega) S2 (by omega) (by rw [HN.out]; exact Nat.le_refl _)
    rw [HN.out] at i3
    have I3 := Lib.hid i3; have TT2 := Lib.hid T2; have OO2 := Lib.hid O2; clear i3 S2 T2 O2
    go_wp2_with fail
    rw [rounds_succ]
    go_wp2_with fail
    refine I3.out.mono ?_
    rintro e w3 ⟨rfl, f3, S3, T3, O3⟩
    have s1 : SrtM f3 0 20 := (OO1.out.of fun x h1 h2 => TT2.out.out x (by omega)).of fun x h1 h2 => T3.out x (by omega)
    have s2 : SrtM f3 20 40 := OO2.out.of fun x h1 h2 => T3.out x (by omega)
    have st : Stab 0 40 d f3 := ((TT1.out.mono (Nat.le_refl _) (by omega)).trans (TT2.out.mono (by omega) (Nat.le_refl _))).trans (T3.mono (by omega) (Nat.le_refl _))
    have i4 := SY.out 0 20 40 f3 w3 (by have := st.size; omega) S3 (by omega) (by omega) (by rw [HN.out]; exact Nat.le_refl _) s1 s2
    rw [HN.out] at i4
    have I4 := Lib.hid i4; have ST := Lib.hid st; clear i4 S3 T3 O3 s1 s2 st
    go_wp2_with fail
    refine wp_loop_rounds 2 ?_
    rw [rounds_succ]
    go_wp2
    refine wp_loop_rounds 2 ?_
    rw [rounds_succ]
    go_wp2_with fail
    refine I4.out.mono ?_
    rintro e w4 ⟨rfl, f4, S4, T4, O4⟩
    have Z := Lib.hid (RR.out f4 w4 S4 (ST.out.trans T4) O4)
    clear S4 T4 O4
    go_wp2_with fail
    rw [rounds_succ]
    go_wp2_with fail
    rw [rounds_succ]
    go_wp2
    go_end0
    exact Z.out
  · have c39 : n < 40 := by omega
    have c20' : 20 ≤ n := by omega
    have i1 := II.out 0 20 d w rfl S0.out (by omega) (by rw [HN.out]; omega)
    rw [HN.out] at i1
    have I1 := Lib.hid i1; clear i1 c20 c40
    go_enter Try.func50, Try.ntmps50
    go_wp2
    refine wp_loop_rounds 2 ?_
    rw [rounds_succ]
    go_wp2_with fail
    refine I1.out.mono ?_
    rintro e w1 ⟨rfl, f1, S1, T1, O1⟩
    have i2 := II.out 20 n f1 w1 (by have := T1.size; omega) S1 (by omega) (by rw [HN.out]; exact Nat.le_refl _)
    rw [HN.out] at i2
    have I2 := Lib.hid i2; have TT1 := Lib.hid T1; have OO1 := Lib.hid O1; clear i2 S1 T1 O1
    go_wp2_with fail
    rw [rounds_succ]
    go_wp2_with fail
    refine I2.out.mono ?_
    rintro e w2 ⟨rfl, f2, S2, T2, O2⟩
    have s1 : SrtM f2 0 20 := OO1.out.of fun x h1 h2 => T2.out x (by omega)
    have st : Stab 0 n d f2 := (TT1.out.mono (Nat.le_refl _) (by omega)).trans (T2.mono (by omega) (Nat.le_refl _))
    by_cases e20 : n = 20
    · subst e20
      have Z := Lib.hid (RR.out f2 w2 S2 st s1)
      clear S2 T2 O2 s1 st
      go_wp2_with fail
      refine wp_loop_rounds 1 ?_
      rw [rounds_succ]
      go_wp2
      go_end0
      exact Z.out
    · have g20 : 20 < n := by omega
      have i4 := SY.out 0 20 n f2 w2 (by have := st.size; omega) S2 (by omega) (by omega) (by rw [HN.out]; exact Nat.le_refl _) s1 O2
      rw [HN.out] at i4
      have I4 := Lib.hid i4; have ST := Lib.hid st; clear i4 S2 T2 O2 s1 st e20
      go_wp2_with fail
      refine wp_loop_rounds 2 ?_
      rw [rounds_succ]
      go_wp2
      refine wp_loop_rounds 1 ?_
      rw [rounds_succ]
      go_wp2_with fail
      refine I4.out.mono ?_
      rintro e w4 ⟨rfl, f4, S4, T4, O4⟩
      have Z := Lib.hid (RR.out f4 w4 S4 (ST.out.trans T4) O4)
      clear S4 T4 O4
      go_wp2_with fail
      rw [rounds_succ]
      go_wp2
      go_end0
      exact Z.out
end Go.Proofs.Ytimlfgjljnkbcaa
