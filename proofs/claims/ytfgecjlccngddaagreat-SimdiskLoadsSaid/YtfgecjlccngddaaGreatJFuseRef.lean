/-
  Joined: FuseRef.
-/
import Derived.Test.YtfgecjlccngddaaGreatRows
import Derived.Test.YtfgecjlccngddaaGreatJBase
namespace Go.Proofs.YtfgecjlccngddaaGreat
set_option linter.unusedSimpArgs false
set_option linter.unusedVariables false
open Go.RowKit
set_option linter.unusedVariables false

/-- The faults that there are (-1: none of that kind), and whether the power is off. -/
structure Fus where
  p : Int
  s : Int
  d : Int
  off : Bool
abbrev Fus.v (f : Fus) : Value := .agg #[.int .i64 f.p, .int .i64 f.s, .int .i64 f.d, .bool f.off]
def Fus.new : Fus := ⟨-1, -1, -1, false⟩
def low1 (n : Int) : Int := max (n - 1) (-1)
def Fus.arm (f : Fus) (k n : Int) : Fus × Bool :=
  if n < 0 then (f, false) else if k = 0 then (⟨-1, -1, -1, f.off⟩, true) else if k = 1 then ({ f with p := n }, true) else if k = 2 then ({ f with s := n }, true) else if k = 3 then ({ f with d := n }, true) else (f, false)
def Fus.call (f : Fus) (sync : Bool) : Fus × Int :=
  if f.off = true then (f, 14) else if f.d = 0 then (⟨f.p, f.s, -1, true⟩, 14)
  else if sync = true then (if f.s = 0 then (⟨f.p, -1, low1 f.d, f.off⟩, 13) else (⟨f.p, low1 f.s, low1 f.d, f.off⟩, 0))
  else (if f.p = 0 then (⟨-1, f.s, low1 f.d, f.off⟩, 13) else (⟨low1 f.p, f.s, low1 f.d, f.off⟩, 0))
/-- Each number is one that a fuse has. -/
def Fus.ok (f : Fus) : Prop := (-1 ≤ f.p ∧ f.p ≤ 9223372036854775807) ∧ (-1 ≤ f.s ∧ f.s ≤ 9223372036854775807) ∧ (-1 ≤ f.d ∧ f.d ≤ 9223372036854775807)
theorem low1_ok (n : Int) (h : -1 ≤ n ∧ n ≤ 9223372036854775807) : -1 ≤ low1 n ∧ low1 n ≤ 9223372036854775807 := by unfold low1; omega
theorem Fus.new_ok : Fus.new.ok := by unfold Fus.ok Fus.new; simp
theorem Fus.arm_ok (f : Fus) (k n : Int) (h : f.ok) (hn : n ≤ 9223372036854775807) : (f.arm k n).1.ok := by
  obtain ⟨h1, h2, h3⟩ := h
  unfold Fus.arm
  split
  · exact ⟨h1, h2, h3⟩
  · split
    · exact ⟨by simp, by simp, by simp⟩
    · split
      · exact ⟨⟨by show -1 ≤ n; omega, hn⟩, h2, h3⟩
      · split
        · exact ⟨h1, ⟨by show -1 ≤ n; omega, hn⟩, h3⟩
        · split
          · exact ⟨h1, h2, ⟨by show -1 ≤ n; omega, hn⟩⟩
          · exact ⟨h1, h2, h3⟩
theorem Fus.call_ok (f : Fus) (sync : Bool) (h : f.ok) : (f.call sync).1.ok := by
  obtain ⟨h1, h2, h3⟩ := h
  have m : (-1 : Int) ≤ -1 ∧ (-1 : Int) ≤ 9223372036854775807 := by omega
  unfold Fus.call
  split
  · exact ⟨h1, h2, h3⟩
  · split
    · exact ⟨h1, h2, m⟩
    · split
      · split
        · exact ⟨h1, m, low1_ok _ h3⟩
        · exact ⟨h1, low1_ok _ h2, low1_ok _ h3⟩
      · split
        · exact ⟨m, h2, low1_ok _ h3⟩
        · exact ⟨low1_ok _ h1, h2, low1_ok _ h3⟩

def RetFus (w : World) (r : Fus × Bool) (e : Ending) (w' : World) : Prop := e = .returned (.tuple #[r.1.v, .bool r.2]) ∧ Below w.heap.size w w'
def RetFusE (w : World) (r : Fus × Int) (e : Ending) (w' : World) : Prop := e = .returned (.tuple #[r.1.v, .int .i64 r.2]) ∧ Below w.heap.size w w'

set_option maxRecDepth 100000 in
set_option maxHeartbeats 400000 in
theorem rfnew_any (w : World) : Calls Tryz.prog 32 #[] w fun e w' => e = .returned Fus.new.v ∧ Below w.heap.size w w' := by
  go_enter Tryz.func32, Tryz.ntmps32
  go_wp2
  refine bodyPost_ret (v := Fus.new.v) (by simp [results, Tryz.results32, go_sem]; exact ⟨rfl, rfl, rfl, rfl⟩) rfl ⟨rfl, ?_⟩
  exact (Below.refl _ _).alloc (Nat.le_refl _) _

set_option maxRecDepth 100000 in
set_option maxHeartbeats 800000 in
theorem rfcall_off (p s d : Int) (sync : Bool) (p0 : -1 ≤ p) (p1 : p ≤ 9223372036854775807) (s0 : -1 ≤ s) (s1 : s ≤ 9223372036854775807) (d0 : -1 ≤ d) (d1 : d ≤ 9223372036854775807) (w : World) :
    Calls Tryz.prog 149 #[Fus.v ⟨p, s, d, true⟩, .bool sync] w (RetFusE w (Fus.call ⟨p, s, d, true⟩ sync)) := by
    have e : Fus.call ⟨p, s, d, true⟩ sync = (⟨p, s, d, true⟩, 14) := by
      unfold Fus.call
      rw [if_pos rfl]
    rw [e]; clear e
    go_enter Tryz.func149, Tryz.ntmps149
    go_wp2
    refine bodyPost_ret (v := .tuple #[Fus.v ⟨p, s, d, true⟩, .int .i64 14]) (by simp [results, Tryz.results149, go_sem]) rfl ⟨rfl, ?_⟩
    exact ((Below.refl _ _).alloc (Nat.le_refl _) _).alloc (by simp) _

set_option maxRecDepth 100000 in
set_option maxHeartbeats 800000 in
theorem rfcall_down (p s d : Int) (sync : Bool) (p0 : -1 ≤ p) (p1 : p ≤ 9223372036854775807) (s0 : -1 ≤ s) (s1 : s ≤ 9223372036854775807) (d0 : -1 ≤ d) (d1 : d ≤ 9223372036854775807) (h : d = 0) (w : World) :
    Calls Tryz.prog 149 #[Fus.v ⟨p, s, d, false⟩, .bool sync] w (RetFusE w (Fus.call ⟨p, s, d, false⟩ sync)) := by
    have e : Fus.call ⟨p, s, d, false⟩ sync = (⟨p, s, -1, true⟩, 14) := by
      unfold Fus.call
      rw [if_neg (by simp), if_pos h]
    rw [e]; clear e
    have t1 : (d == 0) = true := by simp [h]
    clear h d0 d1
    go_enter Tryz.func149, Tryz.ntmps149
    go_wp2
    refine bodyPost_ret (v := .tuple #[Fus.v ⟨p, s, -1, true⟩, .int .i64 14]) (by simp [results, Tryz.results149, go_sem]) rfl ⟨rfl, ?_⟩
    exact ((Below.refl _ _).alloc (Nat.le_refl _) _).alloc (by simp) _

set_option maxRecDepth 100000 in
set_option maxHeartbeats 800000 in
theorem rfcall_s00 (p s d : Int) (_x : Bool) (p0 : -1 ≤ p) (p1 : p ≤ 9223372036854775807) (s0 : -1 ≤ s) (s1 : s ≤ 9223372036854775807) (d0 : -1 ≤ d) (d1 : d ≤ 9223372036854775807) (hd : d = -1) (hv : s = 0) (w : World) :
    Calls Tryz.prog 149 #[Fus.v ⟨p, s, d, false⟩, .bool true] w (RetFusE w (Fus.call ⟨p, s, d, false⟩ true)) := by
    have e : Fus.call ⟨p, s, d, false⟩ true = (⟨p, -1, -1, false⟩, 13) := by
      unfold Fus.call
      have l1 : low1 d = -1 := by unfold low1; omega
      rw [if_neg (by simp), if_neg (show ¬ d = 0 by omega), if_pos rfl, if_pos hv]
      simp only [l1]
    rw [e]; clear e
    have t1 : (d == 0) = false := beq_eq_false_iff_ne.2 (by omega)
    have t2 : (s == 0) = true := by simp [hv]
    have u1 : d - 1 < -1 := by omega
    clear hd hv
    go_enter Tryz.func149, Tryz.ntmps149
    go_wp2
    refine bodyPost_ret (v := .tuple #[Fus.v ⟨p, -1, -1, false⟩, .int .i64 13]) (by simp [results, Tryz.results149, go_sem]) rfl ⟨rfl, ?_⟩
    exact ((Below.refl _ _).alloc (Nat.le_refl _) _).alloc (by simp) _

set_option maxRecDepth 100000 in
set_option maxHeartbeats 800000 in
theorem rfcall_s01 (p s d : Int) (_x : Bool) (p0 : -1 ≤ p) (p1 : p ≤ 9223372036854775807) (s0 : -1 ≤ s) (s1 : s ≤ 9223372036854775807) (d0 : -1 ≤ d) (d1 : d ≤ 9223372036854775807) (hd : d = -1) (hv : s = -1) (w : World) :
    Calls Tryz.prog 149 #[Fus.v ⟨p, s, d, false⟩, .bool true] w (RetFusE w (Fus.call ⟨p, s, d, false⟩ true)) := by
    have e : Fus.call ⟨p, s, d, false⟩ true = (⟨p, -1, -1, false⟩, 0) := by
      unfold Fus.call
      have l1 : low1 d = -1 := by unfold low1; omega
      have l2 : low1 s = -1 := by unfold low1; omega
      rw [if_neg (by simp), if_neg (show ¬ d = 0 by omega), if_pos rfl, if_neg (show ¬ s = 0 by omega)]
      simp only [l1, l2]
    rw [e]; clear e
    have t1 : (d == 0) = false := beq_eq_false_iff_ne.2 (by omega)
    have t2 : (s == 0) = false := beq_eq_false_iff_ne.2 (by omega)
    have u1 : d - 1 < -1 := by omega
    have u2 : s - 1 < -1 := by omega
    clear hd hv
    go_enter Tryz.func149, Tryz.ntmps149
    go_wp2
    refine bodyPost_ret (v := .tuple #[Fus.v ⟨p, -1, -1, false⟩, .int .i64 0]) (by simp [results, Tryz.results149, go_sem]) rfl ⟨rfl, ?_⟩
    exact ((Below.refl _ _).alloc (Nat.le_refl _) _).alloc (by simp) _

set_option maxRecDepth 100000 in
set_option maxHeartbeats 800000 in
theorem rfcall_s02 (p s d : Int) (_x : Bool) (p0 : -1 ≤ p) (p1 : p ≤ 9223372036854775807) (s0 : -1 ≤ s) (s1 : s ≤ 9223372036854775807) (d0 : -1 ≤ d) (d1 : d ≤ 9223372036854775807) (hd : d = -1) (hv : 1 ≤ s) (w : World) :
    Calls Tryz.prog 149 #[Fus.v ⟨p, s, d, false⟩, .bool true] w (RetFusE w (Fus.call ⟨p, s, d, false⟩ true)) := by
    have e : Fus.call ⟨p, s, d, false⟩ true = (⟨p, (s - 1), -1, false⟩, 0) := by
      unfold Fus.call
      have l1 : low1 d = -1 := by unfold low1; omega
      have l2 : low1 s = (s - 1) := by unfold low1; omega
      rw [if_neg (by simp), if_neg (show ¬ d = 0 by omega), if_pos rfl, if_neg (show ¬ s = 0 by omega)]
      simp only [l1, l2]
    rw [e]; clear e
    have t1 : (d == 0) = false := beq_eq_false_iff_ne.2 (by omega)
    have t2 : (s == 0) = false := beq_eq_false_iff_ne.2 (by omega)
    have u1 : d - 1 < -1 := by omega
    have u2 : -1 ≤ s - 1 := by omega
    clear hd hv
    go_enter Tryz.func149, Tryz.ntmps149
    go_wp2
    refine bodyPost_ret (v := .tuple #[Fus.v ⟨p, (s - 1), -1, false⟩, .int .i64 0]) (by simp [results, Tryz.results149, go_sem]) rfl ⟨rfl, ?_⟩
    exact ((Below.refl _ _).alloc (Nat.le_refl _) _).alloc (by simp) _

set_option maxRecDepth 100000 in
set_option maxHeartbeats 800000 in
theorem rfcall_s10 (p s d : Int) (_x : Bool) (p0 : -1 ≤ p) (p1 : p ≤ 9223372036854775807) (s0 : -1 ≤ s) (s1 : s ≤ 9223372036854775807) (d0 : -1 ≤ d) (d1 : d ≤ 9223372036854775807) (hd : 1 ≤ d) (hv : s = 0) (w : World) :
    Calls Tryz.prog 149 #[Fus.v ⟨p, s, d, false⟩, .bool true] w (RetFusE w (Fus.call ⟨p, s, d, false⟩ true)) := by
    have e : Fus.call ⟨p, s, d, false⟩ true = (⟨p, -1, (d - 1), false⟩, 13) := by
      unfold Fus.call
      have l1 : low1 d = (d - 1) := by unfold low1; omega
      rw [if_neg (by simp), if_neg (show ¬ d = 0 by omega), if_pos rfl, if_pos hv]
      simp only [l1]
    rw [e]; clear e
    have t1 : (d == 0) = false := beq_eq_false_iff_ne.2 (by omega)
    have t2 : (s == 0) = true := by simp [hv]
    have u1 : -1 ≤ d - 1 := by omega
    clear hd hv
    go_enter Tryz.func149, Tryz.ntmps149
    go_wp2
    refine bodyPost_ret (v := .tuple #[Fus.v ⟨p, -1, (d - 1), false⟩, .int .i64 13]) (by simp [results, Tryz.results149, go_sem]) rfl ⟨rfl, ?_⟩
    exact ((Below.refl _ _).alloc (Nat.le_refl _) _).alloc (by simp) _

set_option maxRecDepth 100000 in
set_option maxHeartbeats 800000 in
theorem rfcall_s11 (p s d : Int) (_x : Bool) (p0 : -1 ≤ p) (p1 : p ≤ 9223372036854775807) (s0 : -1 ≤ s) (s1 : s ≤ 9223372036854775807) (d0 : -1 ≤ d) (d1 : d ≤ 9223372036854775807) (hd : 1 ≤ d) (hv : s = -1) (w : World) :
    Calls Tryz.prog 149 #[Fus.v ⟨p, s, d, false⟩, .bool true] w (RetFusE w (Fus.call ⟨p, s, d, false⟩ true)) := by
    have e : Fus.call ⟨p, s, d, false⟩ true = (⟨p, -1, (d - 1), false⟩, 0) := by
      unfold Fus.call
      have l1 : low1 d = (d - 1) := by unfold low1; omega
      have l2 : low1 s = -1 := by unfold low1; omega
      rw [if_neg (by simp), if_neg (show ¬ d = 0 by omega), if_pos rfl, if_neg (show ¬ s = 0 by omega)]
      simp only [l1, l2]
    rw [e]; clear e
    have t1 : (d == 0) = false := beq_eq_false_iff_ne.2 (by omega)
    have t2 : (s == 0) = false := beq_eq_false_iff_ne.2 (by omega)
    have u1 : -1 ≤ d - 1 := by omega
    have u2 : s - 1 < -1 := by omega
    clear hd hv
    go_enter Tryz.func149, Tryz.ntmps149
    go_wp2
    refine bodyPost_ret (v := .tuple #[Fus.v ⟨p, -1, (d - 1), false⟩, .int .i64 0]) (by simp [results, Tryz.results149, go_sem]) rfl ⟨rfl, ?_⟩
    exact ((Below.refl _ _).alloc (Nat.le_refl _) _).alloc (by simp) _

set_option maxRecDepth 100000 in
set_option maxHeartbeats 800000 in
theorem rfcall_s12 (p s d : Int) (_x : Bool) (p0 : -1 ≤ p) (p1 : p ≤ 9223372036854775807) (s0 : -1 ≤ s) (s1 : s ≤ 9223372036854775807) (d0 : -1 ≤ d) (d1 : d ≤ 9223372036854775807) (hd : 1 ≤ d) (hv : 1 ≤ s) (w : World) :
    Calls Tryz.prog 149 #[Fus.v ⟨p, s, d, false⟩, .bool true] w (RetFusE w (Fus.call ⟨p, s, d, false⟩ true)) := by
    have e : Fus.call ⟨p, s, d, false⟩ true = (⟨p, (s - 1), (d - 1), false⟩, 0) := by
      unfold Fus.call
      have l1 : low1 d = (d - 1) := by unfold low1; omega
      have l2 : low1 s = (s - 1) := by unfold low1; omega
      rw [if_neg (by simp), if_neg (show ¬ d = 0 by omega), if_pos rfl, if_neg (show ¬ s = 0 by omega)]
      simp only [l1, l2]
    rw [e]; clear e
    have t1 : (d == 0) = false := beq_eq_false_iff_ne.2 (by omega)
    have t2 : (s == 0) = false := beq_eq_false_iff_ne.2 (by omega)
    have u1 : -1 ≤ d - 1 := by omega
    have u2 : -1 ≤ s - 1 := by omega
    clear hd hv
    go_enter Tryz.func149, Tryz.ntmps149
    go_wp2
    refine bodyPost_ret (v := .tuple #[Fus.v ⟨p, (s - 1), (d - 1), false⟩, .int .i64 0]) (by simp [results, Tryz.results149, go_sem]) rfl ⟨rfl, ?_⟩
    exact ((Below.refl _ _).alloc (Nat.le_refl _) _).alloc (by simp) _

set_option maxRecDepth 100000 in
set_option maxHeartbeats 800000 in
theorem rfcall_p00 (p s d : Int) (_x : Bool) (p0 : -1 ≤ p) (p1 : p ≤ 9223372036854775807) (s0 : -1 ≤ s) (s1 : s ≤ 9223372036854775807) (d0 : -1 ≤ d) (d1 : d ≤ 9223372036854775807) (hd : d = -1) (hv : p = 0) (w : World) :
    Calls Tryz.prog 149 #[Fus.v ⟨p, s, d, false⟩, .bool false] w (RetFusE w (Fus.call ⟨p, s, d, false⟩ false)) := by
    have e : Fus.call ⟨p, s, d, false⟩ false = (⟨-1, s, -1, false⟩, 13) := by
      unfold Fus.call
      have l1 : low1 d = -1 := by unfold low1; omega
      rw [if_neg (by simp), if_neg (show ¬ d = 0 by omega), if_neg (by simp), if_pos hv]
      simp only [l1]
    rw [e]; clear e
    have t1 : (d == 0) = false := beq_eq_false_iff_ne.2 (by omega)
    have t2 : (p == 0) = true := by simp [hv]
    have u1 : d - 1 < -1 := by omega
    clear hd hv
    go_enter Tryz.func149, Tryz.ntmps149
    go_wp2
    refine bodyPost_ret (v := .tuple #[Fus.v ⟨-1, s, -1, false⟩, .int .i64 13]) (by simp [results, Tryz.results149, go_sem]) rfl ⟨rfl, ?_⟩
    exact ((Below.refl _ _).alloc (Nat.le_refl _) _).alloc (by simp) _

set_option maxRecDepth 100000 in
set_option maxHeartbeats 800000 in
theorem rfcall_p01 (p s d : Int) (_x : Bool) (p0 : -1 ≤ p) (p1 : p ≤ 9223372036854775807) (s0 : -1 ≤ s) (s1 : s ≤ 9223372036854775807) (d0 : -1 ≤ d) (d1 : d ≤ 9223372036854775807) (hd : d = -1) (hv : p = -1) (w : World) :
    Calls Tryz.prog 149 #[Fus.v ⟨p, s, d, false⟩, .bool false] w (RetFusE w (Fus.call ⟨p, s, d, false⟩ false)) := by
    have e : Fus.call ⟨p, s, d, false⟩ false = (⟨-1, s, -1, false⟩, 0) := by
      unfold Fus.call
      have l1 : low1 d = -1 := by unfold low1; omega
      have l2 : low1 p = -1 := by unfold low1; omega
      rw [if_neg (by simp), if_neg (show ¬ d = 0 by omega), if_neg (by simp), if_neg (show ¬ p = 0 by omega)]
      simp only [l1, l2]
    rw [e]; clear e
    have t1 : (d == 0) = false := beq_eq_false_iff_ne.2 (by omega)
    have t2 : (p == 0) = false := beq_eq_false_iff_ne.2 (by omega)
    have u1 : d - 1 < -1 := by omega
    have u2 : p - 1 < -1 := by omega
    clear hd hv
    go_enter Tryz.func149, Tryz.ntmps149
    go_wp2
    refine bodyPost_ret (v := .tuple #[Fus.v ⟨-1, s, -1, false⟩, .int .i64 0]) (by simp [results, Tryz.results149, go_sem]) rfl ⟨rfl, ?_⟩
    exact ((Below.refl _ _).alloc (Nat.le_refl _) _).alloc (by simp) _

set_option maxRecDepth 100000 in
set_option maxHeartbeats 800000 in
theorem rfcall_p02 (p s d : Int) (_x : Bool) (p0 : -1 ≤ p) (p1 : p ≤ 9223372036854775807) (s0 : -1 ≤ s) (s1 : s ≤ 9223372036854775807) (d0 : -1 ≤ d) (d1 : d ≤ 9223372036854775807) (hd : d = -1) (hv : 1 ≤ p) (w : World) :
    Calls Tryz.prog 149 #[Fus.v ⟨p, s, d, false⟩, .bool false] w (RetFusE w (Fus.call ⟨p, s, d, false⟩ false)) := by
    have e : Fus.call ⟨p, s, d, false⟩ false = (⟨(p - 1), s, -1, false⟩, 0) := by
      unfold Fus.call
      have l1 : low1 d = -1 := by unfold low1; omega
      have l2 : low1 p = (p - 1) := by unfold low1; omega
      rw [if_neg (by simp), if_neg (show ¬ d = 0 by omega), if_neg (by simp), if_neg (show ¬ p = 0 by omega)]
      simp only [l1, l2]
    rw [e]; clear e
    have t1 : (d == 0) = false := beq_eq_false_iff_ne.2 (by omega)
    have t2 : (p == 0) = false := beq_eq_false_iff_ne.2 (by omega)
    have u1 : d - 1 < -1 := by omega
    have u2 : -1 ≤ p - 1 := by omega
    clear hd hv
    go_enter Tryz.func149, Tryz.ntmps149
    go_wp2
    refine bodyPost_ret (v := .tuple #[Fus.v ⟨(p - 1), s, -1, false⟩, .int .i64 0]) (by simp [results, Tryz.results149, go_sem]) rfl ⟨rfl, ?_⟩
    exact ((Below.refl _ _).alloc (Nat.le_refl _) _).alloc (by simp) _

set_option maxRecDepth 100000 in
set_option maxHeartbeats 800000 in
theorem rfcall_p10 (p s d : Int) (_x : Bool) (p0 : -1 ≤ p) (p1 : p ≤ 9223372036854775807) (s0 : -1 ≤ s) (s1 : s ≤ 9223372036854775807) (d0 : -1 ≤ d) (d1 : d ≤ 9223372036854775807) (hd : 1 ≤ d) (hv : p = 0) (w : World) :
    Calls Tryz.prog 149 #[Fus.v ⟨p, s, d, false⟩, .bool false] w (RetFusE w (Fus.call ⟨p, s, d, false⟩ false)) := by
    have e : Fus.call ⟨p, s, d, false⟩ false = (⟨-1, s, (d - 1), false⟩, 13) := by
      unfold Fus.call
      have l1 : low1 d = (d - 1) := by unfold low1; omega
      rw [if_neg (by simp), if_neg (show ¬ d = 0 by omega), if_neg (by simp), if_pos hv]
      simp only [l1]
    rw [e]; clear e
    have t1 : (d == 0) = false := beq_eq_false_iff_ne.2 (by omega)
    have t2 : (p == 0) = true := by simp [hv]
    have u1 : -1 ≤ d - 1 := by omega
    clear hd hv
    go_enter Tryz.func149, Tryz.ntmps149
    go_wp2
    refine bodyPost_ret (v := .tuple #[Fus.v ⟨-1, s, (d - 1), false⟩, .int .i64 13]) (by simp [results, Tryz.results149, go_sem]) rfl ⟨rfl, ?_⟩
    exact ((Below.refl _ _).alloc (Nat.le_refl _) _).alloc (by simp) _

set_option maxRecDepth 100000 in
set_option maxHeartbeats 800000 in
theorem rfcall_p11 (p s d : Int) (_x : Bool) (p0 : -1 ≤ p) (p1 : p ≤ 9223372036854775807) (s0 : -1 ≤ s) (s1 : s ≤ 9223372036854775807) (d0 : -1 ≤ d) (d1 : d ≤ 9223372036854775807) (hd : 1 ≤ d) (hv : p = -1) (w : World) :
    Calls Tryz.prog 149 #[Fus.v ⟨p, s, d, false⟩, .bool false] w (RetFusE w (Fus.call ⟨p, s, d, false⟩ false)) := by
    have e : Fus.call ⟨p, s, d, false⟩ false = (⟨-1, s, (d - 1), false⟩, 0) := by
      unfold Fus.call
      have l1 : low1 d = (d - 1) := by unfold low1; omega
      have l2 : low1 p = -1 := by unfold low1; omega
      rw [if_neg (by simp), if_neg (show ¬ d = 0 by omega), if_neg (by simp), if_neg (show ¬ p = 0 by omega)]
      simp only [l1, l2]
    rw [e]; clear e
    have t1 : (d == 0) = false := beq_eq_false_iff_ne.2 (by omega)
    have t2 : (p == 0) = false := beq_eq_false_iff_ne.2 (by omega)
    have u1 : -1 ≤ d - 1 := by omega
    have u2 : p - 1 < -1 := by omega
    clear hd hv
    go_enter Tryz.func149, Tryz.ntmps149
    go_wp2
    refine bodyPost_ret (v := .tuple #[Fus.v ⟨-1, s, (d - 1), false⟩, .int .i64 0]) (by simp [results, Tryz.results149, go_sem]) rfl ⟨rfl, ?_⟩
    exact ((Below.refl _ _).alloc (Nat.le_refl _) _).alloc (by simp) _

set_option maxRecDepth 100000 in
set_option maxHeartbeats 800000 in
theorem rfcall_p12 (p s d : Int) (_x : Bool) (p0 : -1 ≤ p) (p1 : p ≤ 9223372036854775807) (s0 : -1 ≤ s) (s1 : s ≤ 9223372036854775807) (d0 : -1 ≤ d) (d1 : d ≤ 9223372036854775807) (hd : 1 ≤ d) (hv : 1 ≤ p) (w : World) :
    Calls Tryz.prog 149 #[Fus.v ⟨p, s, d, false⟩, .bool false] w (RetFusE w (Fus.call ⟨p, s, d, false⟩ false)) := by
    have e : Fus.call ⟨p, s, d, false⟩ false = (⟨(p - 1), s, (d - 1), false⟩, 0) := by
      unfold Fus.call
      have l1 : low1 d = (d - 1) := by unfold low1; omega
      have l2 : low1 p = (p - 1) := by unfold low1; omega
      rw [if_neg (by simp), if_neg (show ¬ d = 0 by omega), if_neg (by simp), if_neg (show ¬ p = 0 by omega)]
      simp only [l1, l2]
    rw [e]; clear e
    have t1 : (d == 0) = false := beq_eq_false_iff_ne.2 (by omega)
    have t2 : (p == 0) = false := beq_eq_false_iff_ne.2 (by omega)
    have u1 : -1 ≤ d - 1 := by omega
    have u2 : -1 ≤ p - 1 := by omega
    clear hd hv
    go_enter Tryz.func149, Tryz.ntmps149
    go_wp2
    refine bodyPost_ret (v := .tuple #[Fus.v ⟨(p - 1), s, (d - 1), false⟩, .int .i64 0]) (by simp [results, Tryz.results149, go_sem]) rfl ⟨rfl, ?_⟩
    exact ((Below.refl _ _).alloc (Nat.le_refl _) _).alloc (by simp) _

theorem rfcall_any (f : Fus) (h : f.ok) (sync : Bool) (w : World) : Calls Tryz.prog 149 #[f.v, .bool sync] w (RetFusE w (f.call sync)) := by
  obtain ⟨p, s, d, off⟩ := f
  obtain ⟨⟨p0, p1⟩, ⟨s0, s1⟩, ⟨d0, d1⟩⟩ := h
  simp only at p0 p1 s0 s1 d0 d1
  cases off with
  | true => exact rfcall_off p s d sync p0 p1 s0 s1 d0 d1 w
  | false =>
    rcases (show d = 0 ∨ d = -1 ∨ 1 ≤ d by omega) with hd | hd | hd
    · exact rfcall_down p s d sync p0 p1 s0 s1 d0 d1 hd w
    · cases sync with
      | true =>
        rcases (show s = 0 ∨ s = -1 ∨ 1 ≤ s by omega) with hv | hv | hv
        · exact rfcall_s00 p s d true p0 p1 s0 s1 d0 d1 hd hv w
        · exact rfcall_s01 p s d true p0 p1 s0 s1 d0 d1 hd hv w
        · exact rfcall_s02 p s d true p0 p1 s0 s1 d0 d1 hd hv w
      | false =>
        rcases (show p = 0 ∨ p = -1 ∨ 1 ≤ p by omega) with hv | hv | hv
        · exact rfcall_p00 p s d true p0 p1 s0 s1 d0 d1 hd hv w
        · exact rfcall_p01 p s d true p0 p1 s0 s1 d0 d1 hd hv w
        · exact rfcall_p02 p s d true p0 p1 s0 s1 d0 d1 hd hv w
    · cases sync with
      | true =>
        rcases (show s = 0 ∨ s = -1 ∨ 1 ≤ s by omega) with hv | hv | hv
        · exact rfcall_s10 p s d true p0 p1 s0 s1 d0 d1 hd hv w
        · exact rfcall_s11 p s d true p0 p1 s0 s1 d0 d1 hd hv w
        · exact rfcall_s12 p s d true p0 p1 s0 s1 d0 d1 hd hv w
      | false =>
        rcases (show p = 0 ∨ p = -1 ∨ 1 ≤ p by omega) with hv | hv | hv
        · exact rfcall_p10 p s d true p0 p1 s0 s1 d0 d1 hd hv w
        · exact rfcall_p11 p s d true p0 p1 s0 s1 d0 d1 hd hv w
        · exact rfcall_p12 p s d true p0 p1 s0 s1 d0 d1 hd hv w

set_option maxRecDepth 100000 in
set_option maxHeartbeats 1600000 in
theorem rfarm_any (f : Fus) (k n : Int) (w : World) : Calls Tryz.prog 110 #[f.v, .agg #[.int .i64 k, .int .i64 n]] w (RetFus w (f.arm k n)) := by
  obtain ⟨p, s, d, off⟩ := f
  by_cases hn : n < 0
  · have e : Fus.arm ⟨p, s, d, off⟩ k n = (⟨p, s, d, off⟩, false) := if_pos hn
    rw [e]; clear e
    go_enter Tryz.func110, Tryz.ntmps110
    go_wp2
    refine bodyPost_ret (v := .tuple #[Fus.v ⟨p, s, d, off⟩, .bool false]) (by simp [results, Tryz.results110, go_sem]) rfl ⟨rfl, ?_⟩
    exact (((Below.refl _ _).alloc (Nat.le_refl _) _).alloc (by simp) _).alloc (by simp; omega) _
  have h0 : 0 ≤ n := by omega
  rcases (show k = 0 ∨ k = 1 ∨ k = 2 ∨ k = 3 ∨ (¬ k = 0 ∧ ¬ k = 1 ∧ ¬ k = 2 ∧ ¬ k = 3) by omega) with rfl | rfl | rfl | rfl | ⟨k0, k1, k2, k3⟩
  · have e : Fus.arm ⟨p, s, d, off⟩ 0 n = (⟨-1, -1, -1, off⟩, true) := by unfold Fus.arm; rw [if_neg hn, if_pos rfl]
    rw [e]; clear e hn
    go_enter Tryz.func110, Tryz.ntmps110
    go_wp2
    refine bodyPost_ret (v := .tuple #[Fus.v ⟨-1, -1, -1, off⟩, .bool true]) (by simp [results, Tryz.results110, go_sem]) rfl ⟨rfl, ?_⟩
    exact (((Below.refl _ _).alloc (Nat.le_refl _) _).alloc (by simp) _).alloc (by simp; omega) _
  · have e : Fus.arm ⟨p, s, d, off⟩ 1 n = (⟨n, s, d, off⟩, true) := by unfold Fus.arm; rw [if_neg hn, if_neg (by omega), if_pos rfl]
    rw [e]; clear e hn
    go_enter Tryz.func110, Tryz.ntmps110
    go_wp2
    refine bodyPost_ret (v := .tuple #[Fus.v ⟨n, s, d, off⟩, .bool true]) (by simp [results, Tryz.results110, go_sem]) rfl ⟨rfl, ?_⟩
    exact (((Below.refl _ _).alloc (Nat.le_refl _) _).alloc (by simp) _).alloc (by simp; omega) _
  · have e : Fus.arm ⟨p, s, d, off⟩ 2 n = (⟨p, n, d, off⟩, true) := by unfold Fus.arm; rw [if_neg hn, if_neg (by omega), if_neg (by omega), if_pos rfl]
    rw [e]; clear e hn
    go_enter Tryz.func110, Tryz.ntmps110
    go_wp2
    refine bodyPost_ret (v := .tuple #[Fus.v ⟨p, n, d, off⟩, .bool true]) (by simp [results, Tryz.results110, go_sem]) rfl ⟨rfl, ?_⟩
    exact (((Below.refl _ _).alloc (Nat.le_refl _) _).alloc (by simp) _).alloc (by simp; omega) _
  · have e : Fus.arm ⟨p, s, d, off⟩ 3 n = (⟨p, s, n, off⟩, true) := by unfold Fus.arm; rw [if_neg hn, if_neg (by omega), if_neg (by omega), if_neg (by omega), if_pos rfl]
    rw [e]; clear e hn
    go_enter Tryz.func110, Tryz.ntmps110
    go_wp2
    refine bodyPost_ret (v := .tuple #[Fus.v ⟨p, s, n, off⟩, .bool true]) (by simp [results, Tryz.results110, go_sem]) rfl ⟨rfl, ?_⟩
    exact (((Below.refl _ _).alloc (Nat.le_refl _) _).alloc (by simp) _).alloc (by simp; omega) _
  · have e : Fus.arm ⟨p, s, d, off⟩ k n = (⟨p, s, d, off⟩, false) := by unfold Fus.arm; rw [if_neg hn, if_neg k0, if_neg k1, if_neg k2, if_neg k3]
    rw [e]
    have t0 : (k == 0) = false := beq_eq_false_iff_ne.2 k0
    have t1 : (k == 1) = false := beq_eq_false_iff_ne.2 k1
    have t2 : (k == 2) = false := beq_eq_false_iff_ne.2 k2
    have t3 : (k == 3) = false := beq_eq_false_iff_ne.2 k3
    clear e hn k0 k1 k2 k3
    go_enter Tryz.func110, Tryz.ntmps110
    go_wp2
    refine bodyPost_ret (v := .tuple #[Fus.v ⟨p, s, d, off⟩, .bool false]) (by simp [results, Tryz.results110, go_sem]) rfl ⟨rfl, ?_⟩
    exact (((Below.refl _ _).alloc (Nat.le_refl _) _).alloc (by simp) _).alloc (by simp; omega) _
end Go.Proofs.YtfgecjlccngddaaGreat
