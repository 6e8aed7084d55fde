/-
  The places that are come to: first, places, and what its function yields, as an iterator's contract (both ways to go on: by what fills up, by one byte).
-/
import Derived.Test.YtibbglmhcjnedaaDoorScanDev
import Derived.Test.YtibbglmhcjnedaaDoorRound
import Derived.LoopIn
import Derived.LoopNIn
import Derived.TacticsInMore
import Derived.OwnWalkIn
namespace Go.Proofs.YtibbglmhcjnedaaDoor
open Go.RowKit Go.Shelf
set_option linter.unusedVariables false
attribute [local go_sem] Oper.semAt_some

theorem tl_list (s : ByteArray) (k : Nat) : (s.extract k s.size).data.toList = s.data.toList.drop k := by
  rw [extract_list, List.take_of_length_le (by simp)]
/-- What first gives at a place: a frame in a block of its own, or none. -/
def FrP (l : List UInt8) (k : Nat) (p : Option Addr) (w : World) : Prop :=
  if okL l k then ∃ b, p = some ⟨b, 0, none⟩ ∧ Blk w b #[.int .i64 (frL l k).ep, .int .i64 (frL l k).sq, .string (frL l k).data] 40 else p = none
theorem FrP.onto {l : List UInt8} {k : Nat} {p : Option Addr} {w w' : World} (h : FrP l k p w) (hb : Below w.heap.size w w') : FrP l k p w' := by
  unfold FrP at h ⊢
  split at h
  · rename_i ho; rw [if_pos ho]; obtain ⟨b, e, hB⟩ := h; exact ⟨b, e, hB.onto hb⟩
  · rename_i ho; rw [if_neg ho]; exact h
def lenF (l : List UInt8) (k : Nat) : Nat := if okL l k then lnL l k else 0
theorem one_fr {s : ByteArray} {k : Nat} (h : okL s.data.toList k) :
    ((oneEp (s.extract k s.size) : Nat) : Int) = (frL s.data.toList k).ep ∧ ((oneSq (s.extract k s.size) : Nat) : Int) = (frL s.data.toList k).sq ∧ oneD (s.extract k s.size) = (frL s.data.toList k).data ∧ oneN (s.extract k s.size) = lnL s.data.toList k := by
  have e := tl_list s k
  have h0 : frmE (s.extract k s.size).data.toList = 0 := by rw [e]; exact h
  unfold oneEp oneSq oneD oneN
  rw [if_pos h0, if_pos h0, if_pos h0, if_pos h0, e]
  refine ⟨rfl, rfl, str_ext ?_, rfl⟩
  rw [extract_list, e]
  unfold frL datL
  show _ = (List.take _ _)
  rw [show 16 + leN (s.data.toList.drop k) 2 2 - 16 = leN (s.data.toList.drop k) 2 2 by omega]

set_option maxRecDepth 100000 in
set_option maxHeartbeats 400000 in
theorem sfirst_no (s : ByteArray) (hs : s.size ≤ maxLen) (h : frmE s.data.toList ≠ 0) (w : World) (hF : First w) :
    Calls Tryd.prog 33 #[.string s] w fun e w' => e = .returned (.tuple #[.pointer none, .int .i64 0]) ∧ Below w.heap.size w w' := by
  have c1 := fone_any s hs w hF
  obtain ⟨y1, hy1⟩ : ∃ y, oneEp s = y := ⟨_, rfl⟩
  obtain ⟨y2, hy2⟩ : ∃ y, oneSq s = y := ⟨_, rfl⟩
  obtain ⟨y3, hy3⟩ : ∃ y, oneD s = y := ⟨_, rfl⟩
  obtain ⟨y4, hy4⟩ : ∃ y, oneN s = y := ⟨_, rfl⟩
  obtain ⟨y5, hy5⟩ : ∃ y, frmE s.data.toList = y := ⟨_, rfl⟩
  rw [hy1, hy2, hy3, hy4, hy5] at c1
  rw [hy5] at h
  have q : ((y5 : Int) != 0) = true := by simp; omega
  have C1 := Lib.hid c1
  clear c1 hy1 hy2 hy3 hy4 hy5 hF h
  go_enter Tryd.func33, Tryd.ntmps33
  go_wp2_with fail
  refine C1.out.mono ?_; rintro e w1 ⟨rfl, hb1⟩
  have HW1 := Lib.hid (hb1.alloc hb1.size (.cells #[.int .i64 y1, .int .i64 y2, .string y3] 40))
  clear hb1
  go_wp2
  go_ret2
  exact ⟨rfl, HW1.out⟩
set_option maxRecDepth 100000 in
set_option maxHeartbeats 400000 in
theorem sfirst_yes (s : ByteArray) (hs : s.size ≤ maxLen) (h : frmE s.data.toList = 0) (w : World) (hF : First w) :
    Calls Tryd.prog 33 #[.string s] w fun e w' => ∃ b, e = .returned (.tuple #[.pointer (some ⟨b, 0, none⟩), .int .i64 (oneN s)]) ∧ Blk w' b #[.int .i64 (oneEp s), .int .i64 (oneSq s), .string (oneD s)] 40 ∧ Below w.heap.size w w' := by
  have c1 := fone_any s hs w hF
  obtain ⟨y1, hy1⟩ : ∃ y, oneEp s = y := ⟨_, rfl⟩
  obtain ⟨y2, hy2⟩ : ∃ y, oneSq s = y := ⟨_, rfl⟩
  obtain ⟨y3, hy3⟩ : ∃ y, oneD s = y := ⟨_, rfl⟩
  obtain ⟨y4, hy4⟩ : ∃ y, oneN s = y := ⟨_, rfl⟩
  rw [hy1, hy2, hy3, hy4, h] at c1
  rw [hy1, hy2, hy3, hy4]
  have C1 := Lib.hid c1
  clear c1 hy1 hy2 hy3 hy4 hF h
  go_enter Tryd.func33, Tryd.ntmps33
  go_wp2_with fail
  refine C1.out.mono ?_; rintro e w1 ⟨rfl, hb1⟩
  have HW1 := Lib.hid (hb1.alloc hb1.size (.cells #[.int .i64 y1, .int .i64 y2, .string y3] 40))
  have HB1 := Lib.hid (Blk.new w1 #[.int .i64 y1, .int .i64 y2, .string y3] 40)
  clear hb1
  go_wp2
  go_ret2
  exact ⟨_, rfl, HB1.out, HW1.out⟩
theorem sfirst_any (s : ByteArray) (hs : s.size ≤ maxLen) (k : Nat) (hk : k ≤ s.size) (w : World) (hF : First w) :
    Calls Tryd.prog 33 #[.string (s.extract k s.size)] w fun e w' => ∃ p, e = .returned (.tuple #[.pointer p, .int .i64 (lenF s.data.toList k : Nat)]) ∧ FrP s.data.toList k p w' ∧ Below w.heap.size w w' := by
  have hz : (s.extract k s.size).size ≤ maxLen := by have : (s.extract k s.size).size = s.size - k := by simp
                                                     unfold maxLen at *; omega
  by_cases h : okL s.data.toList k
  · have h0 : frmE (s.extract k s.size).data.toList = 0 := by rw [tl_list]; exact h
    obtain ⟨e1, e2, e3, e4⟩ := one_fr h
    refine (sfirst_yes _ hz h0 w hF).mono ?_
    rintro e w' ⟨b, rfl, hB, hb⟩
    rw [e1, e2, e3] at hB
    refine ⟨_, by unfold lenF; rw [if_pos h, e4], ?_, hb⟩
    unfold FrP
    rw [if_pos h]
    exact ⟨b, rfl, hB⟩
  · have h0 : frmE (s.extract k s.size).data.toList ≠ 0 := by rw [tl_list]; exact h
    refine (sfirst_no _ hz h0 w hF).mono ?_
    rintro e w' ⟨rfl, hb⟩
    refine ⟨none, by unfold lenF; rw [if_neg h]; rfl, ?_, hb⟩
    unfold FrP
    rw [if_neg h]

set_option maxRecDepth 100000 in
set_option maxHeartbeats 400000 in
theorem splaces_any (s : ByteArray) (f : FuncId) (w : World) :
    Calls Tryd.prog 23 #[.string s, .func (.func f) #[] #[]] w fun e w' =>
      e = .returned (.func (.func 32) #[] #[.pointer (some ⟨w.heap.size, 0, none⟩), .pointer (some ⟨w.heap.size + 1, 0, none⟩)]) ∧ w' = (w.alloc (.cells #[.string s] 9)).alloc (.cells #[.func (.func f) #[] #[]] 55) := by
  go_enter Tryd.func23, Tryd.ntmps23
  go_wp2
  go_ret
  exact ⟨rfl, rfl⟩

/-- Where it goes on behind a place. -/
def nxtK (step : Nat → Nat) (l : List UInt8) (k : Nat) : Option Nat := if okL l k then some (k + lnL l k) else if step k = 0 then none else some (k + step k)
/-- What a round keeps: what lay below n, the two boxes. -/
def KpB (n b1 b2 : Nat) (w w' : World) : Prop := Below n w w' ∧ w'.heap[b1]? = w.heap[b1]? ∧ w'.heap[b2]? = w.heap[b2]?

end Go.Proofs.YtibbglmhcjnedaaDoor
