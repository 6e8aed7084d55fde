/-
  Joined: ChunkRef, ChunkRef2, ChunkDev, ChunkJoin, OpenOps.
-/
import Derived.Test.YtfiobemeogaaiaaGreatJUtfRTake
import Derived.Test.YtfiobemeogaaiaaGreatJOpenEd
import Derived.Test.YtfiobemeogaaiaaGreatJBlk
import Derived.Deep.QuietTactic
import Derived.BigQuiet
import Derived.Deep.RegionHeld3
import Derived.Test.YtfiobemeogaaiaaGreatJKnotMap
namespace Go.Proofs.YtfiobemeogaaiaaGreat
open Go.RowKit
set_option linter.unusedVariables false
theorem fits_short (s : ByteArray) (h : ¬ 1 ≤ s.size) : fitsB s = false := by unfold fitsB; rw [decide_eq_false h]; rfl
theorem fits_long (s : ByteArray) (h : ¬ s.size ≤ 16) : fitsB s = false := by unfold fitsB; rw [decide_eq_false h, Bool.false_and, Bool.and_false]
theorem fits_mid (s : ByteArray) (h1 : 1 ≤ s.size) (h2 : s.size ≤ 16) : fitsB s = vldB s.data.toList := by unfold fitsB; rw [decide_eq_true h1, decide_eq_true h2]; rfl
end Go.Proofs.YtfiobemeogaaiaaGreat
namespace Go.Proofs.YtfiobemeogaaiaaGreat
open Go.RowKit
set_option linter.unusedVariables false
set_option linter.unusedSimpArgs false
structure C2 (w : World) (p q : Addr) (u v : Value) (w' : World) : Prop where
  B : Below w.heap.size w w'
  p : w'.cell? p = some u
  q : w'.cell? q = some v
theorem C2.on {w w1 w2 : World} {p q : Addr} {u v : Value} (h : C2 w p q u v w1) (hp : p.block < w1.heap.size) (hq : q.block < w1.heap.size) (hb : Below w1.heap.size w1 w2) : C2 w p q u v w2 :=
  ⟨h.B.trans (hb.mono h.B.size), (hb.cell hp).trans h.p, (hb.cell hq).trans h.q⟩
theorem C2.drew {w w1 : World} {p q : Addr} {u v : Value} (h : C2 w p q u v w1) : C2 w p q u v w1.drew := ⟨h.B.drew, h.p, h.q⟩
end Go.Proofs.YtfiobemeogaaiaaGreat
namespace Go.Proofs.YtfiobemeogaaiaaGreat
open Lib (hid)
open Go.RowKit
set_option linter.unusedVariables false
theorem empty_yes {s : ByteArray} (h : s.size = 0) : s = ⟨#[]⟩ := by
  apply str_ext
  rw [List.eq_nil_of_length_eq_zero (l := s.data.toList) (by simpa using h)]
theorem toList_ne {s : ByteArray} (h : 1 ≤ s.size) : (s.toList != []) = true := by
  have e := isEmpty_size s
  rw [decide_eq_false (by omega)] at e
  cases hl : s.toList with
  | nil => rw [hl] at e; cases e
  | cons a l => rfl
theorem toList_isEmpty {s : ByteArray} (h : 1 ≤ s.size) : s.toList.isEmpty = false := by
  rw [isEmpty_size]; exact decide_eq_false (by omega)
set_option maxRecDepth 100000 in
theorem short_yes (s : ByteArray) (h : s.size ≤ 16) (w : World) :
    Calls Tryz.prog 119 #[.string s] w fun e w' => e = .returned (.bool true) ∧ w = w' := by
  go_enter Tryz.func119, Tryz.ntmps119
  go_wp2
  go_ret
  exact ⟨ret_bool (by simp; omega), rfl⟩
set_option maxRecDepth 100000 in
theorem short_no (s : ByteArray) (h : ¬ s.size ≤ 16) (w : World) :
    Calls Tryz.prog 119 #[.string s] w fun e w' => e = .returned (.bool false) ∧ w = w' := by
  go_enter Tryz.func119, Tryz.ntmps119
  go_wp2
  go_ret
  exact ⟨ret_bool (by simp; omega), rfl⟩
set_option maxRecDepth 100000 in
set_option maxHeartbeats 400000 in
theorem fits_any (s : ByteArray) (hs : s.size ≤ maxLen) (w : World) :
    Calls Tryz.prog 118 #[.string s] w fun e w' => e = .returned (.bool (fitsB s)) ∧ Below w.heap.size w w' := by
  have hv := valid_any s hs
  by_cases h1 : 1 ≤ s.size
  · have t1 := toList_ne h1
    have t2 := toList_isEmpty h1
    by_cases h2 : s.size ≤ 16
    · rw [fits_mid s h1 h2]
      have c1 := short_yes s h2
      obtain ⟨b, hb⟩ : ∃ b, vldB s.data.toList = b := ⟨_, rfl⟩
      rw [hb] at hv ⊢
      have HV := hid hv; have C1 := hid c1; clear hv hb c1
      go_enter Tryz.func118, Tryz.ntmps118
      go_wp2_with fail
      refine (C1.out _).mono ?_; rintro e w' ⟨rfl, rfl⟩
      go_wp2_with fail
      refine (HV.out _).mono ?_; rintro e w' ⟨rfl, hb1⟩
      go_wp2
      go_ret
      exact ⟨ret_bool (by simp), hb1⟩
    · rw [fits_long s h2]
      have c1 := short_no s h2
      have C1 := hid c1
      clear hv c1
      go_enter Tryz.func118, Tryz.ntmps118
      go_wp2_with fail
      refine (C1.out _).mono ?_; rintro e w' ⟨rfl, rfl⟩
      go_wp2
      go_ret
      exact ⟨ret_bool (by simp), Below.refl _ _⟩
  · rw [fits_short s h1]
    obtain rfl := empty_yes (s := s) (by omega)
    clear hv h1
    go_enter Tryz.func118, Tryz.ntmps118
    go_wp2
    go_ret
    exact ⟨ret_bool (by simp), Below.refl _ _⟩
set_option maxRecDepth 100000 in
set_option maxHeartbeats 400000 in
theorem half_any (s : ByteArray) (hs : s.size ≤ 1000000) (w : World) :
    Calls Tryz.prog 187 #[.string s] w fun e w' => e = .returned (.tuple #[.string (s.extract 0 (halfN s)), .string (s.extract (halfN s) s.size)]) ∧ Below w.heap.size w w' := by
  have hb := back_any s (by unfold maxLen; omega) ((s.size : Int) - (s.size : Int) / 2)
  have e : backI s.data.toList ((s.size : Int) - (s.size : Int) / 2) = halfN s := by
    rw [show (s.size : Int) - (s.size : Int) / 2 = (((s.size + 1) / 2 : Nat) : Int) by omega, backI_nat _ _ (by simp; omega)]
    rfl
  rw [e] at hb
  have hn := halfN_le s
  obtain ⟨n, hh⟩ : ∃ n, halfN s = n := ⟨_, rfl⟩
  rw [hh] at hb hn ⊢
  have HB := hid hb; clear hb hh e
  go_enter Tryz.func187, Tryz.ntmps187
  go_wp2_with fail
  refine (HB.out _).mono ?_; rintro e w' ⟨rfl, rfl⟩
  go_wp2
  go_quiet (fail)
  go_wp2
  go_ret2
  exact ⟨rfl, drewN_below (Below.refl _ _) _⟩
end Go.Proofs.YtfiobemeogaaiaaGreat
namespace Go.Proofs.YtfiobemeogaaiaaGreat
open Lib (hid)
open Go.RowKit
set_option linter.unusedVariables false
theorem join_nil {a b : ByteArray} (h : ¬ (fitsB a = true ∧ fitsB b = true)) : joinL a b = [] := by unfold joinL; rw [if_neg h]
theorem join_one {a b : ByteArray} (h : fitsB a = true ∧ fitsB b = true) (h1 : (a ++ b).size ≤ 16) : joinL a b = [a ++ b] := by unfold joinL; rw [if_pos h, if_pos h1]
theorem join_half {a b : ByteArray} (h : fitsB a = true ∧ fitsB b = true) (h1 : ¬ (a ++ b).size ≤ 16) (h2 : fitsB ((a ++ b).extract 0 (halfN (a ++ b))) = true ∧ fitsB ((a ++ b).extract (halfN (a ++ b)) (a ++ b).size) = true) :
    joinL a b = [(a ++ b).extract 0 (halfN (a ++ b)), (a ++ b).extract (halfN (a ++ b)) (a ++ b).size] := by unfold joinL; rw [if_pos h, if_neg h1, if_pos h2]
theorem join_same {a b : ByteArray} (h : fitsB a = true ∧ fitsB b = true) (h1 : ¬ (a ++ b).size ≤ 16) (h2 : ¬ (fitsB ((a ++ b).extract 0 (halfN (a ++ b))) = true ∧ fitsB ((a ++ b).extract (halfN (a ++ b)) (a ++ b).size) = true)) :
    joinL a b = [a, b] := by unfold joinL; rw [if_pos h, if_neg h1, if_neg h2]
theorem ret_nil {w w' : World} (h : Below w.heap.size w w') : RetStrs w [] (.returned (.slice none 0 0)) w' := ⟨none, 0, rfl, fun k hk => absurd hk (by simp), h⟩
theorem ret_one {w w1 : World} {x : ByteArray} {t : TypeId} (h : Below w.heap.size w w1) : RetStrs w [x] (.returned (.slice (some ⟨w1.heap.size, 0, none⟩) 1 1)) (w1.alloc (.cells #[.string x] t)) :=
  ⟨_, 1, rfl, strs_one (Below.refl _ _), h.alloc h.size _⟩
theorem ret_pair {w w1 : World} {x y : ByteArray} {t : TypeId} (h : Below w.heap.size w w1) : RetStrs w [x, y] (.returned (.slice (some ⟨w1.heap.size, 0, none⟩) 2 2)) (w1.alloc (.cells #[.string x, .string y] t)) :=
  ⟨_, 2, rfl, strs_two (Below.refl _ _), h.alloc h.size _⟩
set_option maxRecDepth 100000 in
set_option maxHeartbeats 800000 in
theorem join_any (a b : ByteArray) (ha : a.size ≤ 1000000) (hb : b.size ≤ 1000000) (w : World) :
    Calls Tryz.prog 170 #[.string a, .string b] w (RetStrs w (joinL a b)) := by
  have ca := fits_any a (by first | omega | (unfold maxLen; omega))
  have cb := fits_any b (by first | omega | (unfold maxLen; omega))
  have hb0 := Below.refl w.heap.size w
  by_cases h1 : fitsB a = true
  · by_cases h2 : fitsB b = true
    · have s1 := ((fitsB_iff _).1 h1).2.1
      have s2 := ((fitsB_iff _).1 h2).2.1
      have hz : (a ++ b).size = a.size + b.size := ByteArray.size_append
      by_cases h3 : (a ++ b).size ≤ 16
      · rw [join_one ⟨h1, h2⟩ h3]
        rw [h1] at ca
        rw [h2] at cb
        have d1 : a.size + b.size ≤ 16 := by omega
        have d2 : (a.size : Int) + (b.size : Int) ≤ 16 := by omega
        have CA := hid ca; have CB := hid cb; have CS := hid (short_yes (a ++ b) h3)
        clear ca cb h1 h2 h3 hz
        go_enter Tryz.func170, Tryz.ntmps170
        go_wp2_with fail
        refine (onward (w0 := w) hb0 (CA.out _)).mono ?_; rintro e w1 ⟨rfl, hb1⟩
        go_wp2_with fail
        refine (onward (w0 := w) hb1 (CB.out _)).mono ?_; rintro e w2 ⟨rfl, hb2⟩
        go_wp2_with fail
        refine (CS.out _).mono ?_; rintro e w9 ⟨rfl, rfl⟩
        go_wp2
        go_ret
        exact ret_one hb2
      · have ch := half_any (a ++ b) (by omega)
        have hx := piece_size (a ++ b) (halfN (a ++ b)) (halfN_le _)
        have hy := rest_size (a ++ b) (halfN (a ++ b))
        have hn := halfN_le (a ++ b)
        have cx := fits_any ((a ++ b).extract 0 (halfN (a ++ b))) (by first | omega | (unfold maxLen; omega))
        have cy := fits_any ((a ++ b).extract (halfN (a ++ b)) (a ++ b).size) (by first | omega | (unfold maxLen; omega))
        have j1 := fun h => join_half ⟨h1, h2⟩ h3 h
        have j2 := fun h => join_same ⟨h1, h2⟩ h3 h
        obtain ⟨x, hxx⟩ : ∃ x, (a ++ b).extract 0 (halfN (a ++ b)) = x := ⟨_, rfl⟩
        obtain ⟨y, hyy⟩ : ∃ y, (a ++ b).extract (halfN (a ++ b)) (a ++ b).size = y := ⟨_, rfl⟩
        simp only [hxx] at ch cx j1 j2
        simp only [hyy] at ch cy j1 j2
        rw [h1] at ca
        rw [h2] at cb
        have d1 : ¬ a.size + b.size ≤ 16 := by omega
        have d2 : ¬ (a.size : Int) + (b.size : Int) ≤ 16 := by omega
        have CA := hid ca; have CB := hid cb; have CH := hid ch; have CS := hid (short_no (a ++ b) h3)
        clear ca cb ch h1 h2 h3 hz hx hy hn hxx hyy
        by_cases g1 : fitsB x = true
        · rw [g1] at cx
          by_cases g2 : fitsB y = true
          · rw [j1 ⟨g1, g2⟩]
            rw [g2] at cy
            have CX := hid cx; have CY := hid cy
            clear cx cy g1 g2 j1 j2
            go_enter Tryz.func170, Tryz.ntmps170
            go_wp2_with fail
            refine (onward (w0 := w) hb0 (CA.out _)).mono ?_; rintro e w1 ⟨rfl, hb1⟩
            go_wp2_with fail
            refine (onward (w0 := w) hb1 (CB.out _)).mono ?_; rintro e w2 ⟨rfl, hb2⟩
            go_wp2_with fail
            refine (CS.out _).mono ?_; rintro e w9 ⟨rfl, rfl⟩
            go_wp2_with fail
            refine (onward (w0 := w) hb2 (CH.out _)).mono ?_; rintro e w3 ⟨rfl, hb3⟩
            go_wp2_with fail
            refine (onward (w0 := w) hb3 (CX.out _)).mono ?_; rintro e w4 ⟨rfl, hb4⟩
            go_wp2_with fail
            refine (onward (w0 := w) hb4 (CY.out _)).mono ?_; rintro e w5 ⟨rfl, hb5⟩
            go_wp2
            go_ret
            exact ret_pair hb5
          · rw [j2 (fun h => g2 h.2)]
            rw [Bool.eq_false_iff.2 g2] at cy
            have CX := hid cx; have CY := hid cy
            clear cx cy g1 g2 j1 j2
            go_enter Tryz.func170, Tryz.ntmps170
            go_wp2_with fail
            refine (onward (w0 := w) hb0 (CA.out _)).mono ?_; rintro e w1 ⟨rfl, hb1⟩
            go_wp2_with fail
            refine (onward (w0 := w) hb1 (CB.out _)).mono ?_; rintro e w2 ⟨rfl, hb2⟩
            go_wp2_with fail
            refine (CS.out _).mono ?_; rintro e w9 ⟨rfl, rfl⟩
            go_wp2_with fail
            refine (onward (w0 := w) hb2 (CH.out _)).mono ?_; rintro e w3 ⟨rfl, hb3⟩
            go_wp2_with fail
            refine (onward (w0 := w) hb3 (CX.out _)).mono ?_; rintro e w4 ⟨rfl, hb4⟩
            go_wp2_with fail
            refine (onward (w0 := w) hb4 (CY.out _)).mono ?_; rintro e w5 ⟨rfl, hb5⟩
            go_wp2
            go_ret
            exact ret_pair hb5
        · rw [j2 (fun h => g1 h.1)]
          rw [Bool.eq_false_iff.2 g1] at cx
          have CX := hid cx
          clear cx cy g1 j1 j2
          go_enter Tryz.func170, Tryz.ntmps170
          go_wp2_with fail
          refine (onward (w0 := w) hb0 (CA.out _)).mono ?_; rintro e w1 ⟨rfl, hb1⟩
          go_wp2_with fail
          refine (onward (w0 := w) hb1 (CB.out _)).mono ?_; rintro e w2 ⟨rfl, hb2⟩
          go_wp2_with fail
          refine (CS.out _).mono ?_; rintro e w9 ⟨rfl, rfl⟩
          go_wp2_with fail
          refine (onward (w0 := w) hb2 (CH.out _)).mono ?_; rintro e w3 ⟨rfl, hb3⟩
          go_wp2_with fail
          refine (onward (w0 := w) hb3 (CX.out _)).mono ?_; rintro e w4 ⟨rfl, hb4⟩
          go_wp2
          go_ret
          exact ret_pair hb4
    · rw [join_nil (fun h => h2 h.2)]
      rw [h1] at ca
      rw [Bool.eq_false_iff.2 h2] at cb
      have CA := hid ca; have CB := hid cb
      clear ca cb h1 h2
      go_enter Tryz.func170, Tryz.ntmps170
      go_wp2_with fail
      refine (onward (w0 := w) hb0 (CA.out _)).mono ?_; rintro e w1 ⟨rfl, hb1⟩
      go_wp2_with fail
      refine (onward (w0 := w) hb1 (CB.out _)).mono ?_; rintro e w2 ⟨rfl, hb2⟩
      go_wp2
      go_ret
      exact ret_nil hb2
  · rw [join_nil (fun h => h1 h.1)]
    rw [Bool.eq_false_iff.2 h1] at ca
    have CA := hid ca
    clear ca cb h1
    go_enter Tryz.func170, Tryz.ntmps170
    go_wp2_with fail
    refine (onward (w0 := w) hb0 (CA.out _)).mono ?_; rintro e w1 ⟨rfl, hb1⟩
    go_wp2
    go_ret
    exact ret_nil hb1
end Go.Proofs.YtfiobemeogaaiaaGreat
namespace Go.Proofs.YtfiobemeogaaiaaGreat
open Go.RowKit Go.ChangeShapes Go.WideShapes Go.Deep
set_option linter.unusedVariables false
section
variable {H : Type} {enc : TypeId × Value → H} {w : World} {base : Nat} {spare : Nat → Bool} {held : Bool}
set_option maxRecDepth 100000 in
theorem open_oprs {r : Reach} {b0 : Nat} {v : Value} {d : DataW H} {p : List MemPlace} (hv : Value.okWide Tryz.prog w r b0 22 v) (h : DataW.Trod enc Tryz.prog w base spare held 22 v d p) (_ : ∀ x ∈ p, x.block < w.heap.size) :
    ∃ (a : Option Addr) (l : List Opr) (c : Nat), v = .slice a l.length c ∧ Oprs w (· < w.heap.size) a l ∧ (∀ x ∈ l, x.fits) ∧ l.length ≤ maxLen := by
  rcases open_row Tryz.underlying22 hv h with rfl | ⟨a, len, cap, rfl, hlc, hcm, hx⟩
  · exact ⟨none, [], 0, rfl, fun k hk => absurd hk (by simp), fun x hx => absurd hx (by simp), Nat.zero_le _⟩
  · haveI : Inhabited Opr := ⟨⟨0, 0, 0, ByteArray.empty⟩⟩
    obtain ⟨V, hV⟩ := choose_lt (α := Opr) (p := fun i x => x.fits ∧ w.cells? base (a.add (i * Tryz.prog.cellsOf 36)) (Tryz.prog.cellsOf 36) = some [.int .i64 x.k, .int .i64 x.a, .int .i64 x.n, .string x.s]) (fun i hi => by
      obtain ⟨cs, n, x, h1, h2⟩ := hx i hi
      obtain ⟨c, hf, rfl⟩ := trod_opr h2
      exact ⟨c, hf, h1⟩)
    have hlen : ((List.range len).map V).length = len := by simp
    refine ⟨some a, (List.range len).map V, cap, by rw [hlen], fun k hk => ?_, fun x hx => ?_, by rw [hlen]; omega⟩
    · have hk' : k < len := by rw [hlen] at hk; exact hk
      have h1 := (hV k hk').2
      rw [cells_opr] at h1
      obtain ⟨_, hc⟩ := cells_get h1
      have hbl : (a.add (k * 4)).block = a.block := by unfold Addr.add; split <;> rfl
      have q0 := hc 0 (by simp)
      have q1 := hc 1 (by simp)
      have q2 := hc 2 (by simp)
      have q3 := hc 3 (by simp)
      refine ⟨a, rfl, ?_, ?_, ?_, ?_, ?_⟩
      · have := World.block_lt_of_cell? w _ q0
        rwa [show ((a.add (k * 4)).add 0).block = (a.add (k * 4)).block by unfold Addr.add; simp, hbl] at this
      · simpa [Addr.add] using q0
      · simpa [Addr.add] using q1
      · simpa [Addr.add] using q2
      · simpa [Addr.add] using q3
    · obtain ⟨i, hi, rfl⟩ := List.mem_map.1 hx
      exact (hV i (List.mem_range.1 hi)).1
end
end Go.Proofs.YtfiobemeogaaiaaGreat
