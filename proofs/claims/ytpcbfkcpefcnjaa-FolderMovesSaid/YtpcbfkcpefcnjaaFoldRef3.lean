/-
  Contracts of the document's folder (layer 9), third part: a rising row of numbers.
-/
import Derived.Test.YtpcbfkcpefcnjaaFoldRef2
namespace Go.Proofs.Ytpcbfkcpefcnjaa
open Go.RowKit
set_option linter.unusedVariables false

/-- A slice that reads as these numbers; its row lies below B. -/
def Ints (w : World) (B : Nat) (a : Option Addr) (l : List Int) : Prop :=
  ∀ (k : Nat) (h : k < l.length), ∃ ad, a = some ad ∧ ad.block < B ∧ w.cell? (ad.add k) = some (.int .i64 (l[k]))
theorem Ints.below {w w' : World} {B : Nat} {a : Option Addr} {l : List Int} (h : Ints w B a l) (hb : Below B w w') : Ints w' B a l := fun k hl => by
  obtain ⟨ad, e, hlt, h1⟩ := h k hl
  exact ⟨ad, e, hlt, (hb.cell (by rw [show (ad.add k).block = ad.block by unfold Addr.add; split <;> rfl]; exact hlt)).trans h1⟩
theorem Ints.more {w : World} {B B' : Nat} {a : Option Addr} {l : List Int} (h : Ints w B a l) (hB : B ≤ B') : Ints w B' a l := fun k hl => by
  obtain ⟨ad, e, hb, h1⟩ := h k hl
  exact ⟨ad, e, by omega, h1⟩
theorem own_ints {w : World} {base : Nat} {t : TypeId} {v : Value} {l : List Int} (h : w.ownsRow base t 1 v l.length (l.map (Value.int .i64))) : ∃ a c, v = .slice a l.length c ∧ Ints w w.heap.size a l := by
  rcases h.2 with ⟨rfl, h0⟩ | ⟨g, cap, cur, rfl, _, hg, _⟩
  · exact ⟨none, 0, by rw [h0], fun k hk => absurd hk (by omega)⟩
  · refine ⟨_, _, rfl, fun k hk => ⟨_, rfl, (h.lt g rfl).2, ?_⟩⟩
    refine h.cells (g := g) rfl k _ ?_
    rw [List.getElem?_map, List.getElem?_eq_getElem hk]
    rfl
def RetInts (w : World) (l : List Int) (e : Ending) (w' : World) : Prop := ∃ a c, e = .returned (.slice a l.length c) ∧ Ints w' w'.heap.size a l ∧ Below w.heap.size w w'

theorem addS_put (n : Int) (o : List Int) (e : Int) (h : n < e) : addS n (o, false) e = (o ++ [n] ++ [e], true) := by unfold addS; rw [if_pos ⟨rfl, h⟩]
theorem addS_no (n : Int) (o : List Int) (e : Int) (h : ¬ n < e) : addS n (o, false) e = (o ++ [e], false) := by unfold addS; rw [if_neg (by simp; omega)]
theorem addS_done (n : Int) (o : List Int) (e : Int) : addS n (o, true) e = (o ++ [e], true) := by unfold addS; rw [if_neg (by simp)]
/-- The slots of a round. -/
def AddR (w : World) (p : List Int × Bool) (v d : Value) (wr : World) : Prop :=
  d = .bool p.2 ∧ wr.ownsRow w.heap.size 3 1 v p.1.length (p.1.map (Value.int .i64)) ∧ Below w.heap.size w wr

set_option maxRecDepth 100000 in
set_option maxHeartbeats 1600000 in
theorem radd9_any (a : Option Addr) (l : List Int) (c : Nat) (n : Int) (B : Nat) (w : World) (hr : Ints w B a l) (hB : B ≤ w.heap.size) (hl : l.length ≤ 1000000) :
    Calls Try.prog 51 #[.slice a l.length c, .int .i64 n] w (RetInts w (addI l n)) := by
  obtain ⟨i0, hi, hz0, hz1, hz2⟩ := info_parts int_info
  have hself : ∀ wr : World, Below w.heap.size w wr → n ∈ l → RetInts w (addI l n) (.returned (.slice a l.length c)) wr := fun wr hb h => by
    have e : addI l n = l := if_pos h
    rw [e]; exact ⟨a, c, rfl, ((hr.more hB).below hb).more hb.size, hb⟩
  obtain ⟨m, hm⟩ : ∃ m, l.length = m := ⟨_, rfl⟩
  rw [hm] at hl hself ⊢
  have HN := Lib.hid hm; have HR := Lib.hid hr; have SELF := Lib.hid hself
  clear hm hr hself
  go_enter Try.func51, Try.ntmps51
  go_wp2
  go_loopw [5, 6, 7] (fun v d i wr => ∃ k : Nat, k ≤ m ∧ i = .int .i64 k ∧ n ∉ l.take k ∧ AddR w (addK l n k) v d wr) (fun _ _ i _ => m - (intOf i).toNat)
  case atStart => exact ⟨0, Nat.zero_le _, rfl, by simp, rfl, World.ownsRow_nil _ _ _ _, Below.refl _ _⟩
  case round =>
    obtain ⟨k, hk, rfl, hnk, rfl, hown, hbel⟩ := hrel
    have hlen := addK_len l n k (by rw [HN.out]; exact hk)
    by_cases hlt : k < m
    · have hkl : k < l.length := by rw [HN.out]; exact hlt
      obtain ⟨ad, rfl, hab, q0⟩ := (HR.out.below (hbel.mono hB)) k hkl
      have hst := addK_succ l n k hkl
      have htk := take_get l k hkl
      have hin : l[k]'hkl ∈ l := List.getElem_mem hkl
      have hbk : (ad.add k).block = ad.block := by unfold Addr.add; split <;> rfl
      obtain ⟨e, he⟩ : ∃ e, l[k]'hkl = e := ⟨_, rfl⟩
      rw [he] at q0 hst htk hin
      clear he
      have b0 : (0 : Int) ≤ (k : Int) := by omega
      have b1 : (k : Int) < (m : Int) := by omega
      obtain ⟨p, hp⟩ : ∃ p, addK l n k = p := ⟨_, rfl⟩
      rw [hp] at hst hown hlen ⊢
      obtain ⟨o, d⟩ := p
      simp only at hown hlen
      clear hp
      have ol : o.length ≤ k + 1 := hlen.1
      clear hlen
      by_cases hen : e = n
      · subst hen
        have R := SELF.out _ hbel hin
        have RR := Lib.hid R
        clear hst htk hin R hown hnk hbel
        go_wp2
        go_ret
        exact RR.out
      · have t0 : (e == n) = false := beq_eq_false_iff_ne.2 hen
        have hnk2 : n ∉ l.take (k + 1) := by rw [htk]; simp; exact ⟨hnk, fun h => hen h.symm⟩
        have HNK := Lib.hid hnk2
        clear hen hnk htk hin hnk2
        have HBK := Lib.hid hbk
        cases d
        · by_cases hgt : n < e
          · rw [addS_put n o e hgt] at hst
            have HS := Lib.hid hst; clear hst
            have tok1 : True := trivial
            go_upto_region 11 with (at_builtin; have _t := tok1; refine wpList_append_own _ rfl _ _ 55 rfl w.heap.size 3 i0 (.int .i64 0) 1 8 Try.underlying55 hi hz0 hz1 hz2 rfl (by decide) _ _ _ rfl (hown.alloc _) ⟨wr.heap.size, 0, none⟩ 1 1 [.int .i64 n] rfl rfl (news_int _ _ _) (one_int _) (by unfold maxLen; omega) (by omega) (by have := hbel.size; simp; omega) ?_; intro v1 w1 ho1 hg1 _; clear tok1)
            have hb1 : Below w.heap.size w w1 := (hbel.alloc hbel.size _).grown hg1 (by have := hbel.size; simp; omega) (own_block hown)
            have e0 : w1.cell? (ad.add k) = some (.int .i64 e) := (hb1.cell (by rw [hbk]; omega)).trans ((hbel.cell (by rw [hbk]; omega)).symm.trans q0)
            clear hg1 hown hbel q0
            have tok2 : True := trivial
            go_wp2_with (at_builtin; have _t := tok2; refine wpList_append_own _ rfl _ _ 55 rfl w.heap.size 3 i0 (.int .i64 0) 1 8 Try.underlying55 hi hz0 hz1 hz2 rfl (by decide) _ _ _ rfl (ho1.alloc _) ⟨w1.heap.size, 0, none⟩ 1 1 [.int .i64 e] rfl rfl (news_int _ _ _) (one_int _) (by unfold maxLen; omega) (by omega) (by have := hb1.size; simp; omega) ?_; intro v2 w2 ho2 hg2 _; clear tok2)
            have hb2 : Below w.heap.size w w2 := (hb1.alloc hb1.size _).grown hg2 (by have := hb1.size; simp; omega) (own_block ho1)
            have R : AddR w (addK l n (k + 1)) v2 (.bool true) w2 := ⟨by rw [HS.out], by rw [HS.out, List.map_append, List.map_append, List.length_append, List.length_append]; exact ho2, hb2⟩
            have RR := Lib.hid R
            clear ho1 hb1 ho2 hg2 hb2 e0 R
            go_wp2
            go_roundw
            case rel => exact ⟨k + 1, by omega, by go_num, HNK.out, RR.out⟩
            case measure => simp [intOf]; omega
          · rw [addS_no n o e hgt] at hst
            have hgt2 : e ≤ n := by omega
            clear hgt
            have HS := Lib.hid hst; clear hst
            have tok1 : True := trivial
            go_wp2_with (at_builtin; have _t := tok1; refine wpList_append_own _ rfl _ _ 55 rfl w.heap.size 3 i0 (.int .i64 0) 1 8 Try.underlying55 hi hz0 hz1 hz2 rfl (by decide) _ _ _ rfl (hown.alloc _) ⟨wr.heap.size, 0, none⟩ 1 1 [.int .i64 e] rfl rfl (news_int _ _ _) (one_int _) (by unfold maxLen; omega) (by omega) (by have := hbel.size; simp; omega) ?_; intro v1 w1 ho1 hg1 _; clear tok1)
            have hb1 : Below w.heap.size w w1 := (hbel.alloc hbel.size _).grown hg1 (by have := hbel.size; simp; omega) (own_block hown)
            have R : AddR w (addK l n (k + 1)) v1 (.bool false) w1 := ⟨by rw [HS.out], by rw [HS.out, List.map_append, List.length_append]; exact ho1, hb1⟩
            have RR := Lib.hid R
            clear hg1 hown hbel ho1 hb1 q0 R
            go_wp2
            go_roundw
            case rel => exact ⟨k + 1, by omega, by go_num, HNK.out, RR.out⟩
            case measure => simp [intOf]; omega
        · rw [addS_done n o e] at hst
          have HS := Lib.hid hst; clear hst
          have tok1 : True := trivial
          go_wp2_with (at_builtin; have _t := tok1; refine wpList_append_own _ rfl _ _ 55 rfl w.heap.size 3 i0 (.int .i64 0) 1 8 Try.underlying55 hi hz0 hz1 hz2 rfl (by decide) _ _ _ rfl (hown.alloc _) ⟨wr.heap.size, 0, none⟩ 1 1 [.int .i64 e] rfl rfl (news_int _ _ _) (one_int _) (by unfold maxLen; omega) (by omega) (by have := hbel.size; simp; omega) ?_; intro v1 w1 ho1 hg1 _; clear tok1)
          have hb1 : Below w.heap.size w w1 := (hbel.alloc hbel.size _).grown hg1 (by have := hbel.size; simp; omega) (own_block hown)
          have R : AddR w (addK l n (k + 1)) v1 (.bool true) w1 := ⟨by rw [HS.out], by rw [HS.out, List.map_append, List.length_append]; exact ho1, hb1⟩
          have RR := Lib.hid R
          clear hg1 hown hbel ho1 hb1 q0 R
          go_wp2
          go_roundw
          case rel => exact ⟨k + 1, by omega, by go_num, HNK.out, RR.out⟩
          case measure => simp [intOf]; omega
    · obtain rfl : k = m := by omega
      have hnl : n ∉ l := by rw [List.take_of_length_le (by rw [HN.out]; exact Nat.le_refl _)] at hnk; exact hnk
      have he : addI l n = (if (addK l n k).2 = true then (addK l n k).1 else (addK l n k).1 ++ [n]) := by unfold addI; rw [if_neg hnl, HN.out]
      clear hnk hnl
      obtain ⟨p, hp⟩ : ∃ p, addK l n k = p := ⟨_, rfl⟩
      rw [hp] at he hown hlen ⊢
      obtain ⟨o, d⟩ := p
      simp only at hown hlen
      clear hp
      have ol : o.length ≤ k + 1 := hlen.1
      clear hlen
      cases d
      · have he2 : addI l n = o ++ [n] := by rw [he]; rfl
        have HE := Lib.hid he2
        clear he he2
        have tok1 : True := trivial
        go_wp2_with (at_builtin; have _t := tok1; refine wpList_append_own _ rfl _ _ 55 rfl w.heap.size 3 i0 (.int .i64 0) 1 8 Try.underlying55 hi hz0 hz1 hz2 rfl (by decide) _ _ _ rfl (hown.alloc _) ⟨wr.heap.size, 0, none⟩ 1 1 [.int .i64 n] rfl rfl (news_int _ _ _) (one_int _) (by unfold maxLen; omega) (by omega) (by have := hbel.size; simp; omega) ?_; intro v1 w1 ho1 hg1 _; clear tok1)
        have hb1 : Below w.heap.size w w1 := (hbel.alloc hbel.size _).grown hg1 (by have := hbel.size; simp; omega) (own_block hown)
        have ho2 : w1.ownsRow w.heap.size 3 1 v1 (addI l n).length ((addI l n).map (Value.int .i64)) := by
          rw [HE.out, List.map_append, List.length_append]
          exact ho1
        obtain ⟨ad, cp, rfl, hn⟩ := own_ints ho2
        have HNN := Lib.hid hn; have HB := Lib.hid hb1
        clear hn ho1 ho2 hg1 hb1 hbel hown HE
        go_wp2
        go_ret
        exact ⟨ad, cp, rfl, HNN.out, HB.out⟩
      · have he2 : addI l n = o := by rw [he]; rfl
        rw [← he2] at hown
        obtain ⟨ad, cp, rfl, hn⟩ := own_ints hown
        have HNN := Lib.hid hn
        clear hn hown he he2
        go_wp2
        go_ret
        exact ⟨ad, cp, rfl, HNN.out, hbel⟩
end Go.Proofs.Ytpcbfkcpefcnjaa
