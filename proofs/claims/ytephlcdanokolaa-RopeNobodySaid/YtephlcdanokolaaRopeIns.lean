/-
  Contracts of the program's Insert, Delete and Of.
-/
import Derived.Test.YtephlcdanokolaaRopeRef
namespace Go.Proofs.Ytephlcdanokolaa
open Go.RowKit
set_option linter.unusedVariables false
set_option linter.unusedSimpArgs false

set_option maxRecDepth 100000 in
set_option maxHeartbeats 800000 in
theorem ro_stand {z : Nat} {i n : Int} (hz : z ≤ 5000) (hi : i64P i) (w : World) :
    Calls Try.prog 32 #[.int .i64 z, .int .i64 i, .int .i64 n] w fun e w' => e = .returned (.bool (standB z i n)) ∧ w' = w := by
  by_cases h0 : i < 0
  · have hB : standB z i n = false := stand_no.2 (by omega)
    rw [hB]
    clear hi hB hz
    go_enter Try.func32, Try.ntmps32
    go_wp2
    go_ret
    exact ⟨rfl, rfl⟩
  by_cases h1 : n < 0
  · have hB : standB z i n = false := stand_no.2 (by omega)
    rw [hB]
    have h2 : 0 ≤ i := by omega
    clear hi hB hz h0
    go_enter Try.func32, Try.ntmps32
    go_wp2
    go_ret
    exact ⟨rfl, rfl⟩
  have hi2 : i ≤ 9223372036854775807 := hi.2
  clear hi
  by_cases h2 : n ≤ (z : Int) - i
  · have hB : standB z i n = true := stand_iff.2 (by omega)
    rw [hB]
    have h3 : 0 ≤ i := by omega
    have h4 : 0 ≤ n := by omega
    clear hB h0 h1
    go_enter Try.func32, Try.ntmps32
    go_wp2
    go_ret
    exact ⟨rfl, rfl⟩
  · have hB : standB z i n = false := stand_no.2 (by omega)
    rw [hB]
    have h3 : 0 ≤ i := by omega
    have h4 : 0 ≤ n := by omega
    clear hB h0 h1
    go_enter Try.func32, Try.ntmps32
    go_wp2
    go_ret
    exact ⟨rfl, rfl⟩

/-- A rope is answered, or why there is none. -/
def RetRope (w : World) (E : Int) (S : ByteArray) (e : Ending) (w' : World) : Prop :=
  ∃ r', e = .returned (.tuple #[.pointer r', .int .i64 E]) ∧ (E ≠ 0 → r' = none) ∧ (E = 0 → ∃ b p L, r' = some ⟨b, 0, none⟩ ∧ RopeW w' r' p L S) ∧ Below w.heap.size w w'
theorem ret_rope_no {w w' : World} {E : Int} {S : ByteArray} (hE : E ≠ 0) (hb : Below w.heap.size w w') : RetRope w E S (.returned (.tuple #[.pointer none, .int .i64 E])) w' := ⟨none, rfl, fun _ => rfl, fun h => absurd h hE, hb⟩
theorem ret_rope_yes {w w' : World} {S : ByteArray} {b : Nat} {p : Option Addr} {L : List ByteArray} (h : RopeW w' (some ⟨b, 0, none⟩) p L S) (hb : Below w.heap.size w w') : RetRope w 0 S (.returned (.tuple #[.pointer (some ⟨b, 0, none⟩), .int .i64 0])) w' := ⟨_, rfl, fun h => absurd rfl h, fun _ => ⟨b, p, L, rfl, h⟩, hb⟩

set_option maxRecDepth 100000 in
set_option maxHeartbeats 1600000 in
theorem ro_ins {w : World} {r p : Option Addr} {L : List ByteArray} {s x : ByteArray} {i : Int} (h : RopeW w r p L s) (hs : s.size ≤ 4096) (hx : x.size ≤ maxLen) (hi : i64P i) :
    Calls Try.prog 16 #[.pointer r, .int .i64 i, .string x] w (RetRope w (insE s i x) (insS s i x)) := by
  have c1 := fun W (hW : Below w.heap.size w W) => ro_len (h.later hW)
  have c2 := ro_stand (n := 0) (show s.size ≤ 5000 by omega) hi
  have c3 := fun W (hW : Below w.heap.size w W) => ro_edge (h.later hW) hi
  have c4 := valid_any x hx
  by_cases hst : standB s.size i 0 = false
  · have hE : insE s i x = 3 := by unfold insE; rw [if_pos hst]
    rw [hE]
    rw [hst] at c2
    have C1 := Lib.hid c1; have C2 := Lib.hid c2
    clear hE c1 c2 c3 c4 hst h hi hx hs
    go_enter Try.func16, Try.ntmps16
    go_wp2_with fail
    refine (C1.out _ (Below.refl _ _)).mono ?_; rintro e w1 ⟨rfl, hb1⟩
    have HB1 := Lib.hid hb1
    clear hb1
    go_wp2_with fail
    refine (C2.out _).mono ?_; rintro e w2 ⟨rfl, rfl⟩
    go_wp2
    go_ret2
    exact ret_rope_no (by decide) HB1.out
  have hst := bool_yes hst
  rw [hst] at c2
  by_cases he : edgeB s.data.toList i = false
  · have hE : insE s i x = 4 := by unfold insE; rw [if_neg (by rw [hst]; decide), if_pos he]
    rw [hE]
    rw [he] at c3
    have C1 := Lib.hid c1; have C2 := Lib.hid c2; have C3 := Lib.hid c3
    clear hE c1 c2 c3 c4 hst he h hi hx hs
    go_enter Try.func16, Try.ntmps16
    go_wp2_with fail
    refine (C1.out _ (Below.refl _ _)).mono ?_; rintro e w1 ⟨rfl, hb1⟩
    have HB1 := Lib.hid hb1
    clear hb1
    go_wp2_with fail
    refine (C2.out _).mono ?_; rintro e w2 ⟨rfl, rfl⟩
    go_wp2_with fail
    refine (onward HB1.out (C3.out _ HB1.out)).mono ?_; rintro e w3 ⟨rfl, hb3⟩
    have HB3 := Lib.hid hb3
    clear hb3
    go_wp2
    go_ret2
    exact ret_rope_no (by decide) HB3.out
  have he := bool_yes he
  rw [he] at c3
  by_cases hv : vldB x.data.toList = false
  · have hE : insE s i x = 5 := by unfold insE; rw [if_neg (by rw [hst]; decide), if_neg (by rw [he]; decide), if_pos hv]
    rw [hE]
    rw [hv] at c4
    have C1 := Lib.hid c1; have C2 := Lib.hid c2; have C3 := Lib.hid c3; have C4 := Lib.hid c4
    clear hE c1 c2 c3 c4 hst he hv h hi hx hs
    go_enter Try.func16, Try.ntmps16
    go_wp2_with fail
    refine (C1.out _ (Below.refl _ _)).mono ?_; rintro e w1 ⟨rfl, hb1⟩
    have HB1 := Lib.hid hb1
    clear hb1
    go_wp2_with fail
    refine (C2.out _).mono ?_; rintro e w2 ⟨rfl, rfl⟩
    go_wp2_with fail
    refine (onward HB1.out (C3.out _ HB1.out)).mono ?_; rintro e w3 ⟨rfl, hb3⟩
    have HB3 := Lib.hid hb3
    clear hb3
    go_wp2_with fail
    refine (onward HB3.out (C4.out _)).mono ?_; rintro e w4 ⟨rfl, hb4⟩
    have HB4 := Lib.hid hb4
    clear hb4
    go_wp2
    go_ret2
    exact ret_rope_no (by decide) HB4.out
  have hv := bool_yes hv
  rw [hv] at c4
  have hm : (x.size : Int) ≤ 9223372036854775807 := by unfold maxLen at hx; omega
  have hs' : (s.size : Int) ≤ 4096 := by omega
  by_cases hl : 4096 < s.size + x.size
  · have hE : insE s i x = 6 := by unfold insE; rw [if_neg (by rw [hst]; decide), if_neg (by rw [he]; decide), if_neg (by rw [hv]; decide), if_pos hl]
    rw [hE]
    have g1 : (4096 : Int) - (s.size : Int) < (x.size : Int) := by omega
    have C1 := Lib.hid c1; have C2 := Lib.hid c2; have C3 := Lib.hid c3; have C4 := Lib.hid c4
    clear hE c1 c2 c3 c4 hst he hv h hi hx hs hl
    go_enter Try.func16, Try.ntmps16
    go_wp2_with fail
    refine (C1.out _ (Below.refl _ _)).mono ?_; rintro e w1 ⟨rfl, hb1⟩
    have HB1 := Lib.hid hb1
    clear hb1
    go_wp2_with fail
    refine (C2.out _).mono ?_; rintro e w2 ⟨rfl, rfl⟩
    go_wp2_with fail
    refine (onward HB1.out (C3.out _ HB1.out)).mono ?_; rintro e w3 ⟨rfl, hb3⟩
    have HB3 := Lib.hid hb3
    clear hb3
    go_wp2_with fail
    refine (onward HB3.out (C4.out _)).mono ?_; rintro e w4 ⟨rfl, hb4⟩
    have HB4 := Lib.hid hb4
    clear hb4
    go_wp2_with fail
    refine (onward HB4.out (C1.out _ HB4.out)).mono ?_; rintro e w5 ⟨rfl, hb5⟩
    have HB5 := Lib.hid hb5
    clear hb5
    go_wp2
    go_ret2
    exact ret_rope_no (by decide) HB5.out
  · have hE : insE s i x = 0 := by unfold insE; rw [if_neg (by rw [hst]; decide), if_neg (by rw [he]; decide), if_neg (by rw [hv]; decide), if_neg hl]
    obtain ⟨b1, b2, b3⟩ := edge_at he
    have c5 := fun W (hW : Below w.heap.size w W) => ro_put (h.later hW) hi hi ((vldB_iff _).1 hv) (by have : s.data.toList.length = s.size := by simp
                                                                                                       omega)
    rw [b1] at c5
    have hS : insS s i x = s.extract 0 i.toNat ++ x ++ s.extract i.toNat s.size := by unfold insS; rw [hE, if_pos rfl]
    rw [← hS] at c5
    rw [hE]
    obtain ⟨S, hSS⟩ : ∃ S, insS s i x = S := ⟨_, rfl⟩
    rw [hSS] at c5 ⊢
    have g1 : (x.size : Int) ≤ (4096 : Int) - (s.size : Int) := by omega
    have C1 := Lib.hid c1; have C2 := Lib.hid c2; have C3 := Lib.hid c3; have C4 := Lib.hid c4; have C5 := Lib.hid c5
    clear hE c1 c2 c3 c4 c5 hst he hv h hi hx hs hl b1 b2 b3 hS hSS
    go_enter Try.func16, Try.ntmps16
    go_wp2_with fail
    refine (C1.out _ (Below.refl _ _)).mono ?_; rintro e w1 ⟨rfl, hb1⟩
    have HB1 := Lib.hid hb1
    clear hb1
    go_wp2_with fail
    refine (C2.out _).mono ?_; rintro e w2 ⟨rfl, rfl⟩
    go_wp2_with fail
    refine (onward HB1.out (C3.out _ HB1.out)).mono ?_; rintro e w3 ⟨rfl, hb3⟩
    have HB3 := Lib.hid hb3
    clear hb3
    go_wp2_with fail
    refine (onward HB3.out (C4.out _)).mono ?_; rintro e w4 ⟨rfl, hb4⟩
    have HB4 := Lib.hid hb4
    clear hb4
    go_wp2_with fail
    refine (onward HB4.out (C1.out _ HB4.out)).mono ?_; rintro e w5 ⟨rfl, hb5⟩
    have HB5 := Lib.hid hb5
    clear hb5
    go_wp2_with fail
    refine (C5.out _ HB5.out).mono ?_; rintro e w6 ⟨b, p', L', rfl, hR, hb6⟩
    have HR := Lib.hid (ret_rope_yes hR (HB5.out.trans (hb6.mono HB5.out.size)))
    clear hR hb6
    go_wp2
    go_ret2
    exact HR.out

set_option maxRecDepth 100000 in
set_option maxHeartbeats 1600000 in
theorem ro_del {w : World} {r p : Option Addr} {L : List ByteArray} {s : ByteArray} {i n : Int} (h : RopeW w r p L s) (hs : s.size ≤ 4096) (hi : i64P i) :
    Calls Try.prog 14 #[.pointer r, .int .i64 i, .int .i64 n] w (RetRope w (delE s i n) (delS s i n)) := by
  have c1 := fun W (hW : Below w.heap.size w W) => ro_len (h.later hW)
  have c2 := ro_stand (n := n) (show s.size ≤ 5000 by omega) hi
  have c3 := fun W (hW : Below w.heap.size w W) => ro_edge (h.later hW) hi
  by_cases hst : standB s.size i n = false
  · have hE : delE s i n = 3 := by unfold delE; rw [if_pos hst]
    rw [hE]
    rw [hst] at c2
    have C1 := Lib.hid c1; have C2 := Lib.hid c2
    clear hE c1 c2 c3 hst h hi hs
    go_enter Try.func14, Try.ntmps14
    go_wp2_with fail
    refine (C1.out _ (Below.refl _ _)).mono ?_; rintro e w1 ⟨rfl, hb1⟩
    have HB1 := Lib.hid hb1
    clear hb1
    go_wp2_with fail
    refine (C2.out _).mono ?_; rintro e w2 ⟨rfl, rfl⟩
    go_wp2
    go_ret2
    exact ret_rope_no (by decide) HB1.out
  have hst := bool_yes hst
  rw [hst] at c2
  obtain ⟨d1, d2, d3⟩ := stand_iff.1 hst
  have hj : i64P (i + n) := by unfold i64P; omega
  have c4 := fun W (hW : Below w.heap.size w W) => ro_edge (h.later hW) hj
  by_cases he : edgeB s.data.toList i = false
  · have hE : delE s i n = 4 := by unfold delE; rw [if_neg (by rw [hst]; decide), if_pos (.inl he)]
    rw [hE]
    rw [he] at c3
    have C1 := Lib.hid c1; have C2 := Lib.hid c2; have C3 := Lib.hid c3
    clear hE c1 c2 c3 c4 hst he h hi hj hs d1 d2 d3
    go_enter Try.func14, Try.ntmps14
    go_wp2_with fail
    refine (C1.out _ (Below.refl _ _)).mono ?_; rintro e w1 ⟨rfl, hb1⟩
    have HB1 := Lib.hid hb1
    clear hb1
    go_wp2_with fail
    refine (C2.out _).mono ?_; rintro e w2 ⟨rfl, rfl⟩
    go_wp2_with fail
    refine (onward HB1.out (C3.out _ HB1.out)).mono ?_; rintro e w3 ⟨rfl, hb3⟩
    have HB3 := Lib.hid hb3
    clear hb3
    go_wp2
    go_ret2
    exact ret_rope_no (by decide) HB3.out
  have he := bool_yes he
  rw [he] at c3
  have g1 : i + n ≤ 4096 := by omega
  by_cases hf : edgeB s.data.toList (i + n) = false
  · have hE : delE s i n = 4 := by unfold delE; rw [if_neg (by rw [hst]; decide), if_pos (.inr hf)]
    rw [hE]
    rw [hf] at c4
    have C1 := Lib.hid c1; have C2 := Lib.hid c2; have C3 := Lib.hid c3; have C4 := Lib.hid c4
    clear hE c1 c2 c3 c4 hst he hf h hi hj hs d3
    go_enter Try.func14, Try.ntmps14
    go_wp2_with fail
    refine (C1.out _ (Below.refl _ _)).mono ?_; rintro e w1 ⟨rfl, hb1⟩
    have HB1 := Lib.hid hb1
    clear hb1
    go_wp2_with fail
    refine (C2.out _).mono ?_; rintro e w2 ⟨rfl, rfl⟩
    go_wp2_with fail
    refine (onward HB1.out (C3.out _ HB1.out)).mono ?_; rintro e w3 ⟨rfl, hb3⟩
    have HB3 := Lib.hid hb3
    clear hb3
    go_wp2_with fail
    refine (onward HB3.out (C4.out _ HB3.out)).mono ?_; rintro e w4 ⟨rfl, hb4⟩
    have HB4 := Lib.hid hb4
    clear hb4
    go_wp2
    go_ret2
    exact ret_rope_no (by decide) HB4.out
  · have hf := bool_yes hf
    have hE : delE s i n = 0 := by
      unfold delE
      rw [if_neg (by rw [hst]; decide), if_neg]
      rintro (g | g)
      · rw [he] at g; cases g
      · rw [hf] at g; cases g
    obtain ⟨b1, b2, b3⟩ := edge_at he
    obtain ⟨b4, b5, b6⟩ := edge_at hf
    have c5 := fun W (hW : Below w.heap.size w W) => ro_put (x := ⟨#[]⟩) (h.later hW) hi hj vld_nil (by rw [b1, b4]; show i.toNat + 0 + _ ≤ _; omega)
    rw [b1, b4] at c5
    have hS : delS s i n = s.extract 0 i.toNat ++ ⟨#[]⟩ ++ s.extract (i + n).toNat s.size := by unfold delS; rw [hE, if_pos rfl, app_nil' _ ⟨#[]⟩ rfl]
    rw [← hS] at c5
    rw [hE]
    obtain ⟨S, hSS⟩ : ∃ S, delS s i n = S := ⟨_, rfl⟩
    rw [hSS] at c5 ⊢
    rw [hf] at c4
    have C1 := Lib.hid c1; have C2 := Lib.hid c2; have C3 := Lib.hid c3; have C4 := Lib.hid c4; have C5 := Lib.hid c5
    clear hE c1 c2 c3 c4 c5 hst he hf h hi hj hs d3 b1 b2 b3 b4 b5 b6 hS hSS
    go_enter Try.func14, Try.ntmps14
    go_wp2_with fail
    refine (C1.out _ (Below.refl _ _)).mono ?_; rintro e w1 ⟨rfl, hb1⟩
    have HB1 := Lib.hid hb1
    clear hb1
    go_wp2_with fail
    refine (C2.out _).mono ?_; rintro e w2 ⟨rfl, rfl⟩
    go_wp2_with fail
    refine (onward HB1.out (C3.out _ HB1.out)).mono ?_; rintro e w3 ⟨rfl, hb3⟩
    have HB3 := Lib.hid hb3
    clear hb3
    go_wp2_with fail
    refine (onward HB3.out (C4.out _ HB3.out)).mono ?_; rintro e w4 ⟨rfl, hb4⟩
    have HB4 := Lib.hid hb4
    clear hb4
    go_wp2_with fail
    refine (C5.out _ HB4.out).mono ?_; rintro e w5 ⟨b, p', L', rfl, hR, hb5⟩
    have HR := Lib.hid (ret_rope_yes hR (HB4.out.trans (hb5.mono HB4.out.size)))
    clear hR hb5
    go_wp2
    go_ret2
    exact HR.out

/-- What Of tells. -/
def ofE (s : ByteArray) : Int := if vldB s.data.toList = false then 5 else if 4096 < s.size then 6 else 0
theorem of_ins (s : ByteArray) : insE ⟨#[]⟩ 0 s = ofE s ∧ (ofE s = 0 → insS ⟨#[]⟩ 0 s = s) := by
  have h : insE ⟨#[]⟩ 0 s = ofE s := by
    unfold insE ofE
    rw [if_neg (by decide +kernel), if_neg (by decide +kernel)]
    have : (⟨#[]⟩ : ByteArray).size + s.size = s.size := by show 0 + s.size = s.size; omega
    rw [this]
  refine ⟨h, fun h0 => ?_⟩
  unfold insS
  rw [h, h0, if_pos rfl]
  apply str_ext
  simp
set_option maxRecDepth 100000 in
set_option maxHeartbeats 800000 in
theorem ro_of (s : ByteArray) (hs : s.size ≤ maxLen) (w : World) : Calls Try.prog 8 #[.string s] w (RetRope w (ofE s) s) := by
  have hb0 : Below w.heap.size w (w.alloc (.cells #[.pointer none] 46)) := (Below.refl _ _).alloc (Nat.le_refl _) _
  have hR : RopeW (w.alloc (.cells #[.pointer none] 46)) (some ⟨w.heap.size, 0, none⟩) none [] ⟨#[]⟩ := ⟨.empty _, .inr ⟨_, rfl, by simp, (Blk.new w _ _).cell 0 _ rfl⟩⟩
  have ci := ro_ins hR (Nat.zero_le _) hs (i := 0) (by unfold i64P; omega)
  rw [(of_ins s).1] at ci
  have ho := (of_ins s).2
  obtain ⟨E, hE⟩ : ∃ E, ofE s = E := ⟨_, rfl⟩
  rw [hE] at ci ho ⊢
  have HS := Lib.hid ho; have CI := Lib.hid ci; have HB := Lib.hid hb0
  clear ci hb0 hR hs ho hE
  go_enter Try.func8, Try.ntmps8
  go_wp2_with fail
  refine CI.out.mono ?_; rintro e w1 ⟨r', rfl, h1, h2, hb1⟩
  have HR := Lib.hid (show RetRope w E s (.returned (.tuple #[.pointer r', .int .i64 E])) w1 from ⟨r', rfl, h1, fun h0 => by
    obtain ⟨b, p, L, e, hh⟩ := h2 h0
    rw [HS.out h0] at hh
    exact ⟨b, p, L, e, hh⟩, HB.out.trans (hb1.mono HB.out.size)⟩)
  clear h1 h2 hb1
  go_wp2
  go_ret2
  exact HR.out
end Go.Proofs.Ytephlcdanokolaa
