/-
  Contracts of the program's operations: the words for a field, the verb.
-/
import Derived.Test.YtlgdlkiekodocaaDoorOpInsert
import Derived.Test.YtlgdlkiekodocaaDoorOpBytes
import Derived.Test.YtlgdlkiekodocaaDoorOpText
import Derived.Test.YtlgdlkiekodocaaDoorOpShelf
import Derived.Lib.AppendIntMem
import Derived.Deep.RegionLaw
namespace Go.Proofs.YtlgdlkiekodocaaDoor
open Go.RowKit

/-- The library's table of powers, as it must be. -/
def Pow (B : Nat) (w : World) : Prop := Lib.TabBelow Tryd.prog B w "internal/strconv.uint64pow10" .u64 Lib.pow10Tab
theorem Pow.on {B : Nat} {w w1 : World} (h : Pow B w) (hb : Below B w w1) : Pow B w1 := Lib.TabBelow.on h hb
theorem grow_below (w : World) (k : Nat) (os : Array Obj) : Below w.heap.size w (Sort.grow (w.drewN k) os) :=
  ⟨rfl, rfl, rfl, by simp [Sort.grow], fun i hi => by
    show (w.heap ++ os)[i]? = _
    rw [Array.getElem?_append_left hi]⟩
theorem itoa_any (n : Int) (h0 : -9223372036854775808 ≤ n) (h1 : n ≤ 9223372036854775807) (B : Nat) (w : World) (ht : Pow B w) :
    Calls Tryd.prog 23 #[.int .i64 n] w fun e w' => e = .returned (.string (decS n)) ∧ Below w.heap.size w w' :=
  (Tryd.strconv_Itoa n h0 h1 w ht.here).mono fun _ _ ⟨he, k, os, hw⟩ => ⟨he, hw ▸ grow_below w k os⟩

/-- The verbs. -/
def verbS (k : Int) : ByteArray :=
  if k = 1 then ⟨#[105, 110, 115, 101, 114, 116]⟩ else if k = 2 then ⟨#[100, 101, 108, 101, 116, 101]⟩ else if k = 3 then ⟨#[109, 97, 114, 107]⟩ else if k = 4 then ⟨#[117, 110, 109, 97, 114, 107]⟩
  else if k = 5 then ⟨#[117, 110, 100, 111]⟩ else if k = 6 then ⟨#[114, 101, 100, 111]⟩ else if k = 7 then ⟨#[98, 101, 103, 105, 110]⟩ else ⟨#[101, 110, 100]⟩
set_option maxRecDepth 100000 in
theorem verb_any (k : Int) (h0 : 1 ≤ k) (h1 : k ≤ 8) (w : World) :
    Calls Tryd.prog 16 #[.int .i64 k] w fun e w' => e = .returned (.string (verbS k)) ∧ Below w.heap.size w w' := by
  have hk : k = 1 ∨ k = 2 ∨ k = 3 ∨ k = 4 ∨ k = 5 ∨ k = 6 ∨ k = 7 ∨ k = 8 := by omega
  rcases hk with rfl | rfl | rfl | rfl | rfl | rfl | rfl | rfl <;>
  · clear h0 h1
    go_enter Tryd.func16, Tryd.ntmps16
    go_wp2
    go_ret
    exact ⟨rfl, (Below.refl _ _).alloc (Nat.le_refl _) _⟩

theorem string_info : (Tryd.prog.info? 9).map (fun i => (i.zero, i.size, i.bytes)) = some (some (.string ⟨#[]⟩), 1, 16) := by kernel_rfl
theorem tell_con (v : Value) (ws : List ByteArray) (s : ByteArray) (b o : Nat) (base : Nat) (w : World) (hw : Words w base v ws) (hl : ws.length ≤ 9) (hbw : base ≤ w.heap.size) (hc : w.cell? ⟨b, o, none⟩ = some (.string s)) :
    Calls Tryd.prog 17 #[v, .iface 50 (.pointer (some ⟨b, o, none⟩))] w (TellR base (ws ++ [s]) v w) := by
  obtain ⟨i0, hi, hz0, hz1, hz2⟩ := info_parts string_info
  have h1 := not_con_num
  have h2 := is_con
  have HW := Lib.hid hw
  have HL := Lib.hid hl
  have HB := Lib.hid hbw
  clear hw hl hbw
  go_enter Tryd.func17, Tryd.ntmps17
  go_wp2_with (at_builtin; refine wpList_append_own _ rfl _ _ 41 rfl base 9 i0 (.string ⟨#[]⟩) 1 16 Tryd.underlying41 hi hz0 hz1 hz2 rfl (by decide) _ _ _ rfl (HW.out.alloc _) ⟨w.heap.size, 0, none⟩ 1 1 [.string s] rfl rfl ?c1 ?c2 ?c3 ?c4 ?c5 ?_)
  case c1 =>
    intro j u hj
    match j, hj with
    | 0, hj => simp at hj; subst hj; simp [Addr.add]
  case c2 => intro u hu; simp at hu; subst hu; rfl
  case c3 => have := HL.out; unfold maxLen; omega
  case c4 => have := HL.out; omega
  case c5 => have := HB.out; simp; omega
  intro v' w1 hown' hgrow _
  have HO := Lib.hid hown'; have HG := Lib.hid hgrow
  clear hown' hgrow
  go_wp2
  go_ret
  exact ⟨v', rfl, by simpa [Words] using HO.out, Lib.grownBy_trans (World.grownBy_alloc w _ _) HG.out⟩
theorem tell_num (v : Value) (ws : List ByteArray) (a : Int) (ha : -9223372036854775808 ≤ a) (ha2 : a ≤ 9223372036854775807) (b o : Nat) (base B : Nat) (w : World) (hw : Words w base v ws) (hl : ws.length ≤ 9) (hbw : base ≤ w.heap.size) (hp : Pow B w) (hc : w.cell? ⟨b, o, none⟩ = some (.int .i64 a)) :
    Calls Tryd.prog 17 #[v, .iface 48 (.pointer (some ⟨b, o, none⟩))] w (TellR base (ws ++ [decS a]) v w) := by
  obtain ⟨i0, hi, hz0, hz1, hz2⟩ := info_parts string_info
  have h1 := is_num
  have HW := Lib.hid hw
  have HL := Lib.hid hl
  have HB := Lib.hid hbw
  have HI := Lib.hid (itoa_any a ha ha2 B w hp)
  clear hw hl hbw ha ha2 hp
  obtain ⟨D, hD⟩ : ∃ D, decS a = D := ⟨_, rfl⟩
  rw [hD] at HI ⊢
  clear hD
  go_enter Tryd.func17, Tryd.ntmps17
  go_wp2_with fail
  refine HI.out.mono ?_; rintro e w1 ⟨rfl, hb1⟩
  have HW1 := Lib.hid (HW.out.kept (grown_of_below (row := none) hb1) (by cases v.ownBlock <;> simp))
  have HB1 := Lib.hid (Nat.le_trans HB.out hb1.size)
  have HG1 := Lib.hid (grown_of_below (row := v.ownBlock) hb1)
  clear hb1
  go_wp2_with (at_builtin; refine wpList_append_own _ rfl _ _ 41 rfl base 9 i0 (.string ⟨#[]⟩) 1 16 Tryd.underlying41 hi hz0 hz1 hz2 rfl (by decide) _ _ _ rfl (HW1.out.alloc _) ⟨w1.heap.size, 0, none⟩ 1 1 [.string D] rfl rfl ?c1 ?c2 ?c3 ?c4 ?c5 ?_)
  case c1 =>
    intro j u hj
    match j, hj with
    | 0, hj => simp at hj; subst hj; simp [Addr.add]
  case c2 => intro u hu; simp at hu; subst hu; rfl
  case c3 => have := HL.out; unfold maxLen; omega
  case c4 => have := HL.out; omega
  case c5 => have := HB1.out; simp; omega
  intro v' w2 hown' hgrow _
  have HO := Lib.hid hown'; have HG := Lib.hid hgrow
  clear hown' hgrow
  go_wp2
  go_ret
  exact ⟨v', rfl, by simpa [Words] using HO.out, Lib.grownBy_trans HG1.out (Lib.grownBy_trans (World.grownBy_alloc w1 _ _) HG.out)⟩
theorem words_new {w : World} {base : Nat} {v : Value} {ws : List ByteArray} (h : Words w base v ws) : v.ownBlock ≠ some w.heap.size := by
  intro e
  have := (h.lt _ e).2
  omega
theorem tell_nam_one (v : Value) (p s : ByteArray) (b o : Nat) (base : Nat) (w : World) (hw : Words w base v [p]) (hbw : base ≤ w.heap.size) (hc : w.cell? ⟨b, o, none⟩ = some (.string s)) :
    Calls Tryd.prog 17 #[v, .iface 52 (.pointer (some ⟨b, o, none⟩))] w (TellR base [p, s] v w) := by
  have h1 := not_nam_num
  have h2 := not_nam_con
  have h3 := is_nam
  have HI := Lib.hid (ins_one (w := w.alloc (.cells #[.string s] 9)) (x := s) v (hw.alloc _) (Blk.new w _ _) (by simp; omega))
  clear hw hbw
  go_enter Tryd.func17, Tryd.ntmps17
  go_wp2_with fail
  refine HI.out.mono ?_
  rintro e w1 ⟨v', rfl, hown, hg⟩
  have HO := Lib.hid hown; have HG := Lib.hid hg
  clear hown hg
  go_wp2
  go_ret
  exact ⟨v', rfl, HO.out, Lib.grownBy_trans (World.grownBy_alloc w _ _) HG.out⟩
theorem tell_nam_two (v : Value) (p q s : ByteArray) (b o : Nat) (base : Nat) (w : World) (hw : Words w base v [p, q]) (hbw : base ≤ w.heap.size) (hc : w.cell? ⟨b, o, none⟩ = some (.string s)) :
    Calls Tryd.prog 17 #[v, .iface 52 (.pointer (some ⟨b, o, none⟩))] w (TellR base [p, s, q] v w) := by
  have h1 := not_nam_num
  have h2 := not_nam_con
  have h3 := is_nam
  have HI := Lib.hid (ins_two (w := w.alloc (.cells #[.string s] 9)) (x := s) v (hw.alloc _) (Blk.new w _ _) (words_new hw) (by simp; omega))
  clear hw hbw
  go_enter Tryd.func17, Tryd.ntmps17
  go_wp2_with fail
  refine HI.out.mono ?_
  rintro e w1 ⟨v', rfl, hown, hg⟩
  have HO := Lib.hid hown; have HG := Lib.hid hg
  clear hown hg
  go_wp2
  go_ret
  exact ⟨v', rfl, HO.out, Lib.grownBy_trans (World.grownBy_alloc w _ _) HG.out⟩
end Go.Proofs.YtlgdlkiekodocaaDoor
