/-
  Contracts of the document's folder (layer 9), second part: a name more in a list, a number more in a row.
-/
import Derived.Test.YtpcbfkcpefcnjaaFoldRef
import Derived.BigQuiet
import Derived.Deep.DeepCutAuto
import Derived.Deep.QuietTactic
import Derived.WalkLawsBesides
namespace Go.Proofs.Ytpcbfkcpefcnjaa
open Go.RowKit
set_option linter.unusedVariables false

theorem gtB_yes {s n : ByteArray} {id : Int} (h : gtB s ⟨n, id⟩ = true) : Op.bytesLess n.toList s.toList = false ∧ (n.toList == s.toList) = false := by
  unfold gtB at h
  simpa using h
theorem gtB_no {s n : ByteArray} {id : Int} (h : gtB s ⟨n, id⟩ = false) : Op.bytesLess n.toList s.toList = true ∨ n = s := by
  unfold gtB at h
  rcases hb : Op.bytesLess n.toList s.toList with _ | _
  · right
    rw [hb] at h
    simp at h
    exact ByteArray.ext (by
      have := h
      rw [ByteArray.toList_eq, ByteArray.toList_eq] at this
      exact Array.toList_inj.1 this)
  · exact .inl rfl
theorem withS_put (x : Ent) (o : List Ent) (e : Ent) (h : gtB x.name e = true) : withS x (o, false) e = (o ++ [x] ++ [e], true) := by unfold withS; rw [if_pos ⟨rfl, h⟩]
theorem withS_no (x : Ent) (o : List Ent) (e : Ent) (h : gtB x.name e = false) : withS x (o, false) e = (o ++ [e], false) := by unfold withS; rw [if_neg (by simp [h])]
theorem withS_done (x : Ent) (o : List Ent) (e : Ent) : withS x (o, true) e = (o ++ [e], true) := by unfold withS; rw [if_neg (by simp)]
/-- A slot of a bool, and the rest of a state. -/
def WithR (w : World) (x : Ent) (p : List Ent × Bool) (v d : Value) (wr : World) : Prop :=
  d = .bool p.2 ∧ wr.ownsRow (w.heap.size + 1) 73 2 v p.1.length (Ent.flat p.1) ∧ Below (w.heap.size + 1) (w.alloc (.cells #[.string x.name, .int .i64 x.id] 73)) wr
theorem box_cells {w wr : World} {x y : Value} {t : TypeId} (h : Below (w.heap.size + 1) (w.alloc (.cells #[x, y] t)) wr) : wr.cell? ⟨w.heap.size, 0, none⟩ = some x ∧ wr.cell? ⟨w.heap.size, 1, none⟩ = some y := by
  refine ⟨(h.cell (p := ⟨w.heap.size, 0, none⟩) (by simp)).trans ?_, (h.cell (p := ⟨w.heap.size, 1, none⟩) (by simp)).trans ?_⟩ <;> simp [World.cell?_alloc_new]

set_option maxRecDepth 100000 in
set_option maxHeartbeats 1600000 in
theorem rwith_any (a : Option Addr) (l : List Ent) (c : Nat) (x : Ent) (B : Nat → Prop) (w : World) (hr : Ents w B a l) (hB : ∀ b, B b → b < w.heap.size) (hl : l.length ≤ 1000000) :
    Calls Try.prog 49 #[.slice a l.length c, x.v] w (RetEnts w (withE l x)) := by
  obtain ⟨i0, hi, hz0, hz1, hz2⟩ := info_parts ent_info
  obtain ⟨n, hn⟩ : ∃ n, l.length = n := ⟨_, rfl⟩
  rw [hn] at hl ⊢
  have HN := Lib.hid hn; have HR := Lib.hid hr
  clear hn hr
  go_enter Try.func49, Try.ntmps49
  go_wp2
  go_loopw [5, 6, 7] (fun v d i wr => ∃ k : Nat, k ≤ n ∧ i = .int .i64 k ∧ WithR w x (withK l x k) v d wr) (fun _ _ i _ => n - (intOf i).toNat)
  case atStart => exact ⟨0, Nat.zero_le _, rfl, rfl, World.ownsRow_nil _ _ _ _, Below.refl _ _⟩
  case round =>
    obtain ⟨k, hk, rfl, rfl, hown, hbel⟩ := hrel
    obtain ⟨x0, x1⟩ := box_cells hbel
    have hlen := withK_len l x k (by rw [HN.out]; exact hk)
    by_cases hlt : k < n
    · have hkl : k < l.length := by rw [HN.out]; exact hlt
      have hBw : Below w.heap.size w wr := ((Below.refl w.heap.size w).alloc (Nat.le_refl _) _).trans (hbel.mono (by omega))
      obtain ⟨ad, rfl, hab, q0, q1⟩ := (HR.out.below hB hBw) k hkl
      have hab := hB _ hab
      have hst := withK_succ l x k hkl
      obtain ⟨e, he⟩ : ∃ e, l[k]'hkl = e := ⟨_, rfl⟩
      rw [he] at q0 q1 hst
      obtain ⟨nm, id⟩ := e
      simp only at q0 q1
      clear he hBw
      have b0 : (0 : Int) ≤ (k : Int) := by omega
      have b1 : (k : Int) < (n : Int) := by omega
      obtain ⟨p, hp⟩ : ∃ p, withK l x k = p := ⟨_, rfl⟩
      rw [hp] at hst hown hlen ⊢
      obtain ⟨o, d⟩ := p
      simp only at hown hlen
      clear hp
      cases d
      · have ol : o.length ≤ n := by simp at hlen; omega
        clear hlen
        rcases hg : gtB x.name ⟨nm, id⟩ with _ | _
        · rw [withS_no x o _ hg] at hst
          rcases gtB_no hg with h | h
          · clear hg
            go_wp2_with fail
            go_quiet (fail)
            have F : (wr.drewN nq).cell? (ad.add (k * 2)) = some (.string nm) ∧ (wr.drewN nq).cell? ⟨(ad.add (k * 2)).block, (ad.add (k * 2)).off + 1, none⟩ = some (.int .i64 id) ∧ (wr.drewN nq).cell? ⟨w.heap.size, 0, none⟩ = some (.string x.name) ∧ (wr.drewN nq).cell? ⟨w.heap.size, 1, none⟩ = some (.int .i64 x.id) ∧
                (wr.drewN nq).ownsRow (w.heap.size + 1) 73 2 u5 o.length (Ent.flat o) ∧ Below (w.heap.size + 1) (w.alloc (.cells #[.string x.name, .int .i64 x.id] 73)) (wr.drewN nq) := ⟨q0, q1, x0, x1, hown, drewN_below hbel _⟩
            clear q0 q1 x0 x1 hown hbel
            generalize wr.drewN nq = wx at F ⊢
            obtain ⟨q0, q1, x0, x1, hown, hbel⟩ := F
            have HS := Lib.hid hst; clear hst
            have tok1 : True := trivial
            go_wp2_with (at_builtin; have _t := tok1; go_loud (refine wpList_append_own _ rfl _ _ 39 rfl (w.heap.size + 1) 73 i0 _ 2 24 Try.underlying39 hi hz0 hz1 hz2 rfl (by decide) _ _ _ rfl (hown.alloc _) ⟨wx.heap.size, 0, none⟩ 1 1 [.string nm, .int .i64 id] rfl rfl (news_ent _ _ _ _) (one_ent _ _) (by unfold maxLen; omega) (by omega) (by have := hbel.size; simp at this ⊢; omega) ?_); intro v1 w1 ho1 hg1 _; clear tok1)
            have hb1 : Below (w.heap.size + 1) (w.alloc (.cells #[.string x.name, .int .i64 x.id] 73)) w1 := (hbel.alloc (by have := hbel.size; simpa using this) _).grown hg1 (by have := hbel.size; simp at this ⊢; omega) (own_block hown)
            have R : WithR w x (withK l x (k + 1)) v1 (.bool false) w1 := ⟨by rw [HS.out], by rw [HS.out, Ent.flat_app, List.length_append]; exact ho1, hb1⟩
            have RR := Lib.hid R
            clear hg1 hown hbel ho1 hb1 q0 q1 R
            go_wp2
            go_roundw
            case rel => exact ⟨k + 1, by omega, by go_num, RR.out⟩
            case measure => simp [intOf]; omega
          · subst h
            clear hg
            go_wp2_with fail
            go_quiet (fail)
            have F : (wr.drewN nq).cell? (ad.add (k * 2)) = some (.string x.name) ∧ (wr.drewN nq).cell? ⟨(ad.add (k * 2)).block, (ad.add (k * 2)).off + 1, none⟩ = some (.int .i64 id) ∧ (wr.drewN nq).cell? ⟨w.heap.size, 0, none⟩ = some (.string x.name) ∧ (wr.drewN nq).cell? ⟨w.heap.size, 1, none⟩ = some (.int .i64 x.id) ∧
                (wr.drewN nq).ownsRow (w.heap.size + 1) 73 2 u5 o.length (Ent.flat o) ∧ Below (w.heap.size + 1) (w.alloc (.cells #[.string x.name, .int .i64 x.id] 73)) (wr.drewN nq) := ⟨q0, q1, x0, x1, hown, drewN_below hbel _⟩
            clear q0 q1 x0 x1 hown hbel
            generalize wr.drewN nq = wx at F ⊢
            obtain ⟨q0, q1, x0, x1, hown, hbel⟩ := F
            have HS := Lib.hid hst; clear hst
            have tok1 : True := trivial
            go_wp2_with (at_builtin; have _t := tok1; go_loud (refine wpList_append_own _ rfl _ _ 39 rfl (w.heap.size + 1) 73 i0 _ 2 24 Try.underlying39 hi hz0 hz1 hz2 rfl (by decide) _ _ _ rfl (hown.alloc _) ⟨wx.heap.size, 0, none⟩ 1 1 [.string x.name, .int .i64 id] rfl rfl (news_ent _ _ _ _) (one_ent _ _) (by unfold maxLen; omega) (by omega) (by have := hbel.size; simp at this ⊢; omega) ?_); intro v1 w1 ho1 hg1 _; clear tok1)
            have hb1 : Below (w.heap.size + 1) (w.alloc (.cells #[.string x.name, .int .i64 x.id] 73)) w1 := (hbel.alloc (by have := hbel.size; simpa using this) _).grown hg1 (by have := hbel.size; simp at this ⊢; omega) (own_block hown)
            have R : WithR w x (withK l x (k + 1)) v1 (.bool false) w1 := ⟨by rw [HS.out], by rw [HS.out, Ent.flat_app, List.length_append]; exact ho1, hb1⟩
            have RR := Lib.hid R
            clear hg1 hown hbel ho1 hb1 q0 q1 R
            go_wp2
            go_roundw
            case rel => exact ⟨k + 1, by omega, by go_num, RR.out⟩
            case measure => simp [intOf]; omega
        · rw [withS_put x o _ hg] at hst
          obtain ⟨g1, g2⟩ := gtB_yes hg
          clear hg
          go_wp2_with fail
          go_quiet (fail)
          have F : (wr.drewN nq).cell? (ad.add (k * 2)) = some (.string nm) ∧ (wr.drewN nq).cell? ⟨(ad.add (k * 2)).block, (ad.add (k * 2)).off + 1, none⟩ = some (.int .i64 id) ∧ (wr.drewN nq).cell? ⟨w.heap.size, 0, none⟩ = some (.string x.name) ∧ (wr.drewN nq).cell? ⟨w.heap.size, 1, none⟩ = some (.int .i64 x.id) ∧
              (wr.drewN nq).ownsRow (w.heap.size + 1) 73 2 u5 o.length (Ent.flat o) ∧ Below (w.heap.size + 1) (w.alloc (.cells #[.string x.name, .int .i64 x.id] 73)) (wr.drewN nq) := ⟨q0, q1, x0, x1, hown, drewN_below hbel _⟩
          clear q0 q1 x0 x1 hown hbel
          generalize wr.drewN nq = wx at F ⊢
          obtain ⟨q0, q1, x0, x1, hown, hbel⟩ := F
          have HS := Lib.hid hst; clear hst
          have tok1 : True := trivial
          go_upto_region 9 with (at_builtin; have _t := tok1; go_loud (refine wpList_append_own _ rfl _ _ 39 rfl (w.heap.size + 1) 73 i0 _ 2 24 Try.underlying39 hi hz0 hz1 hz2 rfl (by decide) _ _ _ rfl (hown.alloc _) ⟨wx.heap.size, 0, none⟩ 1 1 [.string x.name, .int .i64 x.id] rfl rfl (news_ent _ _ _ _) (one_ent _ _) (by unfold maxLen; omega) (by omega) (by have := hbel.size; simp at this ⊢; omega) ?_); intro v1 w1 ho1 hg1 _; clear tok1)
          have hb1 : Below (w.heap.size + 1) (w.alloc (.cells #[.string x.name, .int .i64 x.id] 73)) w1 := (hbel.alloc (by have := hbel.size; simpa using this) _).grown hg1 (by have := hbel.size; simp at this ⊢; omega) (own_block hown)
          have r0 := (hb1.cell (p := ⟨(ad.add (k * 2)).block, (ad.add (k * 2)).off, (ad.add (k * 2)).spot⟩) (by show (ad.add (k * 2)).block < _; rw [show (ad.add (k * 2)).block = ad.block by unfold Addr.add; split <;> rfl]; omega)).trans ((hbel.cell (p := ⟨(ad.add (k * 2)).block, (ad.add (k * 2)).off, (ad.add (k * 2)).spot⟩) (by show (ad.add (k * 2)).block < _; rw [show (ad.add (k * 2)).block = ad.block by unfold Addr.add; split <;> rfl]; omega)).symm.trans q0)
          have r1 := (hb1.cell (p := ⟨(ad.add (k * 2)).block, (ad.add (k * 2)).off + 1, none⟩) (by show (ad.add (k * 2)).block < _; rw [show (ad.add (k * 2)).block = ad.block by unfold Addr.add; split <;> rfl]; omega)).trans ((hbel.cell (p := ⟨(ad.add (k * 2)).block, (ad.add (k * 2)).off + 1, none⟩) (by show (ad.add (k * 2)).block < _; rw [show (ad.add (k * 2)).block = ad.block by unfold Addr.add; split <;> rfl]; omega)).symm.trans q1)
          have e0 : w1.cell? (ad.add (k * 2)) = some (.string nm) := r0
          clear hg1 hown hbel r0 q0 q1
          have tok2 : True := trivial
          go_wp2_with (at_builtin; have _t := tok2; go_loud (refine wpList_append_own _ rfl _ _ 39 rfl (w.heap.size + 1) 73 i0 _ 2 24 Try.underlying39 hi hz0 hz1 hz2 rfl (by decide) _ _ _ rfl (ho1.alloc _) ⟨w1.heap.size, 0, none⟩ 1 1 [.string nm, .int .i64 id] rfl rfl (news_ent _ _ _ _) (one_ent _ _) (by unfold maxLen; omega) (by omega) (by have := hb1.size; simp at this ⊢; omega) ?_); intro v2 w2 ho2 hg2 _; clear tok2)
          have hb2 : Below (w.heap.size + 1) (w.alloc (.cells #[.string x.name, .int .i64 x.id] 73)) w2 := (hb1.alloc (by have := hb1.size; simpa using this) _).grown hg2 (by have := hb1.size; simp at this ⊢; omega) (own_block ho1)
          have R : WithR w x (withK l x (k + 1)) v2 (.bool true) w2 := ⟨by rw [HS.out], by rw [HS.out, Ent.flat_app, Ent.flat_app, List.length_append, List.length_append]; exact ho2, hb2⟩
          have RR := Lib.hid R
          clear ho1 hb1 ho2 hg2 hb2 e0 r1 R
          go_wp2
          go_roundw
          case rel => exact ⟨k + 1, by omega, by go_num, RR.out⟩
          case measure => simp [intOf]; omega
      · have ol : o.length ≤ n + 1 := by simp at hlen; omega
        rw [withS_done] at hst
        clear hlen
        go_wp2_with fail
        go_quiet (fail)
        have F : (wr.drewN nq).cell? (ad.add (k * 2)) = some (.string nm) ∧ (wr.drewN nq).cell? ⟨(ad.add (k * 2)).block, (ad.add (k * 2)).off + 1, none⟩ = some (.int .i64 id) ∧ (wr.drewN nq).cell? ⟨w.heap.size, 0, none⟩ = some (.string x.name) ∧ (wr.drewN nq).cell? ⟨w.heap.size, 1, none⟩ = some (.int .i64 x.id) ∧
            (wr.drewN nq).ownsRow (w.heap.size + 1) 73 2 u5 o.length (Ent.flat o) ∧ Below (w.heap.size + 1) (w.alloc (.cells #[.string x.name, .int .i64 x.id] 73)) (wr.drewN nq) := ⟨q0, q1, x0, x1, hown, drewN_below hbel _⟩
        clear q0 q1 x0 x1 hown hbel
        generalize wr.drewN nq = wx at F ⊢
        obtain ⟨q0, q1, x0, x1, hown, hbel⟩ := F
        have HS := Lib.hid hst; clear hst
        have tok1 : True := trivial
        go_wp2_with (at_builtin; have _t := tok1; go_loud (refine wpList_append_own _ rfl _ _ 39 rfl (w.heap.size + 1) 73 i0 _ 2 24 Try.underlying39 hi hz0 hz1 hz2 rfl (by decide) _ _ _ rfl (hown.alloc _) ⟨wx.heap.size, 0, none⟩ 1 1 [.string nm, .int .i64 id] rfl rfl (news_ent _ _ _ _) (one_ent _ _) (by unfold maxLen; omega) (by omega) (by have := hbel.size; simp at this ⊢; omega) ?_); intro v1 w1 ho1 hg1 _; clear tok1)
        have hb1 : Below (w.heap.size + 1) (w.alloc (.cells #[.string x.name, .int .i64 x.id] 73)) w1 := (hbel.alloc (by have := hbel.size; simpa using this) _).grown hg1 (by have := hbel.size; simp at this ⊢; omega) (own_block hown)
        have R : WithR w x (withK l x (k + 1)) v1 (.bool true) w1 := ⟨by rw [HS.out], by rw [HS.out, Ent.flat_app, List.length_append]; exact ho1, hb1⟩
        have RR := Lib.hid R
        clear hg1 hown hbel ho1 hb1 q0 q1 R
        go_wp2
        go_roundw
        case rel => exact ⟨k + 1, by omega, by go_num, RR.out⟩
        case measure => simp [intOf]; omega
    · obtain rfl : k = n := by omega
      have he : withE l x = (if (withK l x k).2 = true then (withK l x k).1 else (withK l x k).1 ++ [x]) := by unfold withE; rw [HN.out]
      obtain ⟨p, hp⟩ : ∃ p, withK l x k = p := ⟨_, rfl⟩
      rw [hp] at he hown hlen ⊢
      obtain ⟨o, d⟩ := p
      simp only at hown hlen
      clear hp
      cases d
      · have he2 : withE l x = o ++ [x] := by rw [he]; rfl
        have ol : o.length ≤ k := by simp at hlen; omega
        have HE := Lib.hid he2
        clear hlen he he2
        have tok1 : True := trivial
        go_wp2_with (at_builtin; have _t := tok1; go_loud (refine wpList_append_own _ rfl _ _ 39 rfl (w.heap.size + 1) 73 i0 _ 2 24 Try.underlying39 hi hz0 hz1 hz2 rfl (by decide) _ _ _ rfl (hown.alloc _) ⟨wr.heap.size, 0, none⟩ 1 1 [.string x.name, .int .i64 x.id] rfl rfl (news_ent _ _ _ _) (one_ent _ _) (by unfold maxLen; omega) (by omega) (by have := hbel.size; simp at this ⊢; omega) ?_); intro v1 w1 ho1 hg1 _; clear tok1)
        have hb1 : Below (w.heap.size + 1) (w.alloc (.cells #[.string x.name, .int .i64 x.id] 73)) w1 := (hbel.alloc (by have := hbel.size; simpa using this) _).grown hg1 (by have := hbel.size; simp at this ⊢; omega) (own_block hown)
        have ho2 : w1.ownsRow (w.heap.size + 1) 73 2 v1 (withE l x).length (Ent.flat (withE l x)) := by
          rw [HE.out, Ent.flat_app, List.length_append]
          exact ho1
        obtain ⟨ad, cp, rfl, hn⟩ := own_ents ho2
        have HNN := Lib.hid hn; have HB := Lib.hid hb1
        clear hn ho1 ho2 hg1 hb1 hbel hown HE
        go_wp2
        go_ret
        exact ⟨ad, cp, rfl, HNN.out.more (fun b hb => ⟨by omega, hb.2⟩), ((Below.refl w.heap.size w).alloc (Nat.le_refl _) _).trans (HB.out.mono (by omega))⟩
      · have he2 : withE l x = o := by rw [he]; rfl
        rw [← he2] at hown
        obtain ⟨ad, cp, rfl, hn⟩ := own_ents hown
        have HNN := Lib.hid hn
        clear hn hown hlen he he2
        go_wp2
        go_ret
        exact ⟨ad, cp, rfl, HNN.out.more (fun b hb => ⟨by omega, hb.2⟩), ((Below.refl w.heap.size w).alloc (Nat.le_refl _) _).trans (hbel.mono (by omega))⟩
end Go.Proofs.Ytpcbfkcpefcnjaa
