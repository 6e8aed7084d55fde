/-
  Joined: FoldRef, FoldRef2, FoldRef3, FoldRef4, FoldRef5, FoldRef6.
-/
import Derived.Test.YtfgecjlccngddaaGreatJEnt
import Derived.Test.YtfgecjlccngddaaGreatJBase
import Derived.Test.YtfgecjlccngddaaGreatJPieceRef
import Derived.BigQuiet
import Derived.Deep.DeepCutAuto
import Derived.Deep.QuietTactic
import Derived.WalkLawsBesides
import Derived.Deep.RegionHeld3
namespace Go.Proofs.YtfgecjlccngddaaGreat
set_option linter.unusedSimpArgs false
set_option linter.unusedVariables false
open Go.RowKit
set_option linter.unusedVariables false

set_option maxRecDepth 100000 in
set_option maxHeartbeats 400000 in
theorem rfind9_any (a : Option Addr) (l : List Ent) (c : Nat) (s : ByteArray) (B : Nat → Prop) (w : World) (hr : Ents w B a l) (hl : l.length ≤ 1000000) :
    Calls Tryz.prog 126 #[.slice a l.length c, .string s] w fun e w' => e = .returned (.tuple #[.int .i64 ((findE l s).getD 0), .bool (findE l s).isSome]) ∧ w = w' := by
  obtain ⟨n, hn⟩ : ∃ n, l.length = n := ⟨_, rfl⟩
  rw [hn] at hl ⊢
  have HN := Lib.hid hn; have HR := Lib.hid hr
  clear hn hr
  obtain ⟨r, hfr⟩ : ∃ r, findE l s = r := ⟨_, rfl⟩
  rw [hfr]
  have HF := Lib.hid hfr; clear hfr
  go_enter Tryz.func126, Tryz.ntmps126
  go_wp2
  go_loop [6] (fun i => ∃ k : Nat, k ≤ n ∧ i = .int .i64 k ∧ (l.take k).find? (nmB s) = none) (fun i => n - (intOf i).toNat)
  case atStart => exact ⟨0, Nat.zero_le _, rfl, rfl⟩
  case round =>
    obtain ⟨k, hk, rfl, hnone⟩ := hrel
    by_cases hlt : k < n
    · have hkl : k < l.length := by rw [HN.out]; exact hlt
      obtain ⟨ad, rfl, hab, q0, q1⟩ := HR.out k hkl
      have hs := findE_some l s k hkl hnone
      have ht := findE_none l s k hkl hnone
      obtain ⟨x, hx⟩ : ∃ x, l[k]'hkl = x := ⟨_, rfl⟩
      rw [hx] at q0 q1 hs ht
      obtain ⟨nm, id⟩ := x
      simp only at q0 q1 hs ht
      clear hx
      have b0 : (0 : Int) ≤ (k : Int) := by omega
      have b1 : (k : Int) < (n : Int) := by omega
      by_cases he : nm = s
      · subst he
        have hs2 := hs rfl
        rw [HF.out] at hs2
        subst hs2
        clear ht hs hnone
        go_wp2
        go_ret2
        exact ⟨rfl, rfl⟩
      · have hne := str_ne he
        have HT := Lib.hid (ht he)
        clear ht hs hnone he
        go_wp2
        go_round
        case rel => exact ⟨k + 1, by omega, by go_num, HT.out⟩
        case measure => simp [intOf]; omega
    · obtain rfl : k = n := by omega
      have h0 : r = none := by
        rw [← HF.out]; unfold findE
        rw [List.take_of_length_le (by rw [HN.out]; exact Nat.le_refl _)] at hnone
        rw [hnone]; rfl
      subst h0
      clear hnone
      go_wp2
      go_ret2
      exact ⟨rfl, rfl⟩

set_option maxRecDepth 100000 in
set_option maxHeartbeats 800000 in
theorem rwithout_any (a : Option Addr) (l : List Ent) (c : Nat) (s : ByteArray) (B : Nat → Prop) (w : World) (hr : Ents w B a l) (hB : ∀ b, B b → b < w.heap.size) (hl : l.length ≤ 1000000) :
    Calls Tryz.prog 176 #[.slice a l.length c, .string s] w (RetEnts w (withoutE l s)) := by
  obtain ⟨i0, hi, hz0, hz1, hz2⟩ := info_parts ent_info
  obtain ⟨n, hn⟩ : ∃ n, l.length = n := ⟨_, rfl⟩
  rw [hn] at hl ⊢
  have HN := Lib.hid hn; have HR := Lib.hid hr
  clear hn hr
  go_enter Tryz.func176, Tryz.ntmps176
  go_wp2
  go_loopw [5, 6] (fun v i wr => ∃ k : Nat, k ≤ n ∧ i = .int .i64 k ∧ wr.ownsRow w.heap.size 160 2 v (withoutE (l.take k) s).length (Ent.flat (withoutE (l.take k) s)) ∧ Below w.heap.size w wr) (fun _ i _ => n - (intOf i).toNat)
  case atStart => exact ⟨0, Nat.zero_le _, rfl, World.ownsRow_nil _ _ _ _, Below.refl _ _⟩
  case round =>
    obtain ⟨k, hk, rfl, hown, hbel⟩ := hrel
    by_cases hlt : k < n
    · have hkl : k < l.length := by rw [HN.out]; exact hlt
      obtain ⟨ad, rfl, hab, q0, q1⟩ := (HR.out.below hB hbel) k hkl
      have hs := withoutE_same l s k hkl
      have ht := withoutE_more l s k hkl
      have hlen := withoutE_len (l.take k) s
      have hlk : (l.take k).length ≤ k := List.length_take_le _ _
      obtain ⟨x, hx⟩ : ∃ x, l[k]'hkl = x := ⟨_, rfl⟩
      rw [hx] at q0 q1 hs ht
      obtain ⟨nm, id⟩ := x
      simp only at q0 q1 hs ht
      clear hx
      have b0 : (0 : Int) ≤ (k : Int) := by omega
      have b1 : (k : Int) < (n : Int) := by omega
      by_cases he : nm = s
      · have HS := Lib.hid (hs he); clear hs ht
        subst he
        go_wp2
        go_roundw
        case rel => exact ⟨k + 1, by omega, by go_num, by rw [HS.out]; exact hown, hbel⟩
        case measure => simp [intOf]; omega
      · have HS := Lib.hid (ht he); clear hs ht
        have hne := str_ne he
        have hne2 : (nm.toList != s.toList) = true := by rw [bne, hne]; rfl
        clear he
        have HO := Lib.hid hown
        go_wp2_with (at_builtin; refine wpList_append_own _ rfl _ _ 158 rfl w.heap.size 160 i0 _ 2 24 Tryz.underlying158 hi hz0 hz1 hz2 rfl (by decide) _ _ _ rfl (hown.alloc _) ⟨wr.heap.size, 0, none⟩ 1 1 [.string nm, .int .i64 id] rfl rfl (news_ent _ _ _ _) (one_ent _ _) (by unfold maxLen; omega) (by omega) (by have := hbel.size; simp; omega) ?_; intro v' w1 hown' hgrow _)
        have hb1 : Below w.heap.size w w1 := (hbel.alloc hbel.size _).grown hgrow (by have := hbel.size; simp; omega) (own_block hown)
        have ho1 : w1.ownsRow w.heap.size 160 2 v' (withoutE (l.take (k + 1)) s).length (Ent.flat (withoutE (l.take (k + 1)) s)) := by
          rw [HS.out, Ent.flat_app, List.length_append]
          exact hown'
        have HO1 := Lib.hid ho1; have HB := Lib.hid hb1
        clear hown' hgrow hown hbel ho1 hb1 HO
        go_wp2
        go_roundw
        case rel => exact ⟨k + 1, by omega, by go_num, HO1.out, HB.out⟩
        case measure => simp [intOf]; omega
    · obtain rfl : k = n := by omega
      rw [List.take_of_length_le (by rw [HN.out]; exact Nat.le_refl _)] at hown
      obtain ⟨ad, cp, rfl, hn⟩ := own_ents hown
      have HNN := Lib.hid hn; clear hn hown
      go_wp2
      go_ret
      exact ⟨ad, cp, rfl, HNN.out, hbel⟩
end Go.Proofs.YtfgecjlccngddaaGreat
namespace Go.Proofs.YtfgecjlccngddaaGreat
set_option linter.unusedSimpArgs false
set_option linter.unusedVariables false
open Go.RowKit
set_option linter.unusedVariables false

theorem gtB_yes {s n : ByteArray} {id : Int} (h : gtB s ⟨n, id⟩ = true) : Op.bytesLess n.toList s.toList = false ∧ (n.toList == s.toList) = false := by
  unfold gtB at h
  simpa using h
theorem gtB_no {s n : ByteArray} {id : Int} (h : gtB s ⟨n, id⟩ = false) : Op.bytesLess n.toList s.toList = true ∨ n = s := by
  unfold gtB at h
  rcases hb : Op.bytesLess n.toList s.toList with _ | _
  · right
    rw [hb] at h
    simp at h
    exact ByteArray.ext (by
      have := h
      rw [ByteArray.toList_eq, ByteArray.toList_eq] at this
      exact Array.toList_inj.1 this)
  · exact .inl rfl
theorem withS_put (x : Ent) (o : List Ent) (e : Ent) (h : gtB x.name e = true) : withS x (o, false) e = (o ++ [x] ++ [e], true) := by unfold withS; rw [if_pos ⟨rfl, h⟩]
theorem withS_no (x : Ent) (o : List Ent) (e : Ent) (h : gtB x.name e = false) : withS x (o, false) e = (o ++ [e], false) := by unfold withS; rw [if_neg (by simp [h])]
theorem withS_done (x : Ent) (o : List Ent) (e : Ent) : withS x (o, true) e = (o ++ [e], true) := by unfold withS; rw [if_neg (by simp)]
/-- A slot of a bool, and the rest of a state. -/
def WithR (w : World) (x : Ent) (p : List Ent × Bool) (v d : Value) (wr : World) : Prop :=
  d = .bool p.2 ∧ wr.ownsRow (w.heap.size + 1) 160 2 v p.1.length (Ent.flat p.1) ∧ Below (w.heap.size + 1) (w.alloc (.cells #[.string x.name, .int .i64 x.id] 160)) wr
theorem box_cells {w wr : World} {x y : Value} {t : TypeId} (h : Below (w.heap.size + 1) (w.alloc (.cells #[x, y] t)) wr) : wr.cell? ⟨w.heap.size, 0, none⟩ = some x ∧ wr.cell? ⟨w.heap.size, 1, none⟩ = some y := by
  refine ⟨(h.cell (p := ⟨w.heap.size, 0, none⟩) (by simp)).trans ?_, (h.cell (p := ⟨w.heap.size, 1, none⟩) (by simp)).trans ?_⟩ <;> simp [World.cell?_alloc_new]

set_option maxRecDepth 100000 in
set_option maxHeartbeats 1600000 in
theorem rwith_any (a : Option Addr) (l : List Ent) (c : Nat) (x : Ent) (B : Nat → Prop) (w : World) (hr : Ents w B a l) (hB : ∀ b, B b → b < w.heap.size) (hl : l.length ≤ 1000000) :
    Calls Tryz.prog 128 #[.slice a l.length c, x.v] w (RetEnts w (withE l x)) := by
  obtain ⟨i0, hi, hz0, hz1, hz2⟩ := info_parts ent_info
  obtain ⟨n, hn⟩ : ∃ n, l.length = n := ⟨_, rfl⟩
  rw [hn] at hl ⊢
  have HN := Lib.hid hn; have HR := Lib.hid hr
  clear hn hr
  go_enter Tryz.func128, Tryz.ntmps128
  go_wp2
  go_loopw [5, 6, 7] (fun v d i wr => ∃ k : Nat, k ≤ n ∧ i = .int .i64 k ∧ WithR w x (withK l x k) v d wr) (fun _ _ i _ => n - (intOf i).toNat)
  case atStart => exact ⟨0, Nat.zero_le _, rfl, rfl, World.ownsRow_nil _ _ _ _, Below.refl _ _⟩
  case round =>
    obtain ⟨k, hk, rfl, rfl, hown, hbel⟩ := hrel
    obtain ⟨x0, x1⟩ := box_cells hbel
    have hlen := withK_len l x k (by rw [HN.out]; exact hk)
    by_cases hlt : k < n
    · have hkl : k < l.length := by rw [HN.out]; exact hlt
      have hBw : Below w.heap.size w wr := ((Below.refl w.heap.size w).alloc (Nat.le_refl _) _).trans (hbel.mono (by omega))
      obtain ⟨ad, rfl, hab, q0, q1⟩ := (HR.out.below hB hBw) k hkl
      have hab := hB _ hab
      have hst := withK_succ l x k hkl
      obtain ⟨e, he⟩ : ∃ e, l[k]'hkl = e := ⟨_, rfl⟩
      rw [he] at q0 q1 hst
      obtain ⟨nm, id⟩ := e
      simp only at q0 q1
      clear he hBw
      have b0 : (0 : Int) ≤ (k : Int) := by omega
      have b1 : (k : Int) < (n : Int) := by omega
      obtain ⟨p, hp⟩ : ∃ p, withK l x k = p := ⟨_, rfl⟩
      rw [hp] at hst hown hlen ⊢
      obtain ⟨o, d⟩ := p
      simp only at hown hlen
      clear hp
      cases d
      · have ol : o.length ≤ n := by simp at hlen; omega
        clear hlen
        rcases hg : gtB x.name ⟨nm, id⟩ with _ | _
        · rw [withS_no x o _ hg] at hst
          rcases gtB_no hg with h | h
          · clear hg
            go_wp2_with fail
            go_quiet (fail)
            have F : (wr.drewN nq).cell? (ad.add (k * 2)) = some (.string nm) ∧ (wr.drewN nq).cell? ⟨(ad.add (k * 2)).block, (ad.add (k * 2)).off + 1, none⟩ = some (.int .i64 id) ∧ (wr.drewN nq).cell? ⟨w.heap.size, 0, none⟩ = some (.string x.name) ∧ (wr.drewN nq).cell? ⟨w.heap.size, 1, none⟩ = some (.int .i64 x.id) ∧
                (wr.drewN nq).ownsRow (w.heap.size + 1) 160 2 u5 o.length (Ent.flat o) ∧ Below (w.heap.size + 1) (w.alloc (.cells #[.string x.name, .int .i64 x.id] 160)) (wr.drewN nq) := ⟨q0, q1, x0, x1, hown, drewN_below hbel _⟩
            clear q0 q1 x0 x1 hown hbel
            generalize wr.drewN nq = wx at F ⊢
            obtain ⟨q0, q1, x0, x1, hown, hbel⟩ := F
            have HS := Lib.hid hst; clear hst
            have tok1 : True := trivial
            go_wp2_with (at_builtin; have _t := tok1; go_loud (refine wpList_append_own _ rfl _ _ 158 rfl (w.heap.size + 1) 160 i0 _ 2 24 Tryz.underlying158 hi hz0 hz1 hz2 rfl (by decide) _ _ _ rfl (hown.alloc _) ⟨wx.heap.size, 0, none⟩ 1 1 [.string nm, .int .i64 id] rfl rfl (news_ent _ _ _ _) (one_ent _ _) (by unfold maxLen; omega) (by omega) (by have := hbel.size; simp at this ⊢; omega) ?_); intro v1 w1 ho1 hg1 _; clear tok1)
            have hb1 : Below (w.heap.size + 1) (w.alloc (.cells #[.string x.name, .int .i64 x.id] 160)) w1 := (hbel.alloc (by have := hbel.size; simpa using this) _).grown hg1 (by have := hbel.size; simp at this ⊢; omega) (own_block hown)
            have R : WithR w x (withK l x (k + 1)) v1 (.bool false) w1 := ⟨by rw [HS.out], by rw [HS.out, Ent.flat_app, List.length_append]; exact ho1, hb1⟩
            have RR := Lib.hid R
            clear hg1 hown hbel ho1 hb1 q0 q1 R
            go_wp2
            go_roundw
            case rel => exact ⟨k + 1, by omega, by go_num, RR.out⟩
            case measure => simp [intOf]; omega
          · subst h
            clear hg
            go_wp2_with fail
            go_quiet (fail)
            have F : (wr.drewN nq).cell? (ad.add (k * 2)) = some (.string x.name) ∧ (wr.drewN nq).cell? ⟨(ad.add (k * 2)).block, (ad.add (k * 2)).off + 1, none⟩ = some (.int .i64 id) ∧ (wr.drewN nq).cell? ⟨w.heap.size, 0, none⟩ = some (.string x.name) ∧ (wr.drewN nq).cell? ⟨w.heap.size, 1, none⟩ = some (.int .i64 x.id) ∧
                (wr.drewN nq).ownsRow (w.heap.size + 1) 160 2 u5 o.length (Ent.flat o) ∧ Below (w.heap.size + 1) (w.alloc (.cells #[.string x.name, .int .i64 x.id] 160)) (wr.drewN nq) := ⟨q0, q1, x0, x1, hown, drewN_below hbel _⟩
            clear q0 q1 x0 x1 hown hbel
            generalize wr.drewN nq = wx at F ⊢
            obtain ⟨q0, q1, x0, x1, hown, hbel⟩ := F
            have HS := Lib.hid hst; clear hst
            have tok1 : True := trivial
            go_wp2_with (at_builtin; have _t := tok1; go_loud (refine wpList_append_own _ rfl _ _ 158 rfl (w.heap.size + 1) 160 i0 _ 2 24 Tryz.underlying158 hi hz0 hz1 hz2 rfl (by decide) _ _ _ rfl (hown.alloc _) ⟨wx.heap.size, 0, none⟩ 1 1 [.string x.name, .int .i64 id] rfl rfl (news_ent _ _ _ _) (one_ent _ _) (by unfold maxLen; omega) (by omega) (by have := hbel.size; simp at this ⊢; omega) ?_); intro v1 w1 ho1 hg1 _; clear tok1)
            have hb1 : Below (w.heap.size + 1) (w.alloc (.cells #[.string x.name, .int .i64 x.id] 160)) w1 := (hbel.alloc (by have := hbel.size; simpa using this) _).grown hg1 (by have := hbel.size; simp at this ⊢; omega) (own_block hown)
            have R : WithR w x (withK l x (k + 1)) v1 (.bool false) w1 := ⟨by rw [HS.out], by rw [HS.out, Ent.flat_app, List.length_append]; exact ho1, hb1⟩
            have RR := Lib.hid R
            clear hg1 hown hbel ho1 hb1 q0 q1 R
            go_wp2
            go_roundw
            case rel => exact ⟨k + 1, by omega, by go_num, RR.out⟩
            case measure => simp [intOf]; omega
        · rw [withS_put x o _ hg] at hst
          obtain ⟨g1, g2⟩ := gtB_yes hg
          clear hg
          go_wp2_with fail
          go_quiet (fail)
          have F : (wr.drewN nq).cell? (ad.add (k * 2)) = some (.string nm) ∧ (wr.drewN nq).cell? ⟨(ad.add (k * 2)).block, (ad.add (k * 2)).off + 1, none⟩ = some (.int .i64 id) ∧ (wr.drewN nq).cell? ⟨w.heap.size, 0, none⟩ = some (.string x.name) ∧ (wr.drewN nq).cell? ⟨w.heap.size, 1, none⟩ = some (.int .i64 x.id) ∧
              (wr.drewN nq).ownsRow (w.heap.size + 1) 160 2 u5 o.length (Ent.flat o) ∧ Below (w.heap.size + 1) (w.alloc (.cells #[.string x.name, .int .i64 x.id] 160)) (wr.drewN nq) := ⟨q0, q1, x0, x1, hown, drewN_below hbel _⟩
          clear q0 q1 x0 x1 hown hbel
          generalize wr.drewN nq = wx at F ⊢
          obtain ⟨q0, q1, x0, x1, hown, hbel⟩ := F
          have HS := Lib.hid hst; clear hst
          have tok1 : True := trivial
          go_upto_region 9 with (at_builtin; have _t := tok1; go_loud (refine wpList_append_own _ rfl _ _ 158 rfl (w.heap.size + 1) 160 i0 _ 2 24 Tryz.underlying158 hi hz0 hz1 hz2 rfl (by decide) _ _ _ rfl (hown.alloc _) ⟨wx.heap.size, 0, none⟩ 1 1 [.string x.name, .int .i64 x.id] rfl rfl (news_ent _ _ _ _) (one_ent _ _) (by unfold maxLen; omega) (by omega) (by have := hbel.size; simp at this ⊢; omega) ?_); intro v1 w1 ho1 hg1 _; clear tok1)
          have hb1 : Below (w.heap.size + 1) (w.alloc (.cells #[.string x.name, .int .i64 x.id] 160)) w1 := (hbel.alloc (by have := hbel.size; simpa using this) _).grown hg1 (by have := hbel.size; simp at this ⊢; omega) (own_block hown)
          have r0 := (hb1.cell (p := ⟨(ad.add (k * 2)).block, (ad.add (k * 2)).off, (ad.add (k * 2)).spot⟩) (by show (ad.add (k * 2)).block < _; rw [show (ad.add (k * 2)).block = ad.block by unfold Addr.add; split <;> rfl]; omega)).trans ((hbel.cell (p := ⟨(ad.add (k * 2)).block, (ad.add (k * 2)).off, (ad.add (k * 2)).spot⟩) (by show (ad.add (k * 2)).block < _; rw [show (ad.add (k * 2)).block = ad.block by unfold Addr.add; split <;> rfl]; omega)).symm.trans q0)
          have r1 := (hb1.cell (p := ⟨(ad.add (k * 2)).block, (ad.add (k * 2)).off + 1, none⟩) (by show (ad.add (k * 2)).block < _; rw [show (ad.add (k * 2)).block = ad.block by unfold Addr.add; split <;> rfl]; omega)).trans ((hbel.cell (p := ⟨(ad.add (k * 2)).block, (ad.add (k * 2)).off + 1, none⟩) (by show (ad.add (k * 2)).block < _; rw [show (ad.add (k * 2)).block = ad.block by unfold Addr.add; split <;> rfl]; omega)).symm.trans q1)
          have e0 : w1.cell? (ad.add (k * 2)) = some (.string nm) := r0
          clear hg1 hown hbel r0 q0 q1
          have tok2 : True := trivial
          go_wp2_with (at_builtin; have _t := tok2; go_loud (refine wpList_append_own _ rfl _ _ 158 rfl (w.heap.size + 1) 160 i0 _ 2 24 Tryz.underlying158 hi hz0 hz1 hz2 rfl (by decide) _ _ _ rfl (ho1.alloc _) ⟨w1.heap.size, 0, none⟩ 1 1 [.string nm, .int .i64 id] rfl rfl (news_ent _ _ _ _) (one_ent _ _) (by unfold maxLen; omega) (by omega) (by have := hb1.size; simp at this ⊢; omega) ?_); intro v2 w2 ho2 hg2 _; clear tok2)
          have hb2 : Below (w.heap.size + 1) (w.alloc (.cells #[.string x.name, .int .i64 x.id] 160)) w2 := (hb1.alloc (by have := hb1.size; simpa using this) _).grown hg2 (by have := hb1.size; simp at this ⊢; omega) (own_block ho1)
          have R : WithR w x (withK l x (k + 1)) v2 (.bool true) w2 := ⟨by rw [HS.out], by rw [HS.out, Ent.flat_app, Ent.flat_app, List.length_append, List.length_append]; exact ho2, hb2⟩
          have RR := Lib.hid R
          clear ho1 hb1 ho2 hg2 hb2 e0 r1 R
          go_wp2
          go_roundw
          case rel => exact ⟨k + 1, by omega, by go_num, RR.out⟩
          case measure => simp [intOf]; omega
      · have ol : o.length ≤ n + 1 := by simp at hlen; omega
        rw [withS_done] at hst
        clear hlen
        go_wp2_with fail
        go_quiet (fail)
        have F : (wr.drewN nq).cell? (ad.add (k * 2)) = some (.string nm) ∧ (wr.drewN nq).cell? ⟨(ad.add (k * 2)).block, (ad.add (k * 2)).off + 1, none⟩ = some (.int .i64 id) ∧ (wr.drewN nq).cell? ⟨w.heap.size, 0, none⟩ = some (.string x.name) ∧ (wr.drewN nq).cell? ⟨w.heap.size, 1, none⟩ = some (.int .i64 x.id) ∧
            (wr.drewN nq).ownsRow (w.heap.size + 1) 160 2 u5 o.length (Ent.flat o) ∧ Below (w.heap.size + 1) (w.alloc (.cells #[.string x.name, .int .i64 x.id] 160)) (wr.drewN nq) := ⟨q0, q1, x0, x1, hown, drewN_below hbel _⟩
        clear q0 q1 x0 x1 hown hbel
        generalize wr.drewN nq = wx at F ⊢
        obtain ⟨q0, q1, x0, x1, hown, hbel⟩ := F
        have HS := Lib.hid hst; clear hst
        have tok1 : True := trivial
        go_wp2_with (at_builtin; have _t := tok1; go_loud (refine wpList_append_own _ rfl _ _ 158 rfl (w.heap.size + 1) 160 i0 _ 2 24 Tryz.underlying158 hi hz0 hz1 hz2 rfl (by decide) _ _ _ rfl (hown.alloc _) ⟨wx.heap.size, 0, none⟩ 1 1 [.string nm, .int .i64 id] rfl rfl (news_ent _ _ _ _) (one_ent _ _) (by unfold maxLen; omega) (by omega) (by have := hbel.size; simp at this ⊢; omega) ?_); intro v1 w1 ho1 hg1 _; clear tok1)
        have hb1 : Below (w.heap.size + 1) (w.alloc (.cells #[.string x.name, .int .i64 x.id] 160)) w1 := (hbel.alloc (by have := hbel.size; simpa using this) _).grown hg1 (by have := hbel.size; simp at this ⊢; omega) (own_block hown)
        have R : WithR w x (withK l x (k + 1)) v1 (.bool true) w1 := ⟨by rw [HS.out], by rw [HS.out, Ent.flat_app, List.length_append]; exact ho1, hb1⟩
        have RR := Lib.hid R
        clear hg1 hown hbel ho1 hb1 q0 q1 R
        go_wp2
        go_roundw
        case rel => exact ⟨k + 1, by omega, by go_num, RR.out⟩
        case measure => simp [intOf]; omega
    · obtain rfl : k = n := by omega
      have he : withE l x = (if (withK l x k).2 = true then (withK l x k).1 else (withK l x k).1 ++ [x]) := by unfold withE; rw [HN.out]
      obtain ⟨p, hp⟩ : ∃ p, withK l x k = p := ⟨_, rfl⟩
      rw [hp] at he hown hlen ⊢
      obtain ⟨o, d⟩ := p
      simp only at hown hlen
      clear hp
      cases d
      · have he2 : withE l x = o ++ [x] := by rw [he]; rfl
        have ol : o.length ≤ k := by simp at hlen; omega
        have HE := Lib.hid he2
        clear hlen he he2
        have tok1 : True := trivial
        go_wp2_with (at_builtin; have _t := tok1; go_loud (refine wpList_append_own _ rfl _ _ 158 rfl (w.heap.size + 1) 160 i0 _ 2 24 Tryz.underlying158 hi hz0 hz1 hz2 rfl (by decide) _ _ _ rfl (hown.alloc _) ⟨wr.heap.size, 0, none⟩ 1 1 [.string x.name, .int .i64 x.id] rfl rfl (news_ent _ _ _ _) (one_ent _ _) (by unfold maxLen; omega) (by omega) (by have := hbel.size; simp at this ⊢; omega) ?_); intro v1 w1 ho1 hg1 _; clear tok1)
        have hb1 : Below (w.heap.size + 1) (w.alloc (.cells #[.string x.name, .int .i64 x.id] 160)) w1 := (hbel.alloc (by have := hbel.size; simpa using this) _).grown hg1 (by have := hbel.size; simp at this ⊢; omega) (own_block hown)
        have ho2 : w1.ownsRow (w.heap.size + 1) 160 2 v1 (withE l x).length (Ent.flat (withE l x)) := by
          rw [HE.out, Ent.flat_app, List.length_append]
          exact ho1
        obtain ⟨ad, cp, rfl, hn⟩ := own_ents ho2
        have HNN := Lib.hid hn; have HB := Lib.hid hb1
        clear hn ho1 ho2 hg1 hb1 hbel hown HE
        go_wp2
        go_ret
        exact ⟨ad, cp, rfl, HNN.out.more (fun b hb => ⟨by omega, hb.2⟩), ((Below.refl w.heap.size w).alloc (Nat.le_refl _) _).trans (HB.out.mono (by omega))⟩
      · have he2 : withE l x = o := by rw [he]; rfl
        rw [← he2] at hown
        obtain ⟨ad, cp, rfl, hn⟩ := own_ents hown
        have HNN := Lib.hid hn
        clear hn hown hlen he he2
        go_wp2
        go_ret
        exact ⟨ad, cp, rfl, HNN.out.more (fun b hb => ⟨by omega, hb.2⟩), ((Below.refl w.heap.size w).alloc (Nat.le_refl _) _).trans (hbel.mono (by omega))⟩
end Go.Proofs.YtfgecjlccngddaaGreat
namespace Go.Proofs.YtfgecjlccngddaaGreat
set_option linter.unusedSimpArgs false
set_option linter.unusedVariables false
open Go.RowKit
set_option linter.unusedVariables false

/-- A slice that reads as these numbers; its row lies below B. -/
def Ints (w : World) (B : Nat) (a : Option Addr) (l : List Int) : Prop :=
  ∀ (k : Nat) (h : k < l.length), ∃ ad, a = some ad ∧ ad.block < B ∧ w.cell? (ad.add k) = some (.int .i64 (l[k]))
theorem Ints.below {w w' : World} {B : Nat} {a : Option Addr} {l : List Int} (h : Ints w B a l) (hb : Below B w w') : Ints w' B a l := fun k hl => by
  obtain ⟨ad, e, hlt, h1⟩ := h k hl
  exact ⟨ad, e, hlt, (hb.cell (by rw [show (ad.add k).block = ad.block by unfold Addr.add; split <;> rfl]; exact hlt)).trans h1⟩
theorem Ints.more {w : World} {B B' : Nat} {a : Option Addr} {l : List Int} (h : Ints w B a l) (hB : B ≤ B') : Ints w B' a l := fun k hl => by
  obtain ⟨ad, e, hb, h1⟩ := h k hl
  exact ⟨ad, e, by omega, h1⟩
theorem own_ints {w : World} {base : Nat} {t : TypeId} {v : Value} {l : List Int} (h : w.ownsRow base t 1 v l.length (l.map (Value.int .i64))) : ∃ a c, v = .slice a l.length c ∧ Ints w w.heap.size a l := by
  rcases h.2 with ⟨rfl, h0⟩ | ⟨g, cap, cur, rfl, _, hg, _⟩
  · exact ⟨none, 0, by rw [h0], fun k hk => absurd hk (by omega)⟩
  · refine ⟨_, _, rfl, fun k hk => ⟨_, rfl, (h.lt g rfl).2, ?_⟩⟩
    refine h.cells (g := g) rfl k _ ?_
    rw [List.getElem?_map, List.getElem?_eq_getElem hk]
    rfl
def RetInts (w : World) (l : List Int) (e : Ending) (w' : World) : Prop := ∃ a c, e = .returned (.slice a l.length c) ∧ Ints w' w'.heap.size a l ∧ Below w.heap.size w w'

theorem addS_put (n : Int) (o : List Int) (e : Int) (h : n < e) : addS n (o, false) e = (o ++ [n] ++ [e], true) := by unfold addS; rw [if_pos ⟨rfl, h⟩]
theorem addS_no (n : Int) (o : List Int) (e : Int) (h : ¬ n < e) : addS n (o, false) e = (o ++ [e], false) := by unfold addS; rw [if_neg (by simp; omega)]
theorem addS_done (n : Int) (o : List Int) (e : Int) : addS n (o, true) e = (o ++ [e], true) := by unfold addS; rw [if_neg (by simp)]
/-- The slots of a round. -/
def AddR (w : World) (p : List Int × Bool) (v d : Value) (wr : World) : Prop :=
  d = .bool p.2 ∧ wr.ownsRow w.heap.size 3 1 v p.1.length (p.1.map (Value.int .i64)) ∧ Below w.heap.size w wr

set_option maxRecDepth 100000 in
set_option maxHeartbeats 1600000 in
theorem radd9_any (a : Option Addr) (l : List Int) (c : Nat) (n : Int) (B : Nat) (w : World) (hr : Ints w B a l) (hB : B ≤ w.heap.size) (hl : l.length ≤ 1000000) :
    Calls Tryz.prog 150 #[.slice a l.length c, .int .i64 n] w (RetInts w (addI l n)) := by
  obtain ⟨i0, hi, hz0, hz1, hz2⟩ := info_parts int_info
  have hself : ∀ wr : World, Below w.heap.size w wr → n ∈ l → RetInts w (addI l n) (.returned (.slice a l.length c)) wr := fun wr hb h => by
    have e : addI l n = l := if_pos h
    rw [e]; exact ⟨a, c, rfl, ((hr.more hB).below hb).more hb.size, hb⟩
  obtain ⟨m, hm⟩ : ∃ m, l.length = m := ⟨_, rfl⟩
  rw [hm] at hl hself ⊢
  have HN := Lib.hid hm; have HR := Lib.hid hr; have SELF := Lib.hid hself
  clear hm hr hself
  go_enter Tryz.func150, Tryz.ntmps150
  go_wp2
  go_loopw [5, 6, 7] (fun v d i wr => ∃ k : Nat, k ≤ m ∧ i = .int .i64 k ∧ n ∉ l.take k ∧ AddR w (addK l n k) v d wr) (fun _ _ i _ => m - (intOf i).toNat)
  case atStart => exact ⟨0, Nat.zero_le _, rfl, by simp, rfl, World.ownsRow_nil _ _ _ _, Below.refl _ _⟩
  case round =>
    obtain ⟨k, hk, rfl, hnk, rfl, hown, hbel⟩ := hrel
    have hlen := addK_len l n k (by rw [HN.out]; exact hk)
    by_cases hlt : k < m
    · have hkl : k < l.length := by rw [HN.out]; exact hlt
      obtain ⟨ad, rfl, hab, q0⟩ := (HR.out.below (hbel.mono hB)) k hkl
      have hst := addK_succ l n k hkl
      have htk := take_get l k hkl
      have hin : l[k]'hkl ∈ l := List.getElem_mem hkl
      have hbk : (ad.add k).block = ad.block := by unfold Addr.add; split <;> rfl
      obtain ⟨e, he⟩ : ∃ e, l[k]'hkl = e := ⟨_, rfl⟩
      rw [he] at q0 hst htk hin
      clear he
      have b0 : (0 : Int) ≤ (k : Int) := by omega
      have b1 : (k : Int) < (m : Int) := by omega
      obtain ⟨p, hp⟩ : ∃ p, addK l n k = p := ⟨_, rfl⟩
      rw [hp] at hst hown hlen ⊢
      obtain ⟨o, d⟩ := p
      simp only at hown hlen
      clear hp
      have ol : o.length ≤ k + 1 := hlen.1
      clear hlen
      by_cases hen : e = n
      · subst hen
        have R := SELF.out _ hbel hin
        have RR := Lib.hid R
        clear hst htk hin R hown hnk hbel
        go_wp2
        go_ret
        exact RR.out
      · have t0 : (e == n) = false := beq_eq_false_iff_ne.2 hen
        have hnk2 : n ∉ l.take (k + 1) := by rw [htk]; simp; exact ⟨hnk, fun h => hen h.symm⟩
        have HNK := Lib.hid hnk2
        clear hen hnk htk hin hnk2
        have HBK := Lib.hid hbk
        cases d
        · by_cases hgt : n < e
          · rw [addS_put n o e hgt] at hst
            have HS := Lib.hid hst; clear hst
            have tok1 : True := trivial
            go_upto_region 11 with (at_builtin; have _t := tok1; refine wpList_append_own _ rfl _ _ 86 rfl w.heap.size 3 i0 (.int .i64 0) 1 8 Tryz.underlying86 hi hz0 hz1 hz2 rfl (by decide) _ _ _ rfl (hown.alloc _) ⟨wr.heap.size, 0, none⟩ 1 1 [.int .i64 n] rfl rfl (news_int _ _ _) (one_int _) (by unfold maxLen; omega) (by omega) (by have := hbel.size; simp; omega) ?_; intro v1 w1 ho1 hg1 _; clear tok1)
            have hb1 : Below w.heap.size w w1 := (hbel.alloc hbel.size _).grown hg1 (by have := hbel.size; simp; omega) (own_block hown)
            have e0 : w1.cell? (ad.add k) = some (.int .i64 e) := (hb1.cell (by rw [hbk]; omega)).trans ((hbel.cell (by rw [hbk]; omega)).symm.trans q0)
            clear hg1 hown hbel q0
            have tok2 : True := trivial
            go_wp2_with (at_builtin; have _t := tok2; refine wpList_append_own _ rfl _ _ 86 rfl w.heap.size 3 i0 (.int .i64 0) 1 8 Tryz.underlying86 hi hz0 hz1 hz2 rfl (by decide) _ _ _ rfl (ho1.alloc _) ⟨w1.heap.size, 0, none⟩ 1 1 [.int .i64 e] rfl rfl (news_int _ _ _) (one_int _) (by unfold maxLen; omega) (by omega) (by have := hb1.size; simp; omega) ?_; intro v2 w2 ho2 hg2 _; clear tok2)
            have hb2 : Below w.heap.size w w2 := (hb1.alloc hb1.size _).grown hg2 (by have := hb1.size; simp; omega) (own_block ho1)
            have R : AddR w (addK l n (k + 1)) v2 (.bool true) w2 := ⟨by rw [HS.out], by rw [HS.out, List.map_append, List.map_append, List.length_append, List.length_append]; exact ho2, hb2⟩
            have RR := Lib.hid R
            clear ho1 hb1 ho2 hg2 hb2 e0 R
            go_wp2
            go_roundw
            case rel => exact ⟨k + 1, by omega, by go_num, HNK.out, RR.out⟩
            case measure => simp [intOf]; omega
          · rw [addS_no n o e hgt] at hst
            have hgt2 : e ≤ n := by omega
            clear hgt
            have HS := Lib.hid hst; clear hst
            have tok1 : True := trivial
            go_wp2_with (at_builtin; have _t := tok1; refine wpList_append_own _ rfl _ _ 86 rfl w.heap.size 3 i0 (.int .i64 0) 1 8 Tryz.underlying86 hi hz0 hz1 hz2 rfl (by decide) _ _ _ rfl (hown.alloc _) ⟨wr.heap.size, 0, none⟩ 1 1 [.int .i64 e] rfl rfl (news_int _ _ _) (one_int _) (by unfold maxLen; omega) (by omega) (by have := hbel.size; simp; omega) ?_; intro v1 w1 ho1 hg1 _; clear tok1)
            have hb1 : Below w.heap.size w w1 := (hbel.alloc hbel.size _).grown hg1 (by have := hbel.size; simp; omega) (own_block hown)
            have R : AddR w (addK l n (k + 1)) v1 (.bool false) w1 := ⟨by rw [HS.out], by rw [HS.out, List.map_append, List.length_append]; exact ho1, hb1⟩
            have RR := Lib.hid R
            clear hg1 hown hbel ho1 hb1 q0 R
            go_wp2
            go_roundw
            case rel => exact ⟨k + 1, by omega, by go_num, HNK.out, RR.out⟩
            case measure => simp [intOf]; omega
        · rw [addS_done n o e] at hst
          have HS := Lib.hid hst; clear hst
          have tok1 : True := trivial
          go_wp2_with (at_builtin; have _t := tok1; refine wpList_append_own _ rfl _ _ 86 rfl w.heap.size 3 i0 (.int .i64 0) 1 8 Tryz.underlying86 hi hz0 hz1 hz2 rfl (by decide) _ _ _ rfl (hown.alloc _) ⟨wr.heap.size, 0, none⟩ 1 1 [.int .i64 e] rfl rfl (news_int _ _ _) (one_int _) (by unfold maxLen; omega) (by omega) (by have := hbel.size; simp; omega) ?_; intro v1 w1 ho1 hg1 _; clear tok1)
          have hb1 : Below w.heap.size w w1 := (hbel.alloc hbel.size _).grown hg1 (by have := hbel.size; simp; omega) (own_block hown)
          have R : AddR w (addK l n (k + 1)) v1 (.bool true) w1 := ⟨by rw [HS.out], by rw [HS.out, List.map_append, List.length_append]; exact ho1, hb1⟩
          have RR := Lib.hid R
          clear hg1 hown hbel ho1 hb1 q0 R
          go_wp2
          go_roundw
          case rel => exact ⟨k + 1, by omega, by go_num, HNK.out, RR.out⟩
          case measure => simp [intOf]; omega
    · obtain rfl : k = m := by omega
      have hnl : n ∉ l := by rw [List.take_of_length_le (by rw [HN.out]; exact Nat.le_refl _)] at hnk; exact hnk
      have he : addI l n = (if (addK l n k).2 = true then (addK l n k).1 else (addK l n k).1 ++ [n]) := by unfold addI; rw [if_neg hnl, HN.out]
      clear hnk hnl
      obtain ⟨p, hp⟩ : ∃ p, addK l n k = p := ⟨_, rfl⟩
      rw [hp] at he hown hlen ⊢
      obtain ⟨o, d⟩ := p
      simp only at hown hlen
      clear hp
      have ol : o.length ≤ k + 1 := hlen.1
      clear hlen
      cases d
      · have he2 : addI l n = o ++ [n] := by rw [he]; rfl
        have HE := Lib.hid he2
        clear he he2
        have tok1 : True := trivial
        go_wp2_with (at_builtin; have _t := tok1; refine wpList_append_own _ rfl _ _ 86 rfl w.heap.size 3 i0 (.int .i64 0) 1 8 Tryz.underlying86 hi hz0 hz1 hz2 rfl (by decide) _ _ _ rfl (hown.alloc _) ⟨wr.heap.size, 0, none⟩ 1 1 [.int .i64 n] rfl rfl (news_int _ _ _) (one_int _) (by unfold maxLen; omega) (by omega) (by have := hbel.size; simp; omega) ?_; intro v1 w1 ho1 hg1 _; clear tok1)
        have hb1 : Below w.heap.size w w1 := (hbel.alloc hbel.size _).grown hg1 (by have := hbel.size; simp; omega) (own_block hown)
        have ho2 : w1.ownsRow w.heap.size 3 1 v1 (addI l n).length ((addI l n).map (Value.int .i64)) := by
          rw [HE.out, List.map_append, List.length_append]
          exact ho1
        obtain ⟨ad, cp, rfl, hn⟩ := own_ints ho2
        have HNN := Lib.hid hn; have HB := Lib.hid hb1
        clear hn ho1 ho2 hg1 hb1 hbel hown HE
        go_wp2
        go_ret
        exact ⟨ad, cp, rfl, HNN.out, HB.out⟩
      · have he2 : addI l n = o := by rw [he]; rfl
        rw [← he2] at hown
        obtain ⟨ad, cp, rfl, hn⟩ := own_ints hown
        have HNN := Lib.hid hn
        clear hn hown he he2
        go_wp2
        go_ret
        exact ⟨ad, cp, rfl, HNN.out, hbel⟩
end Go.Proofs.YtfgecjlccngddaaGreat
namespace Go.Proofs.YtfgecjlccngddaaGreat
set_option linter.unusedSimpArgs false
set_option linter.unusedVariables false
open Go.RowKit
set_option linter.unusedVariables false

theorem add_block (a : Addr) (k : Nat) : (a.add k).block = a.block := by unfold Addr.add; split <;> rfl
/-- A slice of slices that reads as these lists; all of it lies below B. -/
def LLs (w : World) (B : Nat → Prop) (a : Option Addr) (L : List (List Ent)) : Prop :=
  ∀ (k : Nat) (h : k < L.length), ∃ ad, a = some ad ∧ B ad.block ∧ ∃ ai ci, w.cell? (ad.add k) = some (.slice ai (L[k]).length ci) ∧ Ents w B ai L[k]
theorem LLs.keep {w w' : World} {B : Nat → Prop} {a : Option Addr} {L : List (List Ent)} (h : LLs w B a L) (hk : ∀ p : Addr, B p.block → w'.cell? p = w.cell? p) : LLs w' B a L := fun k hl => by
  obtain ⟨ad, e, hlt, ai, ci, h1, h2⟩ := h k hl
  exact ⟨ad, e, hlt, ai, ci, (hk _ (by rw [add_block]; exact hlt)).trans h1, h2.keep hk⟩
theorem LLs.below {w w' : World} {B : Nat → Prop} {N : Nat} {a : Option Addr} {L : List (List Ent)} (h : LLs w B a L) (hN : ∀ b, B b → b < N) (hb : Below N w w') : LLs w' B a L := h.keep fun _ hp => hb.cell (hN _ hp)
theorem LLs.more {w : World} {B B' : Nat → Prop} {a : Option Addr} {L : List (List Ent)} (h : LLs w B a L) (hB : ∀ b, B b → B' b) : LLs w B' a L := fun k hl => by
  obtain ⟨ad, e, hb, ai, ci, h1, h2⟩ := h k hl
  exact ⟨ad, e, hB _ hb, ai, ci, h1, h2.more hB⟩
/-- Those that were there, and what came since. -/
def Grow (P : Nat → Prop) (n m : Nat) : Nat → Prop := fun b => P b ∨ (n ≤ b ∧ b < m)
/-- The folder's value. -/
abbrev fdV (a : Option Addr) (n c : Nat) : Value := .agg #[.slice a n c]
def nowL (L : List (List Ent)) : List Ent := L.getLastD []
def keptL (L : List (List Ent)) : List Ent := L.headD []
theorem nowL_get (L : List (List Ent)) (h : L ≠ []) : nowL L = L[L.length - 1]'(by have := List.length_pos_iff.2 h; omega) := by
  unfold nowL
  rw [List.getLastD_eq_getLast?, List.getLast?_eq_getElem?, List.getElem?_eq_getElem (by have := List.length_pos_iff.2 h; omega)]
  rfl
theorem keptL_get (L : List (List Ent)) (h : L ≠ []) : keptL L = L[0]'(List.length_pos_iff.2 h) := by
  cases L with
  | nil => exact absurd rfl h
  | cons a r => rfl

def RetEntsB (w : World) (B : Nat → Prop) (l : List Ent) (e : Ending) (w' : World) : Prop := ∃ a c, e = .returned (.slice a l.length c) ∧ Ents w' B a l ∧ Below w.heap.size w w'
set_option maxRecDepth 100000 in
set_option maxHeartbeats 400000 in
theorem rnow9_any (a : Option Addr) (L : List (List Ent)) (c : Nat) (B : Nat → Prop) (w : World) (h : LLs w B a L) (hB : ∀ b, B b → b < w.heap.size) (hL : L ≠ []) (hn : L.length ≤ 1000000) :
    Calls Tryz.prog 119 #[fdV a L.length c] w (RetEntsB w B (nowL L)) := by
  have hpos := List.length_pos_iff.2 hL
  rw [nowL_get L hL]
  obtain ⟨ad, rfl, hab, ai, ci, h1, h2⟩ := h (L.length - 1) (by omega)
  obtain ⟨x, hx⟩ : ∃ x, L[L.length - 1]'(by omega) = x := ⟨_, rfl⟩
  rw [hx] at h1 h2 ⊢
  obtain ⟨n, hnn⟩ : ∃ n, L.length = n + 1 := ⟨L.length - 1, by omega⟩
  rw [hnn] at h1 hn ⊢
  rw [show n + 1 - 1 = n by omega] at h1
  have hb := (Below.refl w.heap.size w).alloc (Nat.le_refl _) (.cells #[.slice (some ad) (n + 1) c] 30)
  have c1 := (hb.cell (by rw [add_block]; exact hB _ hab)).trans h1
  have HB := Lib.hid hb; have H2 := Lib.hid h2
  clear hx hnn h1 h2 hb h hpos
  have b0 : (0 : Int) ≤ (n : Int) + 1 - 1 := by omega
  have b1 : (n : Int) + 1 - 1 < ((n : Int) + 1) := by omega
  go_enter Tryz.func119, Tryz.ntmps119
  go_wp2
  go_ret
  exact ⟨ai, ci, rfl, H2.out.below hB HB.out, HB.out⟩
/-- A folder made by the call: its row is one of the call's own. -/
def RetFdN (w : World) (P : Nat → Prop) (L : List (List Ent)) (e : Ending) (w' : World) : Prop := ∃ ad c, e = .returned (fdV (some ad) L.length c) ∧ w.heap.size ≤ ad.block ∧ LLs w' (Grow P w.heap.size w'.heap.size) (some ad) L ∧ Below w.heap.size w w'
def RetFd (w : World) (P : Nat → Prop) (L : List (List Ent)) (e : Ending) (w' : World) : Prop := ∃ a c, e = .returned (fdV a L.length c) ∧ LLs w' (Grow P w.heap.size w'.heap.size) a L ∧ Below w.heap.size w w'
def RetFdV (w : World) (P : Nat → Prop) (L : List (List Ent)) (v : Value) (e : Ending) (w' : World) : Prop := ∃ a c, e = .returned (.tuple #[fdV a L.length c, v]) ∧ LLs w' (Grow P w.heap.size w'.heap.size) a L ∧ Below w.heap.size w w'
theorem lls_one {w : World} {B : Nat → Prop} {ai : Option Addr} {ci : Nat} {l : List Ent} {ad : Addr} (hB : B ad.block) (h : w.cell? (ad.add 0) = some (.slice ai l.length ci)) (he : Ents w B ai l) : LLs w B (some ad) [l] := fun k hk => by
  obtain rfl : k = 0 := by simpa using hk
  exact ⟨ad, rfl, hB, ai, ci, h, he⟩
set_option maxRecDepth 100000 in
set_option maxHeartbeats 400000 in
theorem rnew9_any (w : World) : Calls Tryz.prog 31 #[] w (RetFd w (fun _ => False) [[]]) := by
  go_enter Tryz.func31, Tryz.ntmps31
  go_wp2
  refine bodyPost_ret (v := fdV (some ⟨w.heap.size + 1, 0, none⟩) 1 1) (by simp [results, Tryz.results31, go_sem]) rfl ⟨_, _, rfl, ?_, ((Below.refl _ _).alloc (Nat.le_refl _) _).alloc (by simp) _⟩
  refine lls_one (ai := none) (ci := 0) (.inr (by simp)) ?_ (fun k hk => absurd hk (by simp))
  simp [Addr.add, World.cell?_alloc_at]
theorem entry_info : (Tryz.prog.info? 158).map (fun i => (i.zero, i.size, i.bytes)) = some (some (.slice none 0 0), 1, 24) := by kernel_rfl
/-- Values that are such slices. -/
def SlV (w : World) (B : Nat → Prop) (xs : List Value) (L : List (List Ent)) : Prop :=
  xs.length = L.length ∧ ∀ (k : Nat) (h : k < L.length), ∃ ai ci, xs[k]? = some (.slice ai (L[k]).length ci) ∧ Ents w B ai L[k]
theorem SlV.below {w w' : World} {B : Nat → Prop} {N : Nat} {xs : List Value} {L : List (List Ent)} (h : SlV w B xs L) (hN : ∀ b, B b → b < N) (hb : Below N w w') : SlV w' B xs L :=
  ⟨h.1, fun k hk => by obtain ⟨ai, ci, h1, h2⟩ := h.2 k hk; exact ⟨ai, ci, h1, h2.below hN hb⟩⟩
theorem SlV.more {w : World} {B B' : Nat → Prop} {xs : List Value} {L : List (List Ent)} (h : SlV w B xs L) (hB : ∀ b, B b → B' b) : SlV w B' xs L :=
  ⟨h.1, fun k hk => by obtain ⟨ai, ci, h1, h2⟩ := h.2 k hk; exact ⟨ai, ci, h1, h2.more hB⟩⟩
theorem SlV.app {w : World} {B : Nat → Prop} {xs : List Value} {L : List (List Ent)} (h : SlV w B xs L) {ai : Option Addr} {l : List Ent} {ci : Nat} (hl : Ents w B ai l) : SlV w B (xs ++ [.slice ai l.length ci]) (L ++ [l]) := by
  refine ⟨by simp [h.1], fun k hk => ?_⟩
  by_cases hkl : k < L.length
  · obtain ⟨a, c, h1, h2⟩ := h.2 k hkl
    refine ⟨a, c, ?_, ?_⟩
    · rw [List.getElem?_append_left (by rw [h.1]; exact hkl), h1, List.getElem_append_left hkl]
    · rw [List.getElem_append_left hkl]; exact h2
  · have e : k = L.length := by simp at hk; omega
    subst e
    refine ⟨ai, ci, ?_, ?_⟩
    · rw [List.getElem?_append_right (by rw [h.1]; exact Nat.le_refl _), h.1]; simp
    · simpa using hl
theorem slv_of {w : World} {B : Nat → Prop} {ad : Addr} {L : List (List Ent)} (h : LLs w B (some ad) L) : ∃ xs, SlV w B xs L ∧ (∀ j u, xs[j]? = some u → w.cell? (ad.add j) = some u) ∧ (∀ u ∈ xs, u.oneCell' = true) ∧ (L ≠ [] → B ad.block) := by
  refine ⟨(List.range L.length).map (fun k => (w.cell? (ad.add k)).getD undef), ⟨by simp, fun k hk => ?_⟩, fun j u hu => ?_, fun u hu => ?_, fun hne => ?_⟩
  · obtain ⟨ad', e, hb, ai, ci, h1, h2⟩ := h k hk
    obtain rfl : ad = ad' := by simpa using e
    exact ⟨ai, ci, by simp [hk, h1], h2⟩
  · have hj : j < L.length := by
      have := (List.getElem?_eq_some_iff.1 hu).1
      simpa using this
    obtain ⟨ad', e, hb, ai, ci, h1, h2⟩ := h j hj
    obtain rfl : ad = ad' := by simpa using e
    simp [hj, h1] at hu
    rw [h1, hu]
  · obtain ⟨j, hj, rfl⟩ := List.mem_map.1 hu
    obtain ⟨ad', e, hb, ai, ci, h1, h2⟩ := h j (List.mem_range.1 hj)
    obtain rfl : ad = ad' := by simpa using e
    rw [h1]; rfl
  · obtain ⟨ad', e, hb, _⟩ := h 0 (List.length_pos_iff.2 hne)
    obtain rfl : ad = ad' := by simpa using e
    exact hb
theorem lls_own_at {w : World} {base : Nat} {t : TypeId} {v : Value} {xs : List Value} {L : List (List Ent)} (h : w.ownsRow base t 1 v L.length xs) : ∀ b, v.ownBlock = some b → base ≤ b := own_block h
theorem lls_own {w : World} {base : Nat} {t : TypeId} {v : Value} {xs : List Value} {L : List (List Ent)} {P : Nat → Prop} (h : w.ownsRow base t 1 v L.length xs) (hs : SlV w P xs L) (hP : ∀ b, base ≤ b ∧ b < w.heap.size → P b) : ∃ a c, v = .slice a L.length c ∧ LLs w P a L := by
  rcases h.2 with ⟨rfl, h0⟩ | ⟨g, cap, cur, rfl, hgb, hg, _⟩
  · exact ⟨none, 0, by rw [h0], fun k hk => absurd hk (by omega)⟩
  · refine ⟨_, _, rfl, fun k hk => ?_⟩
    obtain ⟨ai, ci, h1, h2⟩ := hs.2 k hk
    exact ⟨_, rfl, hP _ ⟨hgb, (h.lt g rfl).2⟩, ai, ci, h.cells (g := g) rfl k _ h1, h2⟩
theorem own_slice {w : World} {base n sz : Nat} {t : TypeId} {v : Value} {xs : List Value} (h : w.ownsRow base t (sz + 1) v n xs) : ∃ a c, v = .slice a n c := by
  rcases h.2 with ⟨rfl, h0⟩ | ⟨g, cap, cur, rfl, _⟩
  · have := h.1
    rw [h0] at this
    have hn : n = 0 := by
      rcases Nat.eq_zero_or_pos n with h | h
      · exact h
      · have := Nat.mul_pos h (Nat.succ_pos sz); simp at *; omega
    subst hn
    exact ⟨none, 0, rfl⟩
  · exact ⟨_, _, rfl⟩
theorem news_one (w : World) (v : Value) (t : TypeId) : ∀ j u, ([v] : List Value)[j]? = some u → (w.alloc (.cells #[v] t)).cell? ((⟨w.heap.size, 0, none⟩ : Addr).add j) = some u := by
  intro j u hj
  match j, hj with
  | 0, hj => simp at hj; subst hj; simp [Addr.add]
set_option maxRecDepth 100000 in
set_option maxHeartbeats 800000 in
theorem rthen9_any (a : Option Addr) (L : List (List Ent)) (c : Nat) (P : Nat → Prop) (w : World) (hP : ∀ b, P b → b < w.heap.size) (h : LLs w P a L) (hL : L ≠ []) (hn : L.length ≤ 1000000) (ai : Option Addr) (l : List Ent) (ci : Nat) (hl : Ents w P ai l) :
    Calls Tryz.prog 127 #[fdV a L.length c, .slice ai l.length ci] w (RetFdN w P (L ++ [l])) := by
  obtain ⟨i0, hi, hz0, hz1, hz2⟩ := info_parts entry_info
  obtain ⟨ad, rfl⟩ : ∃ ad, a = some ad := by obtain ⟨ad, e, _⟩ := h 0 (List.length_pos_iff.2 hL); exact ⟨ad, e⟩
  obtain ⟨xs, hsl, hnews, hone, hab0⟩ := slv_of h
  have hab := hP _ (hab0 hL)
  have hX : Below w.heap.size w ((w.alloc (.cells #[.slice (some ad) L.length c] 30)).alloc (.cells #[.slice none 0 0] 30)) := ((Below.refl _ _).alloc (Nat.le_refl _) _).alloc (by simp) _
  have r0 : ((w.alloc (.cells #[.slice (some ad) L.length c] 30)).alloc (.cells #[.slice none 0 0] 30)).cell? ⟨w.heap.size + 1, 0, none⟩ = some (.slice none 0 0) := by simp [World.cell?_alloc_at]
  have r1 : ((w.alloc (.cells #[.slice (some ad) L.length c] 30)).alloc (.cells #[.slice none 0 0] 30)).frozen? ⟨w.heap.size + 1, 0, none⟩ = false := World.frozen?_alloc_at _ _ _ _ (by simp)
  obtain ⟨X, hXe⟩ : ∃ X, (w.alloc (.cells #[.slice (some ad) L.length c] 30)).alloc (.cells #[.slice none 0 0] 30) = X := ⟨_, rfl⟩
  have sX : X.heap.size = w.heap.size + 1 + 1 := by rw [← hXe]; simp
  obtain ⟨n, hnn⟩ : ∃ n, L.length = n := ⟨_, rfl⟩
  have hxn : xs.length = n * 1 := by rw [hsl.1, hnn]; omega
  have hlit := World.ownsRow_lit (base := w.heap.size + 1 + 1) (e := 158) (size := 1) X #[] 0 (by omega) (Nat.zero_le _) rfl
  have hadX : ∀ j u, xs[j]? = some u → (X.alloc (.cells #[] 158)).cell? (ad.add j) = some u := fun j u hj => by
    rw [((Below.refl X.heap.size X).alloc (Nat.le_refl _) (.cells #[] 158)).cell (by rw [add_block, sX]; omega)]
    rw [← hXe]
    exact (((Below.refl w.heap.size w).alloc (Nat.le_refl _) _).alloc (by simp) _ |>.cell (p := ad.add j) (by rw [add_block]; exact hab)).trans (hnews j u hj)
  rw [hXe] at hX r0 r1
  rw [hnn] at hn hXe ⊢
  have SL := Lib.hid hsl; have NW := Lib.hid hadX; have ON := Lib.hid hone; have HX := Lib.hid hX; have HN := Lib.hid hnn; have HXE := Lib.hid hXe; have SX := Lib.hid sX; have XN := Lib.hid hxn; have LIT := Lib.hid hlit; have R0 := Lib.hid r0; have R1 := Lib.hid r1; have HL := Lib.hid hl
  clear hsl hadX hone hX hnn hXe sX hxn hlit r0 r1 hl h hnews hab0 hab
  go_enter Tryz.func127, Tryz.ntmps127
  have tok1 : True := trivial
  go_wp2_with (first
    | (at_builtin; have _t := tok1; rw [HXE.out]; rw [show w.heap.size + 1 + 1 = X.heap.size from SX.out.symm]; refine wpList_append_own _ rfl _ _ 28 rfl (w.heap.size + 1 + 1) 158 i0 _ 1 24 Tryz.underlying28 hi hz0 hz1 hz2 rfl (by decide) _ 0 [] rfl LIT.out ad n c xs rfl XN.out NW.out ON.out (by unfold maxLen; omega) (by omega) (by have := SX.out; simp; omega) ?_; intro v1 w1 ho1 hg1 _; have hb1 : Below (w.heap.size + 1 + 1) X w1 := ((Below.refl _ _).alloc (by have := SX.out; omega) _).grown hg1 (by have := SX.out; simp; omega) (own_block LIT.out); have HO1 := Lib.hid ho1; have HB1 := Lib.hid hb1; clear ho1 hg1 hb1 tok1)
    | (at_builtin; refine wpList_append_own _ rfl _ _ 28 rfl (w.heap.size + 1 + 1) 158 i0 _ 1 24 Tryz.underlying28 hi hz0 hz1 hz2 rfl (by decide) _ (0 + n) ([] ++ xs) rfl (HO1.out.alloc _) ⟨w1.heap.size, 0, none⟩ 1 1 [.slice ai l.length ci] rfl rfl (news_one _ _ _) (by intro u hu; simp at hu; subst hu; rfl) (by unfold maxLen; omega) (by omega) (by have := HB1.out.size; have := SX.out; simp; omega) ?_; intro v2 w2 ho2 hg2 _; obtain ⟨av, cv, rfl⟩ := own_slice (sz := 0) ho2; have hb2 : Below (w.heap.size + 1 + 1) X w2 := (HB1.out.alloc (by have := HB1.out.size; have := SX.out; omega) _).grown hg2 (by have := HB1.out.size; have := SX.out; simp; omega) (own_block HO1.out); have c0 := (hb2.cell (p := ⟨w.heap.size + 1, 0, none⟩) (by simp)).trans R0.out; have c1 := (hb2.frozen (p := ⟨w.heap.size + 1, 0, none⟩) (by simp)).trans R1.out; have HO2 := Lib.hid ho2; have HB2 := Lib.hid hb2; clear ho2 hg2 hb2))
  have hB : Below w.heap.size w (w2.setCell ⟨w.heap.size + 1, 0, none⟩ (.slice av (n + 1) cv)) := (HX.out.trans (HB2.out.mono (by omega))).setCell (by simp) _
  have ho3 : (w2.setCell ⟨w.heap.size + 1, 0, none⟩ (.slice av (n + 1) cv)).ownsRow (w.heap.size + 1 + 1) 158 1 (.slice av (n + 1) cv) (L ++ [l]).length (xs ++ [.slice ai l.length ci]) := by
    have := ownsRow_setCell_below HO2.out (a := ⟨w.heap.size + 1, 0, none⟩) (by simp) (.slice av (n + 1) cv)
    rw [List.length_append, HN.out]
    simpa using this
  have hs3 := (SL.out.below hP hB).app (ci := ci) (HL.out.below hP hB)
  obtain ⟨w3, hw3⟩ : ∃ w3, w2.setCell ⟨w.heap.size + 1, 0, none⟩ (.slice av (n + 1) cv) = w3 := ⟨_, rfl⟩
  rw [hw3] at hB ho3 hs3
  have hs4 : SlV w3 (Grow P w.heap.size w3.heap.size) (xs ++ [.slice ai l.length ci]) (L ++ [l]) := hs3.more (fun b hb => .inl hb)
  obtain ⟨av', cv', he, hlls⟩ := lls_own ho3 hs4 (fun b hb => .inr ⟨by omega, hb.2⟩)
  have hav : av = av' ∧ cv = cv' := by
    have h3 : av = av' ∧ n = L.length ∧ cv = cv' := by simpa using he
    exact ⟨h3.1, h3.2.2⟩
  obtain ⟨rfl, rfl⟩ := hav
  obtain ⟨ad2, rfl⟩ : ∃ ad2, av = some ad2 := by obtain ⟨ad2, e, _⟩ := hlls 0 (by simp); exact ⟨ad2, e⟩
  have hbk : w.heap.size ≤ ad2.block := by have := own_block ho3 ad2.block rfl; omega
  have LLS := Lib.hid hlls; have HB := Lib.hid hB; have W3 := Lib.hid hw3
  have e1 : n + 1 = (L ++ [l]).length := by rw [List.length_append, HN.out]; simp
  have r3 : w3.cell? ⟨w.heap.size + 1, 0, none⟩ = some (.slice (some ad2) (n + 1) cv) := by rw [← hw3]; simp [go_sem, c0]
  have E1 := Lib.hid e1
  clear hlls hB ho3 hs3 hs4 HO2 he hw3 e1
  rw [W3.out]
  refine bodyPost_ret (v := fdV (some ad2) (n + 1) cv) (by simp [results, Tryz.results127, go_sem, r3]) rfl ⟨ad2, cv, by rw [E1.out], hbk, LLS.out, HB.out⟩
/-- A cell that holds a slice is written: the lists stand, if their row lies elsewhere. -/
theorem LLs.set {w : World} {B : Nat → Prop} {ad : Addr} {L : List (List Ent)} (h : LLs w B (some ad) L) {p : Addr} {x : Option Addr} {y z : Nat} (hc : w.cell? p = some (.slice x y z)) (hp : p.block ≠ ad.block) (u : Value) : LLs (w.setCell p u) B (some ad) L := fun k hk => by
  obtain ⟨ad', e, hb, ai, ci, h1, h2⟩ := h k hk
  obtain rfl : ad = ad' := by simpa using e
  exact ⟨ad, rfl, hb, ai, ci, (World.cell?_setCell_other _ _ _ _ (fun e => hp (by rw [e, add_block]))).trans h1, h2.set hc u⟩
theorem LLs.some {w : World} {B : Nat → Prop} {a : Option Addr} {L : List (List Ent)} (h : LLs w B a L) (hL : L ≠ []) : ∃ ad, a = some ad ∧ B ad.block := by
  obtain ⟨ad, e, hb, _⟩ := h 0 (List.length_pos_iff.2 hL)
  exact ⟨ad, e, hb⟩
end Go.Proofs.YtfgecjlccngddaaGreat
namespace Go.Proofs.YtfgecjlccngddaaGreat
set_option linter.unusedSimpArgs false
set_option linter.unusedVariables false
open Go.RowKit
set_option linter.unusedVariables false

/-- The box of the folder, and the result's block, stand. -/
def Fr9 (w : World) (a : Option Addr) (n c : Nat) (w' : World) : Prop :=
  Below w.heap.size w w' ∧ w.heap.size + 2 ≤ w'.heap.size ∧ w'.cell? ⟨w.heap.size, 0, none⟩ = some (.slice a n c) ∧ w'.cell? ⟨w.heap.size + 1, 0, none⟩ = some (.slice none 0 0) ∧ w'.frozen? ⟨w.heap.size + 1, 0, none⟩ = false
theorem fr9_start (w : World) (a : Option Addr) (n c : Nat) : Fr9 w a n c ((w.alloc (.cells #[.slice a n c] 30)).alloc (.cells #[.slice none 0 0] 30)) := by
  refine ⟨((Below.refl _ _).alloc (Nat.le_refl _) _).alloc (by simp) _, by simp, ?_, ?_, World.frozen?_alloc_at _ _ _ _ (by simp)⟩
  · simp [World.cell?_alloc_past, World.cell?_alloc_at]
  · simp [World.cell?_alloc_at]
theorem fr9_on {w w' w1 : World} {a : Option Addr} {n c : Nat} (h : Fr9 w a n c w') (hb : Below w'.heap.size w' w1) : Fr9 w a n c w1 := by
  obtain ⟨h0, hz, h1, h2, h3⟩ := h
  exact ⟨h0.trans (hb.mono h0.size), Nat.le_trans hz hb.size, (hb.cell (by dsimp only; omega)).trans h1, (hb.cell (by dsimp only; omega)).trans h2, (hb.frozen (by dsimp only; omega)).trans h3⟩
set_option maxRecDepth 100000 in
set_option maxHeartbeats 400000 in
theorem rsync9_any (a : Option Addr) (L : List (List Ent)) (c : Nat) (P : Nat → Prop) (w : World) (hP : ∀ b, P b → b < w.heap.size) (h : LLs w P a L) (hL : L ≠ []) (hn : L.length ≤ 1000000) :
    Calls Tryz.prog 69 #[fdV a L.length c] w (RetFd w P [nowL L]) := by
  have c1 := fun (W : World) (h : LLs W P a L) (hB : ∀ b, P b → b < W.heap.size) => rnow9_any a L c P W h hB hL hn
  obtain ⟨n, hnn⟩ : ∃ n, L.length = n := ⟨_, rfl⟩
  obtain ⟨l, hl⟩ : ∃ l, nowL L = l := ⟨_, rfl⟩
  simp only [hnn, hl] at c1
  rw [hnn, hl]
  have hf := fr9_start w a n c
  have hX := h.below hP hf.1
  have C1 := Lib.hid c1; have HF := Lib.hid hf; have HX := Lib.hid hX
  clear c1 hf hX hnn hl h
  go_enter Tryz.func69, Tryz.ntmps69
  go_wp2_with fail
  refine (C1.out _ HX.out (fun b hb => Nat.lt_of_lt_of_le (hP b hb) HF.out.1.size)).mono ?_
  rintro e w1 ⟨ai, ci, rfl, he, hb1⟩
  have hf1 := fr9_on HF.out hb1
  obtain ⟨p0, p1, p2, p3, p4⟩ := hf1
  have HE := Lib.hid he; have P0 := Lib.hid p0
  clear he p0 hb1
  have hba := (Below.refl w1.heap.size w1).alloc (Nat.le_refl _) (.cells #[.slice ai l.length ci] 158)
  have c0 := (hba.cell (p := ⟨w.heap.size + 1, 0, none⟩) (by dsimp only; omega)).trans p3
  have c2 := (hba.frozen (p := ⟨w.heap.size + 1, 0, none⟩) (by dsimp only; omega)).trans p4
  have HBA := Lib.hid hba
  clear hba
  go_wp2
  have hB : Below w.heap.size w ((w1.alloc (.cells #[.slice ai l.length ci] 158)).setCell ⟨w.heap.size + 1, 0, none⟩ (.slice (some ⟨w1.heap.size, 0, none⟩) 1 1)) := (P0.out.trans (HBA.out.mono (by omega))).setCell (by simp) _
  refine bodyPost_ret (v := fdV (some ⟨w1.heap.size, 0, none⟩) 1 1) (by simp [results, Tryz.results69, go_sem, c0]) rfl ⟨_, _, rfl, ?_, hB⟩
  have hne : w.heap.size + 1 ≠ w1.heap.size := by omega
  have e1 : (w1.alloc (.cells #[.slice ai l.length ci] 158)).cell? ((⟨w1.heap.size, 0, none⟩ : Addr).add 0) = some (.slice ai l.length ci) := by simp [Addr.add, World.cell?_alloc_at]
  have hz := P0.out.size
  have hr := lls_one (w := w1.alloc (.cells #[.slice ai l.length ci] 158)) (B := Grow P w.heap.size (w1.alloc (.cells #[.slice ai l.length ci] 158)).heap.size) (.inr ⟨hz, by simp⟩) e1 ((HE.out.below (fun b hb => Nat.lt_of_lt_of_le (hP b hb) hz) HBA.out).more (fun b hb => .inl hb))
  have := hr.set c0 hne (.slice (some ⟨w1.heap.size, 0, none⟩) 1 1)
  simpa using this
theorem tmod_bounds (c : Int) (n : Nat) (hn : 0 < n) : -(n : Int) < c.tmod n ∧ c.tmod n < n := by
  have h := Int.tmod_lt_of_pos c (show (0 : Int) < n by omega)
  have h2 := Int.tmod_lt_of_pos (-c) (show (0 : Int) < n by omega)
  rw [Int.neg_tmod] at h2
  omega
/-- The same, before and behind the store of the result. -/
def Gr9 (w : World) (a : Option Addr) (n c : Nat) (w' : World) : Prop :=
  Below w.heap.size w w' ∧ w.heap.size + 2 ≤ w'.heap.size ∧ w'.cell? ⟨w.heap.size, 0, none⟩ = some (.slice a n c) ∧ (w'.cell? ⟨w.heap.size + 1, 0, none⟩).isSome = true ∧ w'.frozen? ⟨w.heap.size + 1, 0, none⟩ = false
theorem gr9_of {w w' : World} {a : Option Addr} {n c : Nat} (h : Fr9 w a n c w') : Gr9 w a n c w' := ⟨h.1, h.2.1, h.2.2.1, by rw [h.2.2.2.1]; rfl, h.2.2.2.2⟩
theorem gr9_on {w w' w1 : World} {a : Option Addr} {n c : Nat} (h : Gr9 w a n c w') (hb : Below w'.heap.size w' w1) : Gr9 w a n c w1 := by
  obtain ⟨h0, hz, h1, h2, h3⟩ := h
  exact ⟨h0.trans (hb.mono h0.size), Nat.le_trans hz hb.size, (hb.cell (by dsimp only; omega)).trans h1, by rw [hb.cell (by dsimp only; omega)]; exact h2, (hb.frozen (by dsimp only; omega)).trans h3⟩
theorem gr9_put {w w' : World} {a : Option Addr} {n c : Nat} (h : Gr9 w a n c w') (u : Value) : Gr9 w a n c (w'.setCell ⟨w.heap.size + 1, 0, none⟩ u) := by
  obtain ⟨h0, hz, h1, h2, h3⟩ := h
  refine ⟨h0.setCell (by simp) _, by simpa using hz, (World.cell?_setCell_other _ _ _ _ (by simp)).trans h1, ?_, ?_⟩
  · rw [World.cell?_setCell_same' _ _ _ h2]; rfl
  · rw [World.frozen?_setCell]; exact h3
/-- The end of a call that answers a new folder. -/
theorem fd_end {w w4 w5 : World} {P : Nat → Prop} {a : Option Addr} {n c c5 : Nat} {ad5 : Addr} {L : List (List Ent)} {l : List Ent}
    (hl : LLs w5 (Grow (Grow P w.heap.size w4.heap.size) w4.heap.size w5.heap.size) (some ad5) (L ++ [l])) (hk : w4.heap.size ≤ ad5.block) (h4 : Fr9 w a n c w4) (h5 : Fr9 w a n c w5) (hs : w4.heap.size ≤ w5.heap.size) :
    RetFdV w P (L ++ [l]) (.bool true) (.returned (.tuple #[fdV (some ad5) (L.length + 1) c5, .bool true])) (w5.setCell ⟨w.heap.size + 1, 0, none⟩ (.slice (some ad5) (L.length + 1) c5)) := by
  have z4 := h4.2.1
  refine ⟨some ad5, c5, by simp, ?_, h5.1.setCell (by simp) _⟩
  have := (hl.set h5.2.2.2.1 (show w.heap.size + 1 ≠ ad5.block by omega) (.slice (some ad5) (L.length + 1) c5)).more (B' := Grow P w.heap.size w5.heap.size) (fun b hb => by
    rcases hb with (hb | hb) | hb
    · exact .inl hb
    · exact .inr ⟨hb.1, by omega⟩
    · exact .inr ⟨by omega, hb.2⟩)
  simpa using this
/-- A list and a new row, under one predicate. -/
theorem grow_both {w w' : World} {P : Nat → Prop} {x : Nat} {a ai : Option Addr} {L : List (List Ent)} {l : List Ent} (hP : ∀ b, P b → b < w.heap.size) (hb : Below w.heap.size w w') (h : LLs w P a L) (hx : w.heap.size ≤ x) (he : Ents w' (fun b => x ≤ b ∧ b < w'.heap.size) ai l) :
    (∀ b, Grow P w.heap.size w'.heap.size b → b < w'.heap.size) ∧ LLs w' (Grow P w.heap.size w'.heap.size) a L ∧ Ents w' (Grow P w.heap.size w'.heap.size) ai l :=
  ⟨fun b hg => by rcases hg with hg | hg
                  · have := hP b hg; have := hb.size; omega
                  · exact hg.2, (h.below hP hb).more (fun b hb => .inl hb), he.more (fun b hb => .inr ⟨by omega, hb.2⟩)⟩
/-- Which of so many it is. -/
def pickN (c : Int) (n : Nat) : Nat := (c % (n : Int)).toNat
theorem pickN_lt (c : Int) (n : Nat) (hn : 0 < n) : pickN c n < n := by
  have h1 := Int.emod_nonneg c (show (n : Int) ≠ 0 by omega)
  have h2 := Int.emod_lt_of_pos c (show (0 : Int) < n by omega)
  unfold pickN; omega
theorem pickN_eq (c : Int) (n : Nat) (hn : 0 < n) : (c.tmod n + n).tmod n = (pickN c n : Nat) := by
  obtain ⟨h1, h2⟩ := tmod_bounds c n hn
  have h3 := Int.emod_nonneg c (show (n : Int) ≠ 0 by omega)
  rw [Int.tmod_eq_emod_of_nonneg (by omega), Int.add_emod_right]
  have h4 : (c.tmod n) % (n : Int) = c % n := by
    have := Int.tmod_add_mul_tdiv c n
    conv => rhs; rw [← this]
    rw [Int.add_mul_emod_self_left]
  rw [h4]
  unfold pickN; omega
set_option maxRecDepth 100000 in
set_option maxHeartbeats 400000 in
theorem rcrash9_any (a : Option Addr) (L : List (List Ent)) (c : Nat) (ch : Int) (P : Nat → Prop) (w : World) (hP : ∀ b, P b → b < w.heap.size) (h : LLs w P a L) (hL : L ≠ []) (hn : L.length ≤ 1000000) (h0 : -9223372036854775808 ≤ ch) (h1 : ch ≤ 9223372036854775807) :
    Calls Tryz.prog 112 #[fdV a L.length c, .int .i64 ch] w (RetFdV w P [L.getD (pickN ch L.length) []] (.int .i64 (pickN ch L.length))) := by
  have hpos := List.length_pos_iff.2 hL
  obtain ⟨n, hnn⟩ : ∃ n, L.length = n := ⟨_, rfl⟩
  rw [hnn] at hpos hn ⊢
  have hlt := pickN_lt ch n hpos
  have heq := pickN_eq ch n hpos
  obtain ⟨m0, m1⟩ := tmod_bounds ch n hpos
  obtain ⟨ad, rfl, hab, ai, ci, q1, q2⟩ := h (pickN ch n) (by omega)
  have hget : L.getD (pickN ch n) [] = L[pickN ch n]'(by omega) := by rw [List.getD_eq_getElem?_getD, List.getElem?_eq_getElem (by omega)]; rfl
  rw [hget]
  obtain ⟨l, hl⟩ : ∃ l, L[pickN ch n]'(by omega) = l := ⟨_, rfl⟩
  rw [hl] at q1 q2 ⊢
  obtain ⟨k, hk⟩ : ∃ k, pickN ch n = k := ⟨_, rfl⟩
  rw [hk] at hlt heq q1 ⊢
  have hlt2 : k < n := by assumption
  obtain ⟨m, hm⟩ : ∃ m, ch.tmod (n : Int) = m := ⟨_, rfl⟩
  rw [hm] at heq m0 m1
  have heq2 := heq
  have hm2 := hm
  have hf := fr9_start w (some ad) n c
  have q3 := (hf.1.cell (by rw [add_block]; exact hP _ hab)).trans q1
  have E2 := Lib.hid q2
  clear hget hl hk hnn h q1 q2 hf hL
  have b0 : (0 : Int) ≤ (k : Int) := by omega
  have b1 : (k : Int) < (n : Int) := by omega
  go_enter Tryz.func112, Tryz.ntmps112
  go_wp2
  have hB : Below w.heap.size w (((w.alloc (.cells #[.slice (some ad) n c] 30)).alloc (.cells #[.slice (some ⟨w.heap.size + 1 + 1, 0, none⟩) 1 1] 30)).alloc (.cells #[.slice ai l.length ci] 158)) := (((Below.refl _ _).alloc (Nat.le_refl _) _).alloc (by simp) _).alloc (by simp; omega) _
  refine bodyPost_ret (v := .tuple #[fdV (some ⟨w.heap.size + 1 + 1, 0, none⟩) 1 1, .int .i64 k]) (by simp [results, Tryz.results112, go_sem]) rfl ⟨_, _, rfl, ?_, hB⟩
  refine lls_one (ci := ci) (.inr ⟨by simp; omega, by simp⟩) ?_ ((E2.out.below hP hB).more (fun b hb => .inl hb))
  simp [Addr.add, World.cell?_alloc_at]

/-- What Put does. -/
def putF (L : List (List Ent)) (s : ByteArray) (id : Int) : List (List Ent) := if (findE (nowL L) s).isSome = true then L else L ++ [withE (nowL L) ⟨s, id⟩]
set_option maxRecDepth 100000 in
set_option maxHeartbeats 1600000 in
theorem rput9_any (a : Option Addr) (L : List (List Ent)) (c : Nat) (s : ByteArray) (id : Int) (P : Nat → Prop) (w : World) (hP : ∀ b, P b → b < w.heap.size) (h : LLs w P a L) (hL : L ≠ []) (hn : L.length ≤ 1000000) (hl : (nowL L).length ≤ 999999) :
    Calls Tryz.prog 68 #[fdV a L.length c, .string s, .int .i64 id] w (RetFdV w P (putF L s id) (.bool (!(findE (nowL L) s).isSome))) := by
  have c1 := fun (W : World) (h : LLs W P a L) (hB : ∀ b, P b → b < W.heap.size) => rnow9_any a L c P W h hB hL hn
  have c4 := fun (W : World) (Q : Nat → Prop) (hQ : ∀ b, Q b → b < W.heap.size) (h : LLs W Q a L) => rthen9_any a L c Q W hQ h hL hn
  obtain ⟨n, hnn⟩ : ∃ n, L.length = n := ⟨_, rfl⟩
  have hp1 : (findE (nowL L) s).isSome = true → putF L s id = L := fun h => if_pos h
  have hp2 : (findE (nowL L) s).isSome = false → putF L s id = L ++ [withE (nowL L) ⟨s, id⟩] := fun h => if_neg (by simp [h])
  obtain ⟨pf, hpf⟩ : ∃ pf, putF L s id = pf := ⟨_, rfl⟩
  obtain ⟨bb, hbb⟩ : ∃ bb, (!(findE (nowL L) s).isSome) = bb := ⟨_, rfl⟩
  obtain ⟨l, hle⟩ : ∃ l, nowL L = l := ⟨_, rfl⟩
  rw [hpf, hbb]
  rw [hpf] at hp1 hp2
  simp only [hnn, hle] at c1 c4
  rw [hnn] at hn ⊢
  rw [hle] at hl hp1 hp2 hbb
  have c2 := fun (ai : Option Addr) (ci : Nat) (B : Nat → Prop) (W : World) (h : Ents W B ai l) => rfind9_any ai l ci s B W h (by omega)
  have c3 := fun (ai : Option Addr) (ci : Nat) (B : Nat → Prop) (W : World) (h : Ents W B ai l) (hB : ∀ b, B b → b < W.heap.size) => rwith_any ai l ci ⟨s, id⟩ B W h hB (by omega)
  have hf := fr9_start w a n c
  obtain ⟨r, hr⟩ : ∃ r, findE l s = r := ⟨_, rfl⟩
  obtain ⟨lw, hlw⟩ : ∃ lw, withE l ⟨s, id⟩ = lw := ⟨_, rfl⟩
  simp only [hr] at c2
  simp only [hlw] at c3
  rw [hr] at hp1 hp2 hbb
  rw [hlw] at hp2
  have P1 := Lib.hid hp1; have P2 := Lib.hid hp2; have BB := Lib.hid hbb
  clear hp1 hp2 hbb hpf
  have C1 := Lib.hid c1; have C2 := Lib.hid c2; have C3 := Lib.hid c3; have C4 := Lib.hid c4; have HF := Lib.hid hf; have H := Lib.hid h; have HN := Lib.hid hnn
  clear c1 c2 c3 c4 hf h hnn hle hr hlw hl
  go_enter Tryz.func68, Tryz.ntmps68
  go_wp2_with fail
  refine (C1.out _ (H.out.below hP HF.out.1) (fun b hb => Nat.lt_of_lt_of_le (hP b hb) HF.out.1.size)).mono ?_
  rintro e w1 ⟨ai, ci, rfl, he, hb1⟩
  have hf1 := fr9_on HF.out hb1
  have HF1 := Lib.hid hf1; have HE := Lib.hid he
  clear hf1 he hb1
  go_wp2_with fail
  refine (C2.out _ _ _ _ HE.out).mono ?_
  rintro e w2 ⟨rfl, rfl⟩
  obtain ⟨p0, p1, p2, p3, p4⟩ := HF1.out
  have P0 := Lib.hid p0
  clear p0
  cases r with
  | some id0 =>
    have HP := Lib.hid (⟨P0.out, p1, p2, p3, p4⟩ : Fr9 w a n c w1)
    go_wp2
    have hB : Below w.heap.size w (w1.setCell ⟨w.heap.size + 1, 0, none⟩ (.slice a n c)) := P0.out.setCell (by simp) _
    obtain rfl : pf = L := P1.out rfl
    obtain rfl : false = bb := BB.out
    refine bodyPost_ret (v := .tuple #[fdV a n c, .bool false]) (by simp [results, Tryz.results68, go_sem, p3]) rfl ⟨_, _, by rw [HN.out], (H.out.below hP hB).more (fun b hb => .inl hb), hB⟩
  | none =>
    have hfd : Fr9 w a n c w1.drew := ⟨P0.out.drew, p1, p2, p3, p4⟩
    have HFD := Lib.hid hfd
    clear p1 p2 p3 p4 hfd
    go_wp2_with fail
    go_region_held3 (fun w' => Below w.heap.size w w' ∧ w.heap.size + 2 ≤ w'.heap.size ∧ w'.cell? ⟨w.heap.size, 0, none⟩ = some (.slice a n c) ∧ (w'.cell? ⟨w.heap.size + 1, 0, none⟩).isSome = true ∧ w'.frozen? ⟨w.heap.size + 1, 0, none⟩ = false)
      (first | exact gr9_of HFD.out | exact gr9_on (by assumption) hb1 | exact gr9_put (by assumption) _)
      (first
        | (go_at_call 119; refine (C1.out _ (H.out.below hP (show Gr9 w a n c _ by assumption).1) (fun b hb => Nat.lt_of_lt_of_le (hP b hb) (show Gr9 w a n c _ by assumption).1.size)).mono ?_; rintro e w3 ⟨ai2, ci2, rfl, he2, hb1⟩; have HE2 := Lib.hid he2; have HF3 := Lib.hid (fr9_on HFD.out hb1); clear he2)
        | (go_at_call 128; refine (C3.out _ _ _ _ HE2.out (fun b hb => Nat.lt_of_lt_of_le (hP b hb) HF3.out.1.size)).mono ?_; rintro e w4 ⟨ai3, ci3, rfl, he3, hb1⟩; have HE3 := Lib.hid he3; have HF4 := Lib.hid (fr9_on HF3.out hb1); clear he3)
        | (go_at_call 127; refine (C4.out _ _ (grow_both hP HF4.out.1 H.out HF3.out.1.size HE3.out).1 (grow_both hP HF4.out.1 H.out HF3.out.1.size HE3.out).2.1 _ lw _ (grow_both hP HF4.out.1 H.out HF3.out.1.size HE3.out).2.2).mono ?_; rintro e w5 ⟨ad5, c5, rfl, hk5, hl5, hb1⟩; have HL5 := Lib.hid hl5; have HK5 := Lib.hid hk5; have hf5 := fr9_on HF4.out hb1; have z3 := hf5.2.2.2.1; have z4 := hf5.2.2.2.2; have HF5 := Lib.hid hf5; have HS5 := Lib.hid hb1.size; clear hl5 hk5 hf5))
    go_wp2
    obtain rfl : pf = L ++ [lw] := P2.out rfl
    obtain rfl : true = bb := BB.out
    exact bodyPost_ret (v := .tuple #[fdV (some ad5) (L.length + 1) c5, .bool true]) (by simp [results, Tryz.results68, go_sem, z3]) rfl (fd_end HL5.out HK5.out HF4.out HF5.out HS5.out)
/-- What Drop does. -/
def dropF (L : List (List Ent)) (s : ByteArray) : List (List Ent) := if (findE (nowL L) s).isSome = true then L ++ [withoutE (nowL L) s] else L
set_option maxRecDepth 100000 in
set_option maxHeartbeats 1600000 in
theorem rdrop9_any (a : Option Addr) (L : List (List Ent)) (c : Nat) (s : ByteArray) (P : Nat → Prop) (w : World) (hP : ∀ b, P b → b < w.heap.size) (h : LLs w P a L) (hL : L ≠ []) (hn : L.length ≤ 1000000) (hl : (nowL L).length ≤ 999999) :
    Calls Tryz.prog 154 #[fdV a L.length c, .string s] w (RetFdV w P (dropF L s) (.bool (findE (nowL L) s).isSome)) := by
  have c1 := fun (W : World) (h : LLs W P a L) (hB : ∀ b, P b → b < W.heap.size) => rnow9_any a L c P W h hB hL hn
  have c4 := fun (W : World) (Q : Nat → Prop) (hQ : ∀ b, Q b → b < W.heap.size) (h : LLs W Q a L) => rthen9_any a L c Q W hQ h hL hn
  obtain ⟨n, hnn⟩ : ∃ n, L.length = n := ⟨_, rfl⟩
  have hp1 : (findE (nowL L) s).isSome = false → dropF L s = L := fun h => if_neg (by simp [h])
  have hp2 : (findE (nowL L) s).isSome = true → dropF L s = L ++ [withoutE (nowL L) s] := fun h => if_pos h
  obtain ⟨pf, hpf⟩ : ∃ pf, dropF L s = pf := ⟨_, rfl⟩
  obtain ⟨bb, hbb⟩ : ∃ bb, (findE (nowL L) s).isSome = bb := ⟨_, rfl⟩
  obtain ⟨l, hle⟩ : ∃ l, nowL L = l := ⟨_, rfl⟩
  rw [hpf, hbb]
  rw [hpf] at hp1 hp2
  simp only [hnn, hle] at c1 c4
  rw [hnn] at hn ⊢
  rw [hle] at hl hp1 hp2 hbb
  have c2 := fun (ai : Option Addr) (ci : Nat) (B : Nat → Prop) (W : World) (h : Ents W B ai l) => rfind9_any ai l ci s B W h (by omega)
  have c3 := fun (ai : Option Addr) (ci : Nat) (B : Nat → Prop) (W : World) (h : Ents W B ai l) (hB : ∀ b, B b → b < W.heap.size) => rwithout_any ai l ci s B W h hB (by omega)
  have hf := fr9_start w a n c
  obtain ⟨r, hr⟩ : ∃ r, findE l s = r := ⟨_, rfl⟩
  obtain ⟨lw, hlw⟩ : ∃ lw, withoutE l s = lw := ⟨_, rfl⟩
  simp only [hr] at c2
  simp only [hlw] at c3
  rw [hr] at hp1 hp2 hbb
  rw [hlw] at hp2
  have P1 := Lib.hid hp1; have P2 := Lib.hid hp2; have BB := Lib.hid hbb
  clear hp1 hp2 hbb hpf
  have C1 := Lib.hid c1; have C2 := Lib.hid c2; have C3 := Lib.hid c3; have C4 := Lib.hid c4; have HF := Lib.hid hf; have H := Lib.hid h; have HN := Lib.hid hnn
  clear c1 c2 c3 c4 hf h hnn hle hr hlw hl
  go_enter Tryz.func154, Tryz.ntmps154
  go_wp2_with fail
  refine (C1.out _ (H.out.below hP HF.out.1) (fun b hb => Nat.lt_of_lt_of_le (hP b hb) HF.out.1.size)).mono ?_
  rintro e w1 ⟨ai, ci, rfl, he, hb1⟩
  have hf1 := fr9_on HF.out hb1
  have HF1 := Lib.hid hf1; have HE := Lib.hid he
  clear hf1 he hb1
  go_wp2_with fail
  refine (C2.out _ _ _ _ HE.out).mono ?_
  rintro e w2 ⟨rfl, rfl⟩
  obtain ⟨p0, p1, p2, p3, p4⟩ := HF1.out
  have P0 := Lib.hid p0
  clear p0
  cases r with
  | some id0 =>
    have hfd : Fr9 w a n c w1.drew := ⟨P0.out.drew, p1, p2, p3, p4⟩
    have HFD := Lib.hid hfd
    clear p1 p2 p3 p4 hfd
    go_wp2_with fail
    go_region_held3 (fun w' => Below w.heap.size w w' ∧ w.heap.size + 2 ≤ w'.heap.size ∧ w'.cell? ⟨w.heap.size, 0, none⟩ = some (.slice a n c) ∧ (w'.cell? ⟨w.heap.size + 1, 0, none⟩).isSome = true ∧ w'.frozen? ⟨w.heap.size + 1, 0, none⟩ = false)
      (first | exact gr9_of HFD.out | exact gr9_on (by assumption) hb1 | exact gr9_put (by assumption) _)
      (first
        | (go_at_call 119; refine (C1.out _ (H.out.below hP (show Gr9 w a n c _ by assumption).1) (fun b hb => Nat.lt_of_lt_of_le (hP b hb) (show Gr9 w a n c _ by assumption).1.size)).mono ?_; rintro e w3 ⟨ai2, ci2, rfl, he2, hb1⟩; have HE2 := Lib.hid he2; have HF3 := Lib.hid (fr9_on HFD.out hb1); clear he2)
        | (go_at_call 176; refine (C3.out _ _ _ _ HE2.out (fun b hb => Nat.lt_of_lt_of_le (hP b hb) HF3.out.1.size)).mono ?_; rintro e w4 ⟨ai3, ci3, rfl, he3, hb1⟩; have HE3 := Lib.hid he3; have HF4 := Lib.hid (fr9_on HF3.out hb1); clear he3)
        | (go_at_call 127; refine (C4.out _ _ (grow_both hP HF4.out.1 H.out HF3.out.1.size HE3.out).1 (grow_both hP HF4.out.1 H.out HF3.out.1.size HE3.out).2.1 _ lw _ (grow_both hP HF4.out.1 H.out HF3.out.1.size HE3.out).2.2).mono ?_; rintro e w5 ⟨ad5, c5, rfl, hk5, hl5, hb1⟩; have HL5 := Lib.hid hl5; have HK5 := Lib.hid hk5; have hf5 := fr9_on HF4.out hb1; have z3 := hf5.2.2.2.1; have z4 := hf5.2.2.2.2; have HF5 := Lib.hid hf5; have HS5 := Lib.hid hb1.size; clear hl5 hk5 hf5))
    go_wp2
    obtain rfl : pf = L ++ [lw] := P2.out rfl
    obtain rfl : true = bb := BB.out
    exact bodyPost_ret (v := .tuple #[fdV (some ad5) (L.length + 1) c5, .bool true]) (by simp [results, Tryz.results154, go_sem, z3]) rfl (fd_end HL5.out HK5.out HF4.out HF5.out HS5.out)
  | none =>
    have HP := Lib.hid (⟨P0.out, p1, p2, p3, p4⟩ : Fr9 w a n c w1)
    go_wp2
    have hB : Below w.heap.size w (w1.setCell ⟨w.heap.size + 1, 0, none⟩ (.slice a n c)) := P0.out.setCell (by simp) _
    obtain rfl : pf = L := P1.out rfl
    obtain rfl : false = bb := BB.out
    refine bodyPost_ret (v := .tuple #[fdV a n c, .bool false]) (by simp [results, Tryz.results154, go_sem, p3]) rfl ⟨_, _, by rw [HN.out], (H.out.below hP hB).more (fun b hb => .inl hb), hB⟩

/-- What Move does. -/
def moveF (L : List (List Ent)) (s d : ByteArray) : List (List Ent) :=
  match findE (nowL L) s with
  | none => L
  | some id => if s = d then L else L ++ [withE (withoutE (withoutE (nowL L) s) d) ⟨d, id⟩]
set_option maxRecDepth 100000 in
set_option maxHeartbeats 1600000 in
theorem rmove9_any (a : Option Addr) (L : List (List Ent)) (c : Nat) (s d : ByteArray) (P : Nat → Prop) (w : World) (hP : ∀ b, P b → b < w.heap.size) (h : LLs w P a L) (hL : L ≠ []) (hn : L.length ≤ 1000000) (hl : (nowL L).length ≤ 999999) :
    Calls Tryz.prog 153 #[fdV a L.length c, .string s, .string d] w (RetFdV w P (moveF L s d) (.bool (findE (nowL L) s).isSome)) := by
  have c1 := fun (W : World) (h : LLs W P a L) (hB : ∀ b, P b → b < W.heap.size) => rnow9_any a L c P W h hB hL hn
  have c4 := fun (W : World) (Q : Nat → Prop) (hQ : ∀ b, Q b → b < W.heap.size) (h : LLs W Q a L) => rthen9_any a L c Q W hQ h hL hn
  obtain ⟨n, hnn⟩ : ∃ n, L.length = n := ⟨_, rfl⟩
  have hp1 : findE (nowL L) s = none → moveF L s d = L := fun h => by unfold moveF; rw [h]
  have hp2 : ∀ id, findE (nowL L) s = some id → s = d → moveF L s d = L := fun id h e => by unfold moveF; rw [h]; exact if_pos e
  have hp3 : ∀ id, findE (nowL L) s = some id → ¬ s = d → moveF L s d = L ++ [withE (withoutE (withoutE (nowL L) s) d) ⟨d, id⟩] := fun id h e => by unfold moveF; rw [h]; exact if_neg e
  obtain ⟨pf, hpf⟩ : ∃ pf, moveF L s d = pf := ⟨_, rfl⟩
  obtain ⟨bb, hbb⟩ : ∃ bb, (findE (nowL L) s).isSome = bb := ⟨_, rfl⟩
  obtain ⟨l, hle⟩ : ∃ l, nowL L = l := ⟨_, rfl⟩
  rw [hpf, hbb]
  rw [hpf] at hp1 hp2 hp3
  simp only [hnn, hle] at c1 c4
  rw [hnn] at hn ⊢
  rw [hle] at hl hp1 hp2 hp3 hbb
  have c2 := fun (ai : Option Addr) (ci : Nat) (B : Nat → Prop) (W : World) (h : Ents W B ai l) => rfind9_any ai l ci s B W h (by omega)
  have o1 := withoutE_len l s
  have o2 := withoutE_len (withoutE l s) d
  have c3 := fun (ai : Option Addr) (ci : Nat) (B : Nat → Prop) (W : World) (h : Ents W B ai l) (hB : ∀ b, B b → b < W.heap.size) => rwithout_any ai l ci s B W h hB (by omega)
  obtain ⟨l1, hl1⟩ : ∃ l1, withoutE l s = l1 := ⟨_, rfl⟩
  simp only [hl1] at c3 hp3 o1 o2
  have c5 := fun (ai : Option Addr) (ci : Nat) (B : Nat → Prop) (W : World) (h : Ents W B ai l1) (hB : ∀ b, B b → b < W.heap.size) => rwithout_any ai l1 ci d B W h hB (by omega)
  obtain ⟨l2, hl2⟩ : ∃ l2, withoutE l1 d = l2 := ⟨_, rfl⟩
  simp only [hl2] at c5 hp3 o2
  have c6 := fun (id : Int) (ai : Option Addr) (ci : Nat) (B : Nat → Prop) (W : World) (h : Ents W B ai l2) (hB : ∀ b, B b → b < W.heap.size) => rwith_any ai l2 ci ⟨d, id⟩ B W h hB (by omega)
  have hf := fr9_start w a n c
  obtain ⟨r, hr⟩ : ∃ r, findE l s = r := ⟨_, rfl⟩
  simp only [hr] at c2
  rw [hr] at hp1 hp2 hp3 hbb
  have P1 := Lib.hid hp1; have P2 := Lib.hid hp2; have P3 := Lib.hid hp3; have BB := Lib.hid hbb
  clear hp1 hp2 hp3 hbb hpf
  have C1 := Lib.hid c1; have C2 := Lib.hid c2; have C3 := Lib.hid c3; have C4 := Lib.hid c4; have C5 := Lib.hid c5; have C6 := Lib.hid c6; have HF := Lib.hid hf; have H := Lib.hid h; have HN := Lib.hid hnn
  clear c1 c2 c3 c4 c5 c6 hf h hnn hle hr hl1 hl2 hl o1 o2
  go_enter Tryz.func153, Tryz.ntmps153
  go_wp2_with fail
  refine (C1.out _ (H.out.below hP HF.out.1) (fun b hb => Nat.lt_of_lt_of_le (hP b hb) HF.out.1.size)).mono ?_
  rintro e w1 ⟨ai, ci, rfl, he, hb1⟩
  have hf1 := fr9_on HF.out hb1
  have HF1 := Lib.hid hf1; have HE := Lib.hid he
  clear hf1 he hb1
  go_wp2_with fail
  refine (C2.out _ _ _ _ HE.out).mono ?_
  rintro e w2 ⟨rfl, rfl⟩
  obtain ⟨p0, p1, p2, p3, p4⟩ := HF1.out
  have P0 := Lib.hid p0
  clear p0
  cases r with
  | none =>
    go_wp2
    have hB : Below w.heap.size w (w1.setCell ⟨w.heap.size + 1, 0, none⟩ (.slice a n c)) := P0.out.setCell (by simp) _
    obtain rfl : pf = L := P1.out (by simp)
    obtain rfl : false = bb := BB.out
    refine bodyPost_ret (v := .tuple #[fdV a n c, .bool false]) (by simp [results, Tryz.results153, go_sem, p3]) rfl ⟨_, _, by rw [HN.out], (H.out.below hP hB).more (fun b hb => .inl hb), hB⟩
  | some id0 =>
    by_cases hsd : s = d
    · have hpf := P2.out id0 rfl hsd
      subst hsd
      have HPF := Lib.hid hpf
      clear hpf
      go_wp2
      have hB : Below w.heap.size w (w1.setCell ⟨w.heap.size + 1, 0, none⟩ (.slice a n c)) := P0.out.setCell (by simp) _
      obtain rfl : pf = L := HPF.out
      obtain rfl : true = bb := BB.out
      refine bodyPost_ret (v := .tuple #[fdV a n c, .bool true]) (by simp [results, Tryz.results153, go_sem, p3]) rfl ⟨_, _, by rw [HN.out], (H.out.below hP hB).more (fun b hb => .inl hb), hB⟩
    · have hne := str_ne hsd
      have HPF := Lib.hid (P3.out id0 rfl hsd)
      obtain ⟨lw, hlw⟩ : ∃ lw, withE l2 ⟨d, id0⟩ = lw := ⟨_, rfl⟩
      have c6 := C6.out id0
      rw [hlw] at c6 HPF
      have C7 := Lib.hid c6
      clear hsd hlw c6
      have hfd : Fr9 w a n c w1.drew := ⟨P0.out.drew, p1, p2, p3, p4⟩
      have HFD := Lib.hid hfd
      clear p1 p2 p3 p4 hfd
      go_wp2_with fail
      go_region_held3 (fun w' => Below w.heap.size w w' ∧ w.heap.size + 2 ≤ w'.heap.size ∧ w'.cell? ⟨w.heap.size, 0, none⟩ = some (.slice a n c) ∧ (w'.cell? ⟨w.heap.size + 1, 0, none⟩).isSome = true ∧ w'.frozen? ⟨w.heap.size + 1, 0, none⟩ = false)
        (first | exact gr9_of HFD.out | exact gr9_on (by assumption) hb1 | exact gr9_put (by assumption) _)
        (first
          | (go_at_call 119; refine (C1.out _ (H.out.below hP (show Gr9 w a n c _ by assumption).1) (fun b hb => Nat.lt_of_lt_of_le (hP b hb) (show Gr9 w a n c _ by assumption).1.size)).mono ?_; rintro e w3 ⟨ai2, ci2, rfl, he2, hb1⟩; have HE2 := Lib.hid he2; have HF3 := Lib.hid (fr9_on HFD.out hb1); clear he2)
          | (go_at_call 176; refine (C5.out _ _ _ _ HE3.out (fun b hb => hb.2)).mono ?_; rintro e w4b ⟨ai3b, ci3b, rfl, he3b, hb1⟩; have HE3b := Lib.hid he3b; have HF4b := Lib.hid (fr9_on HF4a.out hb1); clear he3b)
          | (go_at_call 176; refine (C3.out _ _ _ _ HE2.out (fun b hb => Nat.lt_of_lt_of_le (hP b hb) HF3.out.1.size)).mono ?_; rintro e w4a ⟨ai3a, ci3a, rfl, he3a, hb1⟩; have HE3 := Lib.hid he3a; have HF4a := Lib.hid (fr9_on HF3.out hb1); clear he3a)
          | (go_at_call 128; refine (C7.out _ _ _ _ HE3b.out (fun b hb => hb.2)).mono ?_; rintro e w4 ⟨ai3, ci3, rfl, he3, hb1⟩; have HE4 := Lib.hid he3; have HF4 := Lib.hid (fr9_on HF4b.out hb1); clear he3)
          | (go_at_call 127; refine (C4.out _ _ (grow_both hP HF4.out.1 H.out HF4b.out.1.size HE4.out).1 (grow_both hP HF4.out.1 H.out HF4b.out.1.size HE4.out).2.1 _ lw _ (grow_both hP HF4.out.1 H.out HF4b.out.1.size HE4.out).2.2).mono ?_; rintro e w5 ⟨ad5, c5, rfl, hk5, hl5, hb1⟩; have HL5 := Lib.hid hl5; have HK5 := Lib.hid hk5; have hf5 := fr9_on HF4.out hb1; have z3 := hf5.2.2.2.1; have z4 := hf5.2.2.2.2; have HF5 := Lib.hid hf5; have HS5 := Lib.hid hb1.size; clear hl5 hk5 hf5))
      go_wp2
      obtain rfl : pf = L ++ [lw] := HPF.out
      obtain rfl : true = bb := BB.out
      exact bodyPost_ret (v := .tuple #[fdV (some ad5) (L.length + 1) c5, .bool true]) (by simp [results, Tryz.results153, go_sem, z3]) rfl (fd_end HL5.out HK5.out HF4.out HF5.out HS5.out)
end Go.Proofs.YtfgecjlccngddaaGreat
namespace Go.Proofs.YtfgecjlccngddaaGreat
set_option linter.unusedSimpArgs false
set_option linter.unusedVariables false
open Go.RowKit
set_option linter.unusedVariables false

def idsIn (o : List Int) (l : List Ent) : List Int := l.foldl (fun o e => addI o e.id) o
theorem idsIn_len (o : List Int) (l : List Ent) : (idsIn o l).length ≤ o.length + l.length := by
  unfold idsIn
  induction l generalizing o with
  | nil => simp
  | cons e r ih =>
    have h1 := ih (addI o e.id)
    have h2 := addI_len o e.id
    simp only [List.foldl_cons, List.length_cons]
    omega
theorem idsIn_succ (o : List Int) (l : List Ent) (k : Nat) (h : k < l.length) : idsIn o (l.take (k + 1)) = addI (idsIn o (l.take k)) l[k].id := by
  unfold idsIn
  rw [take_get l k h, List.foldl_append]
  rfl
theorem idsK_succ (L : List (List Ent)) (k : Nat) (h : k < L.length) : idsK (L.take (k + 1)) = idsIn (idsK (L.take k)) L[k] := by
  unfold idsK
  rw [take_get L k h, List.foldl_append]
  rfl
theorem idsK_len (L : List (List Ent)) (M : Nat) (h : ∀ l ∈ L, l.length ≤ M) (k : Nat) (hk : k ≤ L.length) : (idsK (L.take k)).length ≤ k * M := by
  induction k with
  | zero => simp [idsK]
  | succ k ih =>
    have h1 := ih (by omega)
    rw [idsK_succ L k (by omega)]
    have h2 := idsIn_len (idsK (L.take k)) (L[k]'(by omega))
    have h3 := h (L[k]'(by omega)) (List.getElem_mem _)
    rw [Nat.add_mul]
    omega
theorem Ints.on {w w' : World} {a : Option Addr} {l : List Int} (h : Ints w w.heap.size a l) (hb : Below w.heap.size w w') : Ints w' w'.heap.size a l := (h.below hb).more hb.size
/-- A row of numbers in a slot. -/
def IntsV (wr : World) (o : List Int) (v : Value) : Prop := ∃ a c, v = .slice a o.length c ∧ Ints wr wr.heap.size a o

set_option maxRecDepth 100000 in
set_option maxHeartbeats 1600000 in
theorem rids9_any (a : Option Addr) (L : List (List Ent)) (c : Nat) (P : Nat → Prop) (w : World) (hP : ∀ b, P b → b < w.heap.size) (h : LLs w P a L) (hn : L.length ≤ 1000) (hM : ∀ l ∈ L, l.length ≤ 900) :
    Calls Tryz.prog 111 #[fdV a L.length c] w (RetInts w (idsK L)) := by
  obtain ⟨n, hnn⟩ : ∃ n, L.length = n := ⟨_, rfl⟩
  rw [hnn] at hn ⊢
  have HN := Lib.hid hnn; have H := Lib.hid h; have HM := Lib.hid hM
  clear hnn h hM
  go_enter Tryz.func111, Tryz.ntmps111
  go_wp2
  go_loopw [3, 4] (fun v i wr => ∃ k : Nat, k ≤ n ∧ i = .int .i64 k ∧ IntsV wr (idsK (L.take k)) v ∧ Below (w.heap.size + 1) (w.alloc (.cells #[.slice a n c] 30)) wr) (fun _ i _ => n - (intOf i).toNat)
  case atStart => exact ⟨0, Nat.zero_le _, rfl, ⟨none, 0, rfl, fun k hk => absurd hk (by simp [idsK])⟩, Below.refl _ _⟩
  case round =>
    obtain ⟨k, hk, rfl, hv, hbel⟩ := hrel
    have bx : wr.cell? ⟨w.heap.size, 0, none⟩ = some (.slice a n c) := (hbel.cell (p := ⟨w.heap.size, 0, none⟩) (by simp)).trans (by simp [World.cell?_alloc_new])
    by_cases hlt : k < n
    · have hkl : k < L.length := by rw [HN.out]; exact hlt
      have hBw : Below w.heap.size w wr := ((Below.refl w.heap.size w).alloc (Nat.le_refl _) _).trans (hbel.mono (by omega))
      obtain ⟨ad, rfl, hab, ai, ci, q0, q1⟩ := (H.out.below hP hBw) k hkl
      have hab := hP _ hab
      have hst := idsK_succ L k hkl
      have hlen := idsK_len L 900 HM.out k (by rw [HN.out]; exact hk)
      have hlk := HM.out (L[k]'hkl) (List.getElem_mem _)
      obtain ⟨l, hl⟩ : ∃ l, L[k]'hkl = l := ⟨_, rfl⟩
      rw [hl] at q0 q1 hst hlk
      obtain ⟨o, ho⟩ : ∃ o, idsK (L.take k) = o := ⟨_, rfl⟩
      rw [ho] at hst hlen hv
      obtain ⟨m, hm⟩ : ∃ m, l.length = m := ⟨_, rfl⟩
      rw [hm] at q0 hlk
      have hol : o.length ≤ 900000 := by omega
      have HST := Lib.hid hst; have HMM := Lib.hid hm; have Q1 := Lib.hid q1; have HBW := Lib.hid hBw; have HBEL := Lib.hid hbel; have HV := Lib.hid hv; have Q0 := Lib.hid q0; have BX := Lib.hid bx
      clear hl ho hm q1 hst hlen hBw hbel hv
      have b0 : (0 : Int) ≤ (k : Int) := by omega
      have b1 : (k : Int) < (n : Int) := by omega
      obtain ⟨wo, rfl⟩ : ∃ wo : World, wo = wr := ⟨_, rfl⟩
      go_wp2
      go_loopw [3, 5] (fun v i wx => ∃ j : Nat, j ≤ m ∧ i = .int .i64 j ∧ IntsV wx (idsIn o (l.take j)) v ∧ Below (w.heap.size + 1) wo wx) (fun _ i _ => m - (intOf i).toNat)
      case atStart => exact ⟨0, Nat.zero_le _, rfl, HV.out, Below.refl _ _⟩
      case round =>
        obtain ⟨j, hj, rfl, hv, hbo⟩ := hrel
        have bx2 : wr.cell? ⟨w.heap.size, 0, none⟩ = some (.slice (some ad) n c) := (hbo.cell (p := ⟨w.heap.size, 0, none⟩) (by simp)).trans BX.out
        have q02 : wr.cell? (ad.add k) = some (.slice ai m ci) := (hbo.cell (by rw [add_block]; omega)).trans Q0.out
        have hil := idsIn_len o (l.take j)
        have hjl : (l.take j).length ≤ j := List.length_take_le _ _
        by_cases hjm : j < m
        · have hjl2 : j < l.length := by rw [HMM.out]; exact hjm
          obtain ⟨ae, rfl, hae, r0, r1⟩ := (Q1.out.below (fun b hb => Nat.lt_succ_of_lt (hP b hb)) hbo) j hjl2
          have hst := idsIn_succ o l j hjl2
          obtain ⟨e, he⟩ : ∃ e, l[j]'hjl2 = e := ⟨_, rfl⟩
          rw [he] at r0 r1 hst
          obtain ⟨nm, id⟩ := e
          simp only at r0 r1 hst
          obtain ⟨p, hp⟩ : ∃ p, idsIn o (l.take j) = p := ⟨_, rfl⟩
          rw [hp] at hst hv hil
          obtain ⟨av, cv, rfl, hi⟩ := hv
          have ca := radd9_any av p cv id wr.heap.size wr hi (Nat.le_refl _) (by omega)
          have CA := Lib.hid ca; have HST2 := Lib.hid hst
          clear he hp hst hi ca
          have d0 : (0 : Int) ≤ (j : Int) := by omega
          have d1 : (j : Int) < (m : Int) := by omega
          go_wp2_with fail
          refine CA.out.mono ?_
          rintro e w1 ⟨av2, cv2, rfl, hi2, hb2⟩
          have R : IntsV w1 (idsIn o (l.take (j + 1))) (.slice av2 (addI p id).length cv2) := ⟨av2, cv2, by rw [HST2.out], by rw [HST2.out]; exact hi2⟩
          have hb3 := hbo.trans (hb2.mono (Nat.le_trans HBEL.out.size hbo.size |> fun h => by simp at h; omega))
          have RR := Lib.hid R; have HB3 := Lib.hid hb3
          clear R hi2 hb2 hb3
          go_wp2
          go_roundw
          case rel => exact ⟨j + 1, by omega, by go_num, RR.out, HB3.out⟩
          case measure => simp [intOf]; omega
        · obtain rfl : j = m := by omega
          have e1 : idsIn o (l.take j) = idsK (L.take (k + 1)) := by rw [HST.out, List.take_of_length_le (by rw [HMM.out]; exact Nat.le_refl _)]
          rw [e1] at hv
          have HV2 := Lib.hid hv
          have hb3 := HBEL.out.trans hbo
          have HB3 := Lib.hid hb3
          clear hv hb3 e1 hil
          go_wp2
          refine ⟨⟨k + 1, by omega, by go_num, HV2.out, HB3.out⟩, by simp [intOf]; omega⟩
    · obtain rfl : k = n := by omega
      obtain ⟨av, cv, rfl, hi⟩ := hv
      rw [List.take_of_length_le (by rw [HN.out]; exact Nat.le_refl _)] at hi ⊢
      have HI := Lib.hid hi
      have HB := Lib.hid hbel
      clear hi hbel
      go_wp2
      go_ret
      exact ⟨av, cv, rfl, HI.out, ((Below.refl w.heap.size w).alloc (Nat.le_refl _) _).trans (HB.out.mono (by omega))⟩
end Go.Proofs.YtfgecjlccngddaaGreat
