/-
  Joined: DiskIds, DiskRef10, DiskOk.
-/
import Derived.Test.YtfgecjlccngddaaGreatJDiskRefB
import Derived.Deep.RegionWith
import Derived.Deep.DeepCutAuto
import Derived.Test.YtfgecjlccngddaaGreatJFoldHist
namespace Go.Proofs.YtfgecjlccngddaaGreat
set_option linter.unusedSimpArgs false
set_option linter.unusedVariables false
open Go.RowKit
set_option linter.unusedVariables false

def RetAddF (w : World) (a0 : Option Addr) (l : List Int) (e : Ending) (w' : World) : Prop :=
  ∃ a c, e = .returned (.slice a l.length c) ∧ Ints w' w'.heap.size a l ∧ (a = a0 ∨ ∀ ad, a = some ad → w.heap.size ≤ ad.block) ∧ Below w.heap.size w w'
def RetIdsF (w : World) (l : List Int) (e : Ending) (w' : World) : Prop :=
  ∃ a c, e = .returned (.slice a l.length c) ∧ Ints w' w'.heap.size a l ∧ (∀ ad, a = some ad → w.heap.size ≤ ad.block) ∧ Below w.heap.size w w'
def IntsVF (n0 : Nat) (wr : World) (o : List Int) (v : Value) : Prop := ∃ a c, v = .slice a o.length c ∧ Ints wr wr.heap.size a o ∧ ∀ ad, a = some ad → n0 ≤ ad.block
theorem own_intsF {w : World} {base : Nat} {t : TypeId} {v : Value} {l : List Int} (h : w.ownsRow base t 1 v l.length (l.map (Value.int .i64))) : ∃ a c, v = .slice a l.length c ∧ Ints w w.heap.size a l ∧ ∀ ad, a = some ad → base ≤ ad.block := by
  obtain ⟨a, c, rfl, h1⟩ := own_ints h
  refine ⟨a, c, rfl, h1, fun ad e => ?_⟩
  subst e
  exact own_block h ad.block rfl

set_option maxRecDepth 100000 in
set_option maxHeartbeats 1600000 in
theorem radd9f_any (a : Option Addr) (l : List Int) (c : Nat) (n : Int) (B : Nat) (w : World) (hr : Ints w B a l) (hB : B ≤ w.heap.size) (hl : l.length ≤ 1000000) :
    Calls Tryz.prog 150 #[.slice a l.length c, .int .i64 n] w (RetAddF w a (addI l n)) := by
  obtain ⟨i0, hi, hz0, hz1, hz2⟩ := info_parts int_info
  have hself : ∀ wr : World, Below w.heap.size w wr → n ∈ l → RetAddF w a (addI l n) (.returned (.slice a l.length c)) wr := fun wr hb h => by
    have e : addI l n = l := if_pos h
    rw [e]; exact ⟨a, c, rfl, ((hr.more hB).below hb).more hb.size, .inl rfl, hb⟩
  obtain ⟨m, hm⟩ : ∃ m, l.length = m := ⟨_, rfl⟩
  rw [hm] at hl hself ⊢
  have HN := Lib.hid hm; have HR := Lib.hid hr; have SELF := Lib.hid hself
  clear hm hr hself
  go_enter Tryz.func150, Tryz.ntmps150
  go_wp2
  go_loopw [5, 6, 7] (fun v d i wr => ∃ k : Nat, k ≤ m ∧ i = .int .i64 k ∧ n ∉ l.take k ∧ AddR w (addK l n k) v d wr) (fun _ _ i _ => m - (intOf i).toNat)
  case atStart => exact ⟨0, Nat.zero_le _, rfl, by simp, rfl, World.ownsRow_nil _ _ _ _, Below.refl _ _⟩
  case round =>
    obtain ⟨k, hk, rfl, hnk, rfl, hown, hbel⟩ := hrel
    have hlen := addK_len l n k (by rw [HN.out]; exact hk)
    by_cases hlt : k < m
    · have hkl : k < l.length := by rw [HN.out]; exact hlt
      obtain ⟨ad, rfl, hab, q0⟩ := (HR.out.below (hbel.mono hB)) k hkl
      have hst := addK_succ l n k hkl
      have htk := take_get l k hkl
      have hin : l[k]'hkl ∈ l := List.getElem_mem hkl
      have hbk : (ad.add k).block = ad.block := by unfold Addr.add; split <;> rfl
      obtain ⟨e, he⟩ : ∃ e, l[k]'hkl = e := ⟨_, rfl⟩
      rw [he] at q0 hst htk hin
      clear he
      have b0 : (0 : Int) ≤ (k : Int) := by omega
      have b1 : (k : Int) < (m : Int) := by omega
      obtain ⟨p, hp⟩ : ∃ p, addK l n k = p := ⟨_, rfl⟩
      rw [hp] at hst hown hlen ⊢
      obtain ⟨o, d⟩ := p
      simp only at hown hlen
      clear hp
      have ol : o.length ≤ k + 1 := hlen.1
      clear hlen
      by_cases hen : e = n
      · subst hen
        have R := SELF.out _ hbel hin
        have RR := Lib.hid R
        clear hst htk hin R hown hnk hbel
        go_wp2
        go_ret
        exact RR.out
      · have t0 : (e == n) = false := beq_eq_false_iff_ne.2 hen
        have hnk2 : n ∉ l.take (k + 1) := by rw [htk]; simp; exact ⟨hnk, fun h => hen h.symm⟩
        have HNK := Lib.hid hnk2
        clear hen hnk htk hin hnk2
        have HBK := Lib.hid hbk
        cases d
        · by_cases hgt : n < e
          · rw [addS_put n o e hgt] at hst
            have HS := Lib.hid hst; clear hst
            have tok1 : True := trivial
            go_upto_region 11 with (at_builtin; have _t := tok1; refine wpList_append_own _ rfl _ _ 86 rfl w.heap.size 3 i0 (.int .i64 0) 1 8 Tryz.underlying86 hi hz0 hz1 hz2 rfl (by decide) _ _ _ rfl (hown.alloc _) ⟨wr.heap.size, 0, none⟩ 1 1 [.int .i64 n] rfl rfl (news_int _ _ _) (one_int _) (by unfold maxLen; omega) (by omega) (by have := hbel.size; simp; omega) ?_; intro v1 w1 ho1 hg1 _; clear tok1)
            have hb1 : Below w.heap.size w w1 := (hbel.alloc hbel.size _).grown hg1 (by have := hbel.size; simp; omega) (own_block hown)
            have e0 : w1.cell? (ad.add k) = some (.int .i64 e) := (hb1.cell (by rw [hbk]; omega)).trans ((hbel.cell (by rw [hbk]; omega)).symm.trans q0)
            clear hg1 hown hbel q0
            have tok2 : True := trivial
            go_wp2_with (at_builtin; have _t := tok2; refine wpList_append_own _ rfl _ _ 86 rfl w.heap.size 3 i0 (.int .i64 0) 1 8 Tryz.underlying86 hi hz0 hz1 hz2 rfl (by decide) _ _ _ rfl (ho1.alloc _) ⟨w1.heap.size, 0, none⟩ 1 1 [.int .i64 e] rfl rfl (news_int _ _ _) (one_int _) (by unfold maxLen; omega) (by omega) (by have := hb1.size; simp; omega) ?_; intro v2 w2 ho2 hg2 _; clear tok2)
            have hb2 : Below w.heap.size w w2 := (hb1.alloc hb1.size _).grown hg2 (by have := hb1.size; simp; omega) (own_block ho1)
            have R : AddR w (addK l n (k + 1)) v2 (.bool true) w2 := ⟨by rw [HS.out], by rw [HS.out, List.map_append, List.map_append, List.length_append, List.length_append]; exact ho2, hb2⟩
            have RR := Lib.hid R
            clear ho1 hb1 ho2 hg2 hb2 e0 R
            go_wp2
            go_roundw
            case rel => exact ⟨k + 1, by omega, by go_num, HNK.out, RR.out⟩
            case measure => simp [intOf]; omega
          · rw [addS_no n o e hgt] at hst
            have hgt2 : e ≤ n := by omega
            clear hgt
            have HS := Lib.hid hst; clear hst
            have tok1 : True := trivial
            go_wp2_with (at_builtin; have _t := tok1; refine wpList_append_own _ rfl _ _ 86 rfl w.heap.size 3 i0 (.int .i64 0) 1 8 Tryz.underlying86 hi hz0 hz1 hz2 rfl (by decide) _ _ _ rfl (hown.alloc _) ⟨wr.heap.size, 0, none⟩ 1 1 [.int .i64 e] rfl rfl (news_int _ _ _) (one_int _) (by unfold maxLen; omega) (by omega) (by have := hbel.size; simp; omega) ?_; intro v1 w1 ho1 hg1 _; clear tok1)
            have hb1 : Below w.heap.size w w1 := (hbel.alloc hbel.size _).grown hg1 (by have := hbel.size; simp; omega) (own_block hown)
            have R : AddR w (addK l n (k + 1)) v1 (.bool false) w1 := ⟨by rw [HS.out], by rw [HS.out, List.map_append, List.length_append]; exact ho1, hb1⟩
            have RR := Lib.hid R
            clear hg1 hown hbel ho1 hb1 q0 R
            go_wp2
            go_roundw
            case rel => exact ⟨k + 1, by omega, by go_num, HNK.out, RR.out⟩
            case measure => simp [intOf]; omega
        · rw [addS_done n o e] at hst
          have HS := Lib.hid hst; clear hst
          have tok1 : True := trivial
          go_wp2_with (at_builtin; have _t := tok1; refine wpList_append_own _ rfl _ _ 86 rfl w.heap.size 3 i0 (.int .i64 0) 1 8 Tryz.underlying86 hi hz0 hz1 hz2 rfl (by decide) _ _ _ rfl (hown.alloc _) ⟨wr.heap.size, 0, none⟩ 1 1 [.int .i64 e] rfl rfl (news_int _ _ _) (one_int _) (by unfold maxLen; omega) (by omega) (by have := hbel.size; simp; omega) ?_; intro v1 w1 ho1 hg1 _; clear tok1)
          have hb1 : Below w.heap.size w w1 := (hbel.alloc hbel.size _).grown hg1 (by have := hbel.size; simp; omega) (own_block hown)
          have R : AddR w (addK l n (k + 1)) v1 (.bool true) w1 := ⟨by rw [HS.out], by rw [HS.out, List.map_append, List.length_append]; exact ho1, hb1⟩
          have RR := Lib.hid R
          clear hg1 hown hbel ho1 hb1 q0 R
          go_wp2
          go_roundw
          case rel => exact ⟨k + 1, by omega, by go_num, HNK.out, RR.out⟩
          case measure => simp [intOf]; omega
    · obtain rfl : k = m := by omega
      have hnl : n ∉ l := by rw [List.take_of_length_le (by rw [HN.out]; exact Nat.le_refl _)] at hnk; exact hnk
      have he : addI l n = (if (addK l n k).2 = true then (addK l n k).1 else (addK l n k).1 ++ [n]) := by unfold addI; rw [if_neg hnl, HN.out]
      clear hnk hnl
      obtain ⟨p, hp⟩ : ∃ p, addK l n k = p := ⟨_, rfl⟩
      rw [hp] at he hown hlen ⊢
      obtain ⟨o, d⟩ := p
      simp only at hown hlen
      clear hp
      have ol : o.length ≤ k + 1 := hlen.1
      clear hlen
      cases d
      · have he2 : addI l n = o ++ [n] := by rw [he]; rfl
        have HE := Lib.hid he2
        clear he he2
        have tok1 : True := trivial
        go_wp2_with (at_builtin; have _t := tok1; refine wpList_append_own _ rfl _ _ 86 rfl w.heap.size 3 i0 (.int .i64 0) 1 8 Tryz.underlying86 hi hz0 hz1 hz2 rfl (by decide) _ _ _ rfl (hown.alloc _) ⟨wr.heap.size, 0, none⟩ 1 1 [.int .i64 n] rfl rfl (news_int _ _ _) (one_int _) (by unfold maxLen; omega) (by omega) (by have := hbel.size; simp; omega) ?_; intro v1 w1 ho1 hg1 _; clear tok1)
        have hb1 : Below w.heap.size w w1 := (hbel.alloc hbel.size _).grown hg1 (by have := hbel.size; simp; omega) (own_block hown)
        have ho2 : w1.ownsRow w.heap.size 3 1 v1 (addI l n).length ((addI l n).map (Value.int .i64)) := by
          rw [HE.out, List.map_append, List.length_append]
          exact ho1
        obtain ⟨ad, cp, rfl, hn, hfr⟩ := own_intsF ho2
        have HNN := Lib.hid hn; have HFR := Lib.hid hfr; have HB := Lib.hid hb1
        clear hfr hn ho1 ho2 hg1 hb1 hbel hown HE
        go_wp2
        go_ret
        exact ⟨ad, cp, rfl, HNN.out, .inr HFR.out, HB.out⟩
      · have he2 : addI l n = o := by rw [he]; rfl
        rw [← he2] at hown
        obtain ⟨ad, cp, rfl, hn, hfr⟩ := own_intsF hown
        have HNN := Lib.hid hn; have HFR := Lib.hid hfr
        clear hfr hn hown he he2
        go_wp2
        go_ret
        exact ⟨ad, cp, rfl, HNN.out, .inr HFR.out, hbel⟩
set_option maxRecDepth 100000 in
set_option maxHeartbeats 1600000 in
theorem rids9f_any (a : Option Addr) (L : List (List Ent)) (c : Nat) (P : Nat → Prop) (w : World) (hP : ∀ b, P b → b < w.heap.size) (h : LLs w P a L) (hn : L.length ≤ 1000) (hM : ∀ l ∈ L, l.length ≤ 900) :
    Calls Tryz.prog 111 #[fdV a L.length c] w (RetIdsF w (idsK L)) := by
  obtain ⟨n, hnn⟩ : ∃ n, L.length = n := ⟨_, rfl⟩
  rw [hnn] at hn ⊢
  have HN := Lib.hid hnn; have H := Lib.hid h; have HM := Lib.hid hM
  clear hnn h hM
  go_enter Tryz.func111, Tryz.ntmps111
  go_wp2
  go_loopw [3, 4] (fun v i wr => ∃ k : Nat, k ≤ n ∧ i = .int .i64 k ∧ IntsVF w.heap.size wr (idsK (L.take k)) v ∧ Below (w.heap.size + 1) (w.alloc (.cells #[.slice a n c] 30)) wr) (fun _ i _ => n - (intOf i).toNat)
  case atStart => exact ⟨0, Nat.zero_le _, rfl, ⟨none, 0, rfl, fun k hk => absurd hk (by simp [idsK]), fun ad h => by cases h⟩, Below.refl _ _⟩
  case round =>
    obtain ⟨k, hk, rfl, hv, hbel⟩ := hrel
    have bx : wr.cell? ⟨w.heap.size, 0, none⟩ = some (.slice a n c) := (hbel.cell (p := ⟨w.heap.size, 0, none⟩) (by simp)).trans (by simp [World.cell?_alloc_new])
    by_cases hlt : k < n
    · have hkl : k < L.length := by rw [HN.out]; exact hlt
      have hBw : Below w.heap.size w wr := ((Below.refl w.heap.size w).alloc (Nat.le_refl _) _).trans (hbel.mono (by omega))
      obtain ⟨ad, rfl, hab, ai, ci, q0, q1⟩ := (H.out.below hP hBw) k hkl
      have hab := hP _ hab
      have hst := idsK_succ L k hkl
      have hlen := idsK_len L 900 HM.out k (by rw [HN.out]; exact hk)
      have hlk := HM.out (L[k]'hkl) (List.getElem_mem _)
      obtain ⟨l, hl⟩ : ∃ l, L[k]'hkl = l := ⟨_, rfl⟩
      rw [hl] at q0 q1 hst hlk
      obtain ⟨o, ho⟩ : ∃ o, idsK (L.take k) = o := ⟨_, rfl⟩
      rw [ho] at hst hlen hv
      obtain ⟨m, hm⟩ : ∃ m, l.length = m := ⟨_, rfl⟩
      rw [hm] at q0 hlk
      have hol : o.length ≤ 900000 := by omega
      have HST := Lib.hid hst; have HMM := Lib.hid hm; have Q1 := Lib.hid q1; have HBW := Lib.hid hBw; have HBEL := Lib.hid hbel; have HV := Lib.hid hv; have Q0 := Lib.hid q0; have BX := Lib.hid bx
      clear hl ho hm q1 hst hlen hBw hbel hv
      have b0 : (0 : Int) ≤ (k : Int) := by omega
      have b1 : (k : Int) < (n : Int) := by omega
      obtain ⟨wo, rfl⟩ : ∃ wo : World, wo = wr := ⟨_, rfl⟩
      go_wp2
      go_loopw [3, 5] (fun v i wx => ∃ j : Nat, j ≤ m ∧ i = .int .i64 j ∧ IntsVF w.heap.size wx (idsIn o (l.take j)) v ∧ Below (w.heap.size + 1) wo wx) (fun _ i _ => m - (intOf i).toNat)
      case atStart => exact ⟨0, Nat.zero_le _, rfl, HV.out, Below.refl _ _⟩
      case round =>
        obtain ⟨j, hj, rfl, hv, hbo⟩ := hrel
        have bx2 : wr.cell? ⟨w.heap.size, 0, none⟩ = some (.slice (some ad) n c) := (hbo.cell (p := ⟨w.heap.size, 0, none⟩) (by simp)).trans BX.out
        have q02 : wr.cell? (ad.add k) = some (.slice ai m ci) := (hbo.cell (by rw [add_block]; omega)).trans Q0.out
        have hil := idsIn_len o (l.take j)
        have hjl : (l.take j).length ≤ j := List.length_take_le _ _
        by_cases hjm : j < m
        · have hjl2 : j < l.length := by rw [HMM.out]; exact hjm
          obtain ⟨ae, rfl, hae, r0, r1⟩ := (Q1.out.below (fun b hb => Nat.lt_succ_of_lt (hP b hb)) hbo) j hjl2
          have hst := idsIn_succ o l j hjl2
          obtain ⟨e, he⟩ : ∃ e, l[j]'hjl2 = e := ⟨_, rfl⟩
          rw [he] at r0 r1 hst
          obtain ⟨nm, id⟩ := e
          simp only at r0 r1 hst
          obtain ⟨p, hp⟩ : ∃ p, idsIn o (l.take j) = p := ⟨_, rfl⟩
          rw [hp] at hst hv hil
          obtain ⟨av, cv, rfl, hi, hfv⟩ := hv
          have ca := radd9f_any av p cv id wr.heap.size wr hi (Nat.le_refl _) (by omega)
          have CA := Lib.hid ca; have HST2 := Lib.hid hst; have HFV := Lib.hid hfv
          clear he hp hst hi ca hfv
          have d0 : (0 : Int) ≤ (j : Int) := by omega
          have d1 : (j : Int) < (m : Int) := by omega
          go_wp2_with fail
          refine CA.out.mono ?_
          rintro e w1 ⟨av2, cv2, rfl, hi2, hor, hb2⟩
          have hsw : w.heap.size ≤ wr.heap.size := Nat.le_trans (Nat.le_succ _) (Nat.le_trans HBEL.out.size hbo.size |> fun h => by simp at h; omega)
          have R : IntsVF w.heap.size w1 (idsIn o (l.take (j + 1))) (.slice av2 (addI p id).length cv2) := ⟨av2, cv2, by rw [HST2.out], by rw [HST2.out]; exact hi2, fun ad h => by rcases hor with hor | hor; exact HFV.out ad (hor ▸ h); exact Nat.le_trans hsw (hor ad h)⟩
          have hb3 := hbo.trans (hb2.mono (Nat.le_trans HBEL.out.size hbo.size |> fun h => by simp at h; omega))
          have RR := Lib.hid R; have HB3 := Lib.hid hb3
          clear R hi2 hb2 hb3 hor hsw
          go_wp2
          go_roundw
          case rel => exact ⟨j + 1, by omega, by go_num, RR.out, HB3.out⟩
          case measure => simp [intOf]; omega
        · obtain rfl : j = m := by omega
          have e1 : idsIn o (l.take j) = idsK (L.take (k + 1)) := by rw [HST.out, List.take_of_length_le (by rw [HMM.out]; exact Nat.le_refl _)]
          rw [e1] at hv
          have HV2 := Lib.hid hv
          have hb3 := HBEL.out.trans hbo
          have HB3 := Lib.hid hb3
          clear hv hb3 e1 hil
          go_wp2
          refine ⟨⟨k + 1, by omega, by go_num, HV2.out, HB3.out⟩, by simp [intOf]; omega⟩
    · obtain rfl : k = n := by omega
      obtain ⟨av, cv, rfl, hi, hfv⟩ := hv
      rw [List.take_of_length_le (by rw [HN.out]; exact Nat.le_refl _)] at hi ⊢
      have HI := Lib.hid hi; have HFV := Lib.hid hfv
      have HB := Lib.hid hbel
      clear hi hbel hfv
      go_wp2
      go_ret
      exact ⟨av, cv, rfl, HI.out, HFV.out, ((Below.refl w.heap.size w).alloc (Nat.le_refl _) _).trans (HB.out.mono (by omega))⟩
end Go.Proofs.YtfgecjlccngddaaGreat
namespace Go.Proofs.YtfgecjlccngddaaGreat
set_option linter.unusedSimpArgs false
set_option linter.unusedVariables false
open Go.RowKit
set_option linter.unusedVariables false

theorem mixZ_size (o n c : ByteArray) : (mixOf o n c).size ≤ max o.size n.size := by
  have h := mixL_max o.data.toList n.data.toList c.data.toList
  have e : (mixOf o n c).data.toList = (mixL o.data.toList n.data.toList c.data.toList).1 := rfl
  rw [← e] at h
  simpa using h
theorem mixZ_used (o n c : ByteArray) : mixUs o n c ≤ max o.size n.size := by
  refine Nat.le_trans (mixU_le _ _ _ _) ?_
  have h1 := cntN_le o.data.toList.length
  have h2 := cntN_le n.data.toList.length
  have e1 : o.data.toList.length = o.size := by simp
  have e2 : n.data.toList.length = n.size := by simp
  unfold mixM
  omega
theorem crashK_succ (ch : ByteArray) (l : List Int) (tp : List Tp) (k : Nat) (h : k < l.length) (t : Tp) (ht : (crashK ch l tp k).1.getD (l[k] - 1).toNat Tp.none = t) :
    crashK ch l tp (k + 1) = ((crashK ch l tp k).1.set (l[k] - 1).toNat ⟨mixOf t.k t.n (ch.extract (crashK ch l tp k).2 ch.size), mixOf t.k t.n (ch.extract (crashK ch l tp k).2 ch.size)⟩, (crashK ch l tp k).2 + mixUs t.k t.n (ch.extract (crashK ch l tp k).2 ch.size)) := by
  subst ht
  unfold crashK
  rw [take_get l k h, List.foldl_append]
  rfl
/-- What a crash keeps of a disk's bounds, number by number. -/
def CrK (M : Nat) (n : Nat) (r : List Tp × Nat) (k : Nat) : Prop := r.1.length = n ∧ (∀ t ∈ r.1, t.k.size ≤ 200 * M ∧ t.n.size ≤ 200 * M) ∧ r.2 ≤ 1 + 200 * M * k
theorem getD_mem {l : List Tp} {M : Nat} (h : ∀ t ∈ l, t.k.size ≤ 200 * M ∧ t.n.size ≤ 200 * M) (j : Nat) : (l.getD j Tp.none).k.size ≤ 200 * M ∧ (l.getD j Tp.none).n.size ≤ 200 * M := by
  rw [List.getD_eq_getElem?_getD]
  cases hj : l[j]? with
  | none => exact ⟨Nat.zero_le _, Nat.zero_le _⟩
  | some t => exact h t (List.mem_of_getElem? hj)
theorem crK_all {M : Nat} {D : Dsk} (h : D.ok M) (ch : ByteArray) (k : Nat) (hk : k ≤ (idsK D.L).length) : CrK M D.tp.length (crashK ch (idsK D.L) D.tp k) k := by
  induction k with
  | zero => exact ⟨rfl, h.2.2.2.1, by show 1 ≤ _; omega⟩
  | succ k ih =>
    obtain ⟨h1, h2, h3⟩ := ih (by omega)
    have hkl : k < (idsK D.L).length := by omega
    have hg := getD_mem h2 ((idsK D.L)[k] - 1).toNat
    rw [crashK_succ ch (idsK D.L) D.tp k hkl _ rfl]
    have hm := mixZ_size ((crashK ch (idsK D.L) D.tp k).1.getD ((idsK D.L)[k] - 1).toNat Tp.none).k ((crashK ch (idsK D.L) D.tp k).1.getD ((idsK D.L)[k] - 1).toNat Tp.none).n (ch.extract (crashK ch (idsK D.L) D.tp k).2 ch.size)
    have hu := mixZ_used ((crashK ch (idsK D.L) D.tp k).1.getD ((idsK D.L)[k] - 1).toNat Tp.none).k ((crashK ch (idsK D.L) D.tp k).1.getD ((idsK D.L)[k] - 1).toNat Tp.none).n (ch.extract (crashK ch (idsK D.L) D.tp k).2 ch.size)
    refine ⟨by simp [h1], fun t ht => ?_, ?_⟩
    · rcases List.mem_or_eq_of_mem_set ht with ht | rfl
      · exact h2 t ht
      · simp only; omega
    · simp only
      rw [Nat.mul_add, Nat.mul_one]
      omega
theorem pick_mem {L : List (List Ent)} (hL : L ≠ []) (ch : Int) : L.getD (pickN ch L.length) [] ∈ L := by
  have hlt := pickN_lt ch L.length (List.length_pos_iff.2 hL)
  rw [List.getD_eq_getElem?_getD, List.getElem?_eq_getElem hlt]
  exact List.getElem_mem hlt
theorem crash_okK {M : Nat} {D : Dsk} (h : D.ok M) (ch : ByteArray) (x : Int) (k : Nat) (hk : k ≤ (idsK D.L).length) (hM : 1 ≤ M) : Dsk.ok M ⟨D.sec, (crashK ch (idsK D.L) D.tp k).1, [D.L.getD (pickN x D.L.length) []], Fus.new, D.calls⟩ := by
  obtain ⟨h1, h2, _⟩ := crK_all h ch k hk
  obtain ⟨g1, g2, ⟨g3, g4, g5⟩, g6, g7, g8, g9, g10⟩ := h
  have hm := pick_mem g3 x
  refine ⟨g1, by rw [h1]; exact g2, ⟨by simp, by simp, fun l hl => ?_⟩, h2, fun l hl e he => ?_, Fus.new_ok, g9, g10⟩
  · simp at hl; subst hl; exact g5 _ hm
  · simp only [List.mem_singleton] at hl; subst hl; rw [h1]; exact g7 _ hm e he

theorem firstB_0 {ch : ByteArray} (h : ch.size = 0) : firstB ch = 0 := if_pos h
theorem firstB_1 {ch : ByteArray} (h : 0 < ch.size) : firstB ch = ((ch[0]'h).toNat : Nat) := by
  unfold firstB
  rw [if_neg (by omega), bt_get ch 0 h]
theorem Dk.set4 {w w' : World} {x0 x1 x2 x3 x4 x5 x6 x7 : Value} (h : Dk w #[x0, x1, x2, x3, x4, x5, x6, x7] w') (u3 u4 u5 u6 : Value) :
    Dk w #[x0, x1, x2, u3, u4, u5, u6, x7] ((((w'.setCell ⟨w.heap.size, 3, none⟩ u3).setCell ⟨w.heap.size, 4, none⟩ u4).setCell ⟨w.heap.size, 5, none⟩ u5).setCell ⟨w.heap.size, 6, none⟩ u6) := by
  refine ⟨?_, ?_, ?_⟩
  · iterate 4 refine Below.setCell ?_ (by simp) _
    exact h.1
  · have s3 : Blk (w'.setCell ⟨w.heap.size, 3, none⟩ u3) w.heap.size #[x0, x1, x2, u3, x4, x5, x6, x7] 34 := h.2.1.set 3 _
    have s4 : Blk ((w'.setCell ⟨w.heap.size, 3, none⟩ u3).setCell ⟨w.heap.size, 4, none⟩ u4) w.heap.size #[x0, x1, x2, u3, u4, x5, x6, x7] 34 := s3.set 4 _
    have s5 : Blk (((w'.setCell ⟨w.heap.size, 3, none⟩ u3).setCell ⟨w.heap.size, 4, none⟩ u4).setCell ⟨w.heap.size, 5, none⟩ u5) w.heap.size #[x0, x1, x2, u3, u4, u5, x6, x7] 34 := s4.set 5 _
    exact s5.set 6 _
  · iterate 4 refine Blk.other ?_ _ (by simp) _
    exact h.2.2
theorem Dk.set2 {w w' : World} {x0 x1 x2 x3 x4 x5 x6 x7 : Value} (h : Dk w #[x0, x1, x2, x3, x4, x5, x6, x7] w') (u : Value) : Dk w #[x0, x1, u, x3, x4, x5, x6, x7] (w'.setCell ⟨w.heap.size, 2, none⟩ u) :=
  ⟨h.1.setCell (by simp) _, h.2.1.set 2 u, h.2.2.other _ (by simp) _⟩
-- CRASH (gen_disk10.py)
/-- What stands behind the first k tapes. -/
def CrR (w : World) (P : Nat → Prop) (D : Dsk) (ch : ByteArray) (ids : List Int) (ai : Option Addr) (pk : List Ent) (k : Nat) (wr : World) : Prop :=
  ∃ a c aL2 cL2, Dk w (dskC D.sec a D.tp.length c aL2 1 cL2 Fus.new D.calls) wr ∧ Tps wr (Grow P (w.heap.size + 2) wr.heap.size) a (crashK ch ids D.tp k).1 ∧ LLs wr (Grow P (w.heap.size + 2) wr.heap.size) aL2 [pk] ∧ Ints wr wr.heap.size ai ids ∧ (a = none → c = 0)
theorem Ints.keep2 {w2 W' : World} {n : Nat} {ai : Option Addr} {ids : List Int} (h : Ints w2 w2.heap.size ai ids) (hfa : ∀ ad, ai = some ad → n + 2 ≤ ad.block) (hA : Apart [n, n + 1] w2 W') : Ints W' W'.heap.size ai ids := fun k hk => by
  obtain ⟨ad, e, hb, hc⟩ := h k hk
  have := hfa ad e
  exact ⟨ad, e, Nat.lt_of_lt_of_le hb hA.size, (hA.cell (by rw [add_block]; exact hb) (by rw [add_block]; simp; omega)).trans hc⟩
theorem rdtape_f {M : Nat} {sec : Int} {tp : List Tp} {LL : List (List Ent)} {F : Fus} {k : Int} (hD : Dsk.ok M ⟨sec, tp, LL, F, k⟩) (hM : M ≤ 200) (a : Option Addr) (c : Nat) (aL : Option Addr) (cL : Nat) (m : Nat) (h2 : m < tp.length) (t : Tp) (P : Nat → Prop) (W : World) (hP : ∀ b, P b → b < W.heap.size) (hT : Tps W P a tp) (hL : LLs W P aL LL) :
    Calls Tryz.prog 109 #[dskV sec a tp.length c aL LL.length cL F k, .int .i64 ((m : Int) + 1), t.v] W fun e w' =>
      ∃ a c aL cL, e = .returned (dskV sec a tp.length c aL LL.length cL F k) ∧ Tps w' (Grow P W.heap.size w'.heap.size) a (tp.set m t) ∧ LLs w' (Grow P W.heap.size w'.heap.size) aL LL ∧ (a = none → c = 0) ∧ Below W.heap.size W w' := by
  refine (rdtape_any hD hM a c aL cL ((m : Int) + 1) (by omega) (by show (m : Int) + 1 ≤ (tp.length : Int); omega) t P W hP hT hL).mono ?_
  rintro e w' ⟨dv, rfl, ⟨a1, c1, aL1, cL1, rfl, h1, h2', h3⟩, hb⟩
  have e1 : Dsk.set ⟨sec, tp, LL, F, k⟩ ((m : Int) + 1) t = ⟨sec, tp.set m t, LL, F, k⟩ := by unfold Dsk.set; rw [show ((m : Int) + 1 - 1).toNat = m by omega]
  rw [e1] at h1 h2' ⊢
  exact ⟨a1, c1, aL1, cL1, by simp, h1, h2', h3, hb⟩
/-- Behind a round. -/
theorem cr_next {w wr w7 : World} {P : Nat → Prop} {D : Dsk} {ch : ByteArray} {ids : List Int} {ai a7 aL7 : Option Addr} {c7 cL7 nt k n1 us : Nat} {tp7 : List Tp} {pk : List Ent} {x0 x1 x2 x3 x4 x5 x6 x7 : Value} (hP : ∀ b, P b → b < w.heap.size) (hsu : crashK ch ids D.tp (k + 1) = (tp7, us)) (hd : Dk w #[x0, x1, x2, x3, x4, x5, x6, x7] w7) (hnt : nt = D.tp.length)
    (hn1 : w.heap.size + 2 ≤ wr.heap.size) (hn2 : wr.heap.size ≤ n1) (hn3 : n1 ≤ w7.heap.size) (hT : Tps w7 (Grow (Grow P (w.heap.size + 2) wr.heap.size) n1 w7.heap.size) a7 tp7) (hL : LLs w7 (Grow (Grow P (w.heap.size + 2) wr.heap.size) n1 w7.heap.size) aL7 [pk])
    (hI : Ints w7 w7.heap.size ai ids) (hfa : ∀ ad, ai = some ad → w.heap.size + 2 ≤ ad.block) (hz : a7 = none → c7 = 0) : CrR w P D ch ids ai pk (k + 1) (put8 w7 w.heap.size D.sec a7 nt c7 aL7 1 cL7 Fus.new D.calls) := by
  subst hnt
  have hg : ∀ b, Grow (Grow P (w.heap.size + 2) wr.heap.size) n1 w7.heap.size b → Grow P (w.heap.size + 2) w7.heap.size b := fun b hb => by
    rcases hb with (hb | hb) | hb
    · exact .inl hb
    · exact .inr ⟨hb.1, by omega⟩
    · exact .inr ⟨by omega, hb.2⟩
  have hap := put8_apart [w.heap.size, w.heap.size + 1] w7 w.heap.size (by simp) D.sec a7 D.tp.length c7 aL7 1 cL7 Fus.new D.calls
  have hk := keep2 hP hd.1.size hap (Nat.le_refl _)
  have hs := put8_size w7 w.heap.size D.sec a7 D.tp.length c7 aL7 1 cL7 Fus.new D.calls
  refine ⟨a7, c7, aL7, cL7, hd.put _ _ _ _ _ _ _ _ _, ?_, ?_, hI.keep2 hfa hap, hz⟩
  · rw [hs, hsu]; exact (hT.more hg).keep hk
  · rw [hs]; exact (hL.more hg).keep hk
theorem Dk.drew {w w' : World} {C : Array Value} (h : Dk w C w') : Dk w C w'.drew := ⟨h.1.drew, h.2.1, h.2.2⟩
theorem cr_b1 {wr w5 : World} {o : Obj} {u0 u1 : Value} (h : Below (wr.alloc o).drew.heap.size (wr.alloc o).drew w5) : Below wr.heap.size wr ((w5.setCell ⟨wr.heap.size, 0, none⟩ u0).setCell ⟨wr.heap.size, 1, none⟩ u1) :=
  ((((Below.refl wr.heap.size wr).alloc (Nat.le_refl _) o).drew.trans (h.mono (show wr.heap.size ≤ (wr.alloc o).heap.size by simp))).setCell (Nat.le_refl _) _).setCell (Nat.le_refl _) _
theorem cr_b3 {wr w5 : World} (h : Below wr.drew.heap.size wr.drew w5) : wr.heap.size ≤ w5.heap.size := h.size
theorem cr_b2 {wr w5 : World} {o : Obj} (h : Below wr.drew.heap.size wr.drew w5) : Below wr.heap.size wr (w5.alloc o) := (((Below.refl wr.heap.size wr).drew).trans h).alloc h.size _
theorem cr_start {w w3 : World} {P : Nat → Prop} {D : Dsk} {ch : ByteArray} {ids : List Int} {a ai aL aL2 : Option Addr} {c n cL cL2 : Nat} {pk : List Ent} (hP : ∀ b, P b → b < w.heap.size) (h : Dk w (dskC D.sec a D.tp.length c aL n cL Fus.new D.calls) w3) (hT : Tps w3 P a D.tp) (hL : LLs w3 (Grow P (w.heap.size + 2) w3.heap.size) aL2 [pk])
    (hI : Ints w3 w3.heap.size ai ids) (hfa : ∀ ad, ai = some ad → w.heap.size + 2 ≤ ad.block) (hz : a = none → c = 0) : CrR w P D ch ids ai pk 0 (w3.setCell ⟨w.heap.size, 2, none⟩ (.slice aL2 1 cL2)) := by
  have hap := (Apart.refl [w.heap.size, w.heap.size + 1] w3).setCell (p := ⟨w.heap.size, 2, none⟩) (.inl (by simp)) (.slice aL2 1 cL2)
  have hk := keep2 hP h.1.size hap (Nat.le_refl _)
  have hs : (w3.setCell ⟨w.heap.size, 2, none⟩ (.slice aL2 1 cL2)).heap.size = w3.heap.size := by simp
  refine ⟨a, c, _, _, h.set2 _, ?_, ?_, hI.keep2 hfa hap, hz⟩
  · rw [hs]; exact (hT.more (fun b hb => .inl hb)).keep hk
  · rw [hs]; exact hL.keep hk

set_option maxRecDepth 100000 in
set_option maxHeartbeats 3200000 in
theorem rdcrash_0 {M : Nat} {D : Dsk} (hD : D.ok M) (hM : M ≤ 199) (hM1 : 1 ≤ M) (a : Option Addr) (c : Nat) (aL : Option Addr) (cL : Nat) (ch : ByteArray) (hch : ch.size ≤ maxLen) (hc : ch.size = 0) (P : Nat → Prop) (w : World) (hP : ∀ b, P b → b < w.heap.size) (hT : Tps w P a D.tp) (hL : LLs w P aL D.L) (hz : a = none → c = 0) :
    Calls Tryz.prog 57 #[dskV D.sec a D.tp.length c aL D.L.length cL D.fu D.calls, .string ch] w (RetDE w P ((D.crash ch).1, ((D.crash ch).2 : Nat))) := by
  have hfb0 : firstB ch = 0 := firstB_0 hc
  have hcr1 : (D.crash ch).1 = ⟨D.sec, (crashK ch (idsK D.L) D.tp (idsK D.L).length).1, [D.L.getD (pickN (firstB ch) D.L.length) []], Fus.new, D.calls⟩ := rfl
  have hcr2 : (D.crash ch).2 = (crashK ch (idsK D.L) D.tp (idsK D.L).length).2 := rfl
  rw [hcr1, hcr2, hfb0]
  have hcr := fun k hk => crK_all hD ch k hk
  have hokK := fun k hk => crash_okK hD ch 0 k hk hM1
  have hin : ∀ i ∈ idsK D.L, 1 ≤ i ∧ i ≤ D.tp.length := fun i hi => by obtain ⟨l, hl, e, he, rfl⟩ := idsK_mem D.L i hi; exact hD.2.2.2.2.1 l hl e he
  have hsucc := crashK_succ ch (idsK D.L) D.tp
  have hLL := hD.2.2.1
  have hNl := D.ids_len hD
  have hmul : (M + 1) * M ≤ 200 * 199 := Nat.mul_le_mul (by omega) hM
  have hnT : D.tp.length ≤ 199 := Nat.le_trans hD.2.1 hM
  have hw := Dk.start w (dskC D.sec a D.tp.length c aL D.L.length cL D.fu D.calls)
  have hfb : -9223372036854775808 ≤ (0 : Int) ∧ (0 : Int) ≤ 9223372036854775807 := by omega
  have cj := fun (W : World) (h : Below w.heap.size w W) => rids9f_any aL D.L cL P W (fun b hb => Nat.lt_of_lt_of_le (hP b hb) h.size) (hL.below hP h) (by have := hD.2.2.1.2.1; omega) (fun l hl => by have := hD.2.2.1.2.2 l hl; omega)
  have ck := fun (W : World) (h : Below w.heap.size w W) => rcrash9_any aL D.L cL 0 P W (fun b hb => Nat.lt_of_lt_of_le (hP b hb) h.size) (hL.below hP h) hD.2.2.1.1 (by have := hD.2.2.1.2.1; omega) hfb.1 hfb.2
  obtain ⟨ids, hids⟩ : ∃ x, idsK D.L = x := ⟨_, rfl⟩
  rw [hids] at hcr hsucc hNl
  simp only [hids] at hokK hin cj ⊢
  obtain ⟨pk, hpk⟩ : ∃ x, D.L.getD (pickN 0 D.L.length) [] = x := ⟨_, rfl⟩
  rw [hpk] at ⊢
  simp only [hpk] at hokK ck
  obtain ⟨N, hN⟩ : ∃ N, ids.length = N := ⟨_, rfl⟩
  rw [hN] at hNl ⊢
  have hN2 : N ≤ 39800 := by omega
  have HW := Lib.hid hw; have T := Lib.hid hT; have HCR := Lib.hid hcr; have HOK := Lib.hid hokK; have HIN := Lib.hid hin; have HSU := Lib.hid hsucc; have CJ := Lib.hid cj; have CK := Lib.hid ck; have HN := Lib.hid hN
  clear hcr1 hcr2 hcr hokK hin hsucc hLL hw hT hL hfb hfb0 cj ck hids hpk hN hNl hmul hD
  unfold maxLen at hch
  go_enter Tryz.func57, Tryz.ntmps57
  go_wp2_with fail
  refine (rfnew_any _).mono ?_
  rintro e w1 ⟨rfl, hb1⟩
  have hd1 := HW.out.on hb1
  obtain ⟨⟨lt0, lt1⟩, ⟨b0, b1, b2, b3, b4, b5, b6, b7, q0, q1, q2, q3, q4, q5, q6, q7⟩, ⟨k0, k1, k2, k3, k4, k5, k6, k7, r0, r1, r2, r3, r4, r5, r6, r7⟩⟩ := hd1.facts
  have HD1 := Lib.hid (hd1.set4 (.int .i64 (-1)) (.int .i64 (-1)) (.int .i64 (-1)) (.bool false))
  clear hd1 hb1
  go_wp2_with fail
  clear lt0 lt1 b0 b1 b2 b3 b4 b5 b6 b7 q0 q1 q2 q3 q4 q5 q6 q7 k0 k1 k2 k3 k4 k5 k6 k7 r0 r1 r2 r3 r4 r5 r6 r7
  refine (CJ.out _ HD1.out.1).mono ?_
  rintro e w2 ⟨ai, ci, rfl, hi2, hfr2, hb2⟩
  have hd2 := HD1.out.on hb2
  have hfa : ∀ ad, ai = some ad → w.heap.size + 2 ≤ ad.block := fun ad h => Nat.le_trans HD1.out.lt.2 (hfr2 ad h)
  obtain ⟨⟨lt0, lt1⟩, ⟨b0, b1, b2, b3, b4, b5, b6, b7, q0, q1, q2, q3, q4, q5, q6, q7⟩, ⟨k0, k1, k2, k3, k4, k5, k6, k7, r0, r1, r2, r3, r4, r5, r6, r7⟩⟩ := hd2.facts
  have HD2 := Lib.hid hd2; have HI2 := Lib.hid hi2; have HFA := Lib.hid hfa
  clear hd2 hi2 hfr2 hb2 hfa
  rw [HN.out]
  go_wp2_with fail
  clear lt0 lt1 b0 b1 b2 b3 b4 b5 b6 b7 q0 q1 q2 q3 q4 q5 q6 q7 k0 k1 k2 k3 k4 k5 k6 k7 r0 r1 r2 r3 r4 r5 r6 r7
  refine (CK.out _ HD2.out.1).mono ?_
  rintro e w3 ⟨aL2, cL2, rfl, hL3, hb3⟩
  have hd3 := HD2.out.on hb3
  have hl3 := hL3.more (B' := Grow P (w.heap.size + 2) w3.heap.size) (grow_low HD2.out.lt.2)
  have hi3 := HI2.out.on hb3
  obtain ⟨⟨lt0, lt1⟩, ⟨b0, b1, b2, b3, b4, b5, b6, b7, q0, q1, q2, q3, q4, q5, q6, q7⟩, ⟨k0, k1, k2, k3, k4, k5, k6, k7, r0, r1, r2, r3, r4, r5, r6, r7⟩⟩ := hd3.facts
  have HD3 := Lib.hid hd3; have L3 := Lib.hid hl3; have HI3 := Lib.hid hi3
  clear hd3 hL3 hl3 hi3 hb3
  go_wp2
  go_loopw [8, 9] (fun u v wr => ∃ k : Nat, k ≤ N ∧ v = .int .i64 k ∧ u = .int .i64 ((crashK ch ids D.tp k).2 : Nat) ∧ CrR w P D ch ids ai pk k wr) (fun _ v _ => N - (intOf v).toNat)
  case atStart => exact ⟨0, Nat.zero_le _, rfl, rfl, cr_start hP HD3.out (T.out.below hP HD3.out.1) L3.out HI3.out HFA.out hz⟩
  case round =>
    obtain ⟨k, hk, rfl, rfl, hcrr⟩ := hrel
    by_cases hlt : k < N
    · have hkl : k < ids.length := by rw [HN.out]; exact hlt
      obtain ⟨a1, c1, aL4, cL4, hd4, ht4, hl4, hi4, hz4⟩ := hcrr
      obtain ⟨hlen4, hsz4, hus4⟩ := HCR.out k (Nat.le_of_lt hkl)
      have hok4 := HOK.out k (Nat.le_of_lt hkl)
      obtain ⟨i1, i2⟩ := HIN.out _ (List.getElem_mem hkl)
      obtain ⟨adI, rfl, hIb, hIc⟩ := hi4 k hkl
      have hfi := HFA.out adI rfl
      have hsu := HSU.out k hkl _ rfl
      obtain ⟨id, hid⟩ : ∃ id, ids[k]'hkl = id := ⟨_, rfl⟩
      rw [hid] at hIc i1 i2 hsu
      obtain ⟨⟨tpk, us⟩, hr⟩ : ∃ r, crashK ch ids D.tp k = r := ⟨_, rfl⟩
      rw [hr] at ht4 hlen4 hsz4 hus4 hok4 hsu ⊢
      simp only at ht4 hlen4 hsz4 hus4 hok4 hsu ⊢
      rw [← hlen4] at i2 hd4 hnT
      obtain ⟨ad, m, rfl, rfl, hm, hadb, z0, z1⟩ := ht4.get id i1 i2
      have hgd := getD_mem hsz4 ((m : Int) + 1 - 1).toNat
      obtain ⟨ti, hti⟩ : ∃ x, tpk.getD ((m : Int) + 1 - 1).toNat Tp.none = x := ⟨_, rfl⟩
      rw [hti] at z0 z1 hsu hgd
      obtain ⟨tk, tn⟩ := ti
      simp only at z0 z1 hsu hgd
      have hM2 : 200 * M * k ≤ 40000 * 39800 := Nat.mul_le_mul (by omega) (by omega)
      obtain ⟨nt, hnt⟩ : ∃ nt, tpk.length = nt := ⟨_, rfl⟩
      rw [hnt] at hd4 hm hnT
      have d0 : (0 : Int) ≤ (k : Int) := by omega
      have d1 : (k : Int) < (N : Int) := by omega
      have e0 : (0 : Int) ≤ (m : Int) := by omega
      have e1 : (m : Int) < (nt : Int) := by omega
      have y1 : IntKind.i64.wrap ((m : Int) + 1 - 1) = (m : Int) := by rw [show (m : Int) + 1 - 1 = (m : Int) by omega]; exact IntWalk.i64_in _ (by omega)
      have y2 : IntKind.i64.wrap (m : Int) = (m : Int) := IntWalk.i64_in _ (by omega)
      have hge : ch.size ≤ us := by omega
      have hrs : ch.extract us ch.size = ⟨#[]⟩ := by (rw [show ch.extract us ch.size = ⟨#[]⟩ from str_ext (by rw [extract_list]; simp; omega)])
      rw [hrs] at hsu
      have cc := fun W => rtcrash_any tk tn (by omega) (by omega) ⟨#[]⟩ W
      have hu := mixZ_used tk tn ⟨#[]⟩
      obtain ⟨x, hx⟩ : ∃ x, mixOf tk tn ⟨#[]⟩ = x := ⟨_, rfl⟩
      obtain ⟨u, hux⟩ : ∃ u, mixUs tk tn ⟨#[]⟩ = u := ⟨_, rfl⟩
      simp only [hx, hux] at cc hsu
      rw [hux] at hu
      have hf : Four wr ⟨w.heap.size, 1, none⟩ (adI.add k) (ad.add (m * 2)) ⟨(ad.add (m * 2)).block, (ad.add (m * 2)).off + 1, none⟩ (.slice (some ad) nt c1) (.int .i64 ((m : Int) + 1)) (.string tk) (.string tn) wr.drew :=
        four_start (Below.refl _ _).drew (hd4.2.1.cell 1 _ rfl) hIc z0 z1
      have HF := Lib.hid hf; have CC := Lib.hid cc; have HD4 := Lib.hid hd4; have T4 := Lib.hid ht4; have L4 := Lib.hid hl4; have HI4 := Lib.hid hi4; have HSU2 := Lib.hid hsu; have HOK4 := Lib.hid hok4; have HRR := Lib.hid hr; have HNT := Lib.hid hnt; have HLE4 := Lib.hid hlen4
      have Z0 := Lib.hid z0; have Z1 := Lib.hid z1; have HIC := Lib.hid hIc; have HAD := Lib.hid hadb
      clear hf cc hd4 ht4 hl4 hi4 hsu hok4 hr hnt hlen4 z0 z1 hIc hadb hti hid hx hux hrs hsz4 hIb
      go_upto_region 14 with fail
      go_cut [11, 12] from 45 to 58 (fun g n wx => ∃ b, g = .pointer (some ⟨b, 0, none⟩) ∧ n = .int .i64 (u : Nat) ∧ Blk wx b #[.string x, .string x] 104 ∧ Below wr.heap.size wr wx ∧ wr.heap.size ≤ b)
      case first =>
        have hfb : Four wr ⟨w.heap.size, 1, none⟩ (adI.add k) (ad.add (m * 2)) ⟨(ad.add (m * 2)).block, (ad.add (m * 2)).off + 1, none⟩ (.slice (some ad) nt c1) (.int .i64 ((m : Int) + 1)) (.string tk) (.string tn) (wr.alloc (.cells #[.string ⟨#[]⟩, .string ⟨#[]⟩] 104)).drew :=
          four_start ((Below.refl wr.heap.size wr).alloc (Nat.le_refl _) _).drew (HD4.out.2.1.cell 1 _ rfl) HIC.out Z0.out Z1.out
        obtain ⟨_, g1, g2, g3, g4⟩ := HF.out
        obtain ⟨_, h1, h2, h3, h4⟩ := hfb
        go_region_with (go_at_call 113; refine (CC.out _).mono ?_; rintro e w5 ⟨rfl, hb5⟩; (try (have hbk : Blk w5 wr.heap.size #[.string ⟨#[]⟩, .string ⟨#[]⟩] 104 := (show Blk (wr.alloc (.cells #[.string ⟨#[]⟩, .string ⟨#[]⟩] 104)).drew wr.heap.size #[.string ⟨#[]⟩, .string ⟨#[]⟩] 104 from Blk.new wr #[.string ⟨#[]⟩, .string ⟨#[]⟩] 104).onto hb5; have u0 := hbk.cell 0 _ rfl; have u1 := hbk.cell 1 _ rfl; have s0 := hbk.free 0; have s1 := hbk.free 1; clear hbk)); have HB5 := Lib.hid hb5; clear hb5)
        all_goals
          go_wp2_with fail
          go_meet
          first
            | exact ⟨_, rfl, rfl, (((show Blk (wr.alloc (.cells #[.string ⟨#[]⟩, .string ⟨#[]⟩] 104)).drew wr.heap.size #[.string ⟨#[]⟩, .string ⟨#[]⟩] 104 from Blk.new wr #[.string ⟨#[]⟩, .string ⟨#[]⟩] 104).onto HB5.out).set 0 (.string x)).set 1 (.string x), cr_b1 HB5.out, Nat.le_refl _⟩
            | exact ⟨_, rfl, rfl, Blk.new _ _ _, cr_b2 HB5.out, cr_b3 HB5.out⟩
      case rest =>
        obtain ⟨b5, rfl, rfl, hbk5, hbl5, hge5⟩ := hcut
        have hd6 := HD4.out.on hbl5
        have i6 := (hbl5.cell (cell_lt HIC.out)).trans HIC.out
        have u0 := hbk5.cell 0 _ rfl
        have u1 := hbk5.cell 1 _ rfl
        obtain ⟨⟨lt0, lt1⟩, ⟨b0, b1, b2, b3, b4, b5, b6, b7, q0, q1, q2, q3, q4, q5, q6, q7⟩, ⟨k0, k1, k2, k3, k4, k5, k6, k7, r0, r1, r2, r3, r4, r5, r6, r7⟩⟩ := hd6.facts
        have hub : us ≤ 2000000000 := by omega
        have ct := fun (W : World) (h : Below wr.heap.size wr W) => rdtape_f HOK4.out (by omega) (some ad) c1 aL4 cL4 m (by rw [HNT.out]; exact hm) ⟨x, x⟩ (Grow P (w.heap.size + 2) wr.heap.size) W (fun b hb => Nat.lt_of_lt_of_le (grow_lt hP HD4.out.1.size b hb) h.size) (T4.out.below (grow_lt hP HD4.out.1.size) h) (L4.out.below (grow_lt hP HD4.out.1.size) h)
        rw [HNT.out] at ct
        have CT := Lib.hid ct; have HD6 := Lib.hid hd6; have HBL5 := Lib.hid hbl5
        clear ct hd6 hbl5 hbk5 hge5
        go_wp2_with fail
        go_region_with (go_at_call 109; refine (CT.out _ HBL5.out.drew).mono ?_; rintro e w7 ⟨a7, c7, aL7, cL7, rfl, hT7, hL7, hz7, hb7⟩; have hd7 := HD6.out.drew.on hb7; obtain ⟨⟨lt0, lt1⟩, ⟨b0, b1, b2, b3, b4, b5, b6, b7, q0, q1, q2, q3, q4, q5, q6, q7⟩, ⟨k0, k1, k2, k3, k4, k5, k6, k7, r0, r1, r2, r3, r4, r5, r6, r7⟩⟩ := hd7.facts; have HD7 := Lib.hid hd7; have T7 := Lib.hid hT7; have L7 := Lib.hid hL7; have HB7 := Lib.hid hb7; clear hd7 hT7 hL7 hb7)
        all_goals
          go_wp2
          go_roundw
          case rel => exact ⟨k + 1, by omega, by go_num, by rw [HSU2.out]; go_num, cr_next hP (HSU2.out.trans (by rw [show ((m : Int) + 1 - 1).toNat = m by omega])) HD7.out (HNT.out.symm.trans HLE4.out) HD4.out.lt.2 HBL5.out.size HB7.out.size T7.out L7.out ((HI4.out.on HBL5.out).on ((Below.refl _ _).drew.trans HB7.out)) HFA.out hz7⟩
          case measure => simp [intOf]; omega
    · obtain rfl : k = N := by omega
      obtain ⟨a1, c1, aL4, cL4, hd4, ht4, hl4, hi4, hz4⟩ := hcrr
      have hlen4 : (crashK ch ids D.tp k).1.length = D.tp.length := (HCR.out k (by rw [HN.out]; exact Nat.le_refl _)).1
      obtain ⟨⟨lt0, lt1⟩, ⟨b0, b1, b2, b3, b4, b5, b6, b7, q0, q1, q2, q3, q4, q5, q6, q7⟩, ⟨k0, k1, k2, k3, k4, k5, k6, k7, r0, r1, r2, r3, r4, r5, r6, r7⟩⟩ := hd4.facts
      have HD4 := Lib.hid hd4; have T4 := Lib.hid ht4; have L4 := Lib.hid hl4; have HLE := Lib.hid hlen4
      clear hd4 ht4 hl4 hi4 hlen4
      go_wp2
      refine bodyPost_ret (v := .tuple #[dskV D.sec a1 D.tp.length c1 aL4 1 cL4 Fus.new D.calls, .int .i64 ((crashK ch ids D.tp k).2 : Nat)]) (by simp [results, Tryz.results57, go_sem, k0, k1, k2, k3, k4, k5, k6, k7]) rfl ?_
      refine retDE_end (n1 := w.heap.size + 2) (D := ⟨D.sec, (crashK ch ids D.tp k).1, [pk], Fus.new, D.calls⟩) hP HD4.out.1 ?_ (Nat.le_refl _) T4.out L4.out hz4 HLE.out rfl
      iterate 8 refine Apart.setCell ?_ (.inl (by simp)) _
      exact .refl _ _
end Go.Proofs.YtfgecjlccngddaaGreat
namespace Go.Proofs.YtfgecjlccngddaaGreat
set_option linter.unusedSimpArgs false
set_option linter.unusedVariables false
open Go.RowKit
set_option linter.unusedVariables false

theorem Dsk.ok_up {M : Nat} {D : Dsk} (h : D.ok M) : D.ok (M + 1) := D.ok_more h (Nat.le_succ M)
theorem Dsk.ok_of {M : Nat} {D : Dsk} (h : D.ok M) {tp : List Tp} {L : List (List Ent)} {F : Fus} {c : Int} (h1 : tp.length ≤ M + 1) (h2 : L ≠ []) (h3 : L.length ≤ M + 2) (h4 : ∀ l ∈ L, l.length ≤ M + 1)
    (h5 : ∀ t ∈ tp, t.k.size ≤ 200 * (M + 1) ∧ t.n.size ≤ 200 * (M + 1)) (h6 : ∀ l ∈ L, ∀ e ∈ l, 1 ≤ e.id ∧ e.id ≤ tp.length) (h7 : F.ok) (h8 : 0 ≤ c) (h9 : c ≤ (M : Int) + 1) : Dsk.ok (M + 1) ⟨D.sec, tp, L, F, c⟩ :=
  ⟨h.1, h1, ⟨h2, h3, h4⟩, h5, h6, h7, h8, by show c ≤ ((M + 1 : Nat) : Int); omega⟩
theorem Dsk.then_ok {M : Nat} {D : Dsk} (h : D.ok M) (b : Bool) {f : Dsk → Dsk} (hf : ∀ F : Fus, F.ok → Dsk.ok (M + 1) (f ⟨D.sec, D.tp, D.L, F, D.calls + 1⟩)) : Dsk.ok (M + 1) (Dsk.then (D.ask b) f).1 := by
  have hc := D.fu.call_ok b h.2.2.2.2.2.1
  unfold Dsk.then
  split
  · exact hf _ hc
  · exact Dsk.ask_ok h (F := (D.fu.call b).1) (v := (D.fu.call b).2) rfl
theorem putF_ok {M : Nat} {L : List (List Ent)} (s : ByteArray) (i : Int) (n : Nat) (h1 : L ≠ []) (h2 : L.length ≤ M + 1) (h3 : ∀ l ∈ L, l.length ≤ M) (h4 : ∀ l ∈ L, ∀ e ∈ l, 1 ≤ e.id ∧ e.id ≤ (n : Int)) (hi : 1 ≤ i ∧ i ≤ (n : Int) + 1) :
    putF L s i ≠ [] ∧ (putF L s i).length ≤ M + 2 ∧ (∀ l ∈ putF L s i, l.length ≤ M + 1) ∧ ∀ l ∈ putF L s i, ∀ e ∈ l, 1 ≤ e.id ∧ e.id ≤ (n : Int) + 1 := by
  unfold putF
  split
  · exact ⟨h1, by omega, fun l hl => by have := h3 l hl; omega, fun l hl e he => by have := h4 l hl e he; omega⟩
  · refine ⟨by simp, by simp; omega, fun l hl => ?_, fun l hl e he => ?_⟩
    · rcases List.mem_append.1 hl with hl | hl
      · have := h3 l hl; omega
      · rw [List.mem_singleton.1 hl, withE_len]; have := h3 _ (nowL_mem h1); omega
    · rcases List.mem_append.1 hl with hl | hl
      · have := h4 l hl e he; omega
      · rw [List.mem_singleton.1 hl] at he
        rcases (mem_withE _ _ _).1 he with rfl | he
        · exact hi
        · have := h4 _ (nowL_mem h1) e he; omega
theorem dropF_ok {M : Nat} {L : List (List Ent)} (s : ByteArray) (n : Nat) (h1 : L ≠ []) (h2 : L.length ≤ M + 1) (h3 : ∀ l ∈ L, l.length ≤ M) (h4 : ∀ l ∈ L, ∀ e ∈ l, 1 ≤ e.id ∧ e.id ≤ (n : Int)) :
    dropF L s ≠ [] ∧ (dropF L s).length ≤ M + 2 ∧ (∀ l ∈ dropF L s, l.length ≤ M + 1) ∧ ∀ l ∈ dropF L s, ∀ e ∈ l, 1 ≤ e.id ∧ e.id ≤ (n : Int) := by
  unfold dropF
  split
  · refine ⟨by simp, by simp; omega, fun l hl => ?_, fun l hl e he => ?_⟩
    · rcases List.mem_append.1 hl with hl | hl
      · have := h3 l hl; omega
      · rw [List.mem_singleton.1 hl]; have := h3 _ (nowL_mem h1); have := withoutE_len (nowL L) s; omega
    · rcases List.mem_append.1 hl with hl | hl
      · exact h4 l hl e he
      · rw [List.mem_singleton.1 hl] at he
        exact h4 _ (nowL_mem h1) e (List.mem_filter.1 he).1
  · exact ⟨h1, by omega, fun l hl => by have := h3 l hl; omega, h4⟩
theorem moveF_ok {M : Nat} {L : List (List Ent)} (s d : ByteArray) (n : Nat) (h1 : L ≠ []) (h2 : L.length ≤ M + 1) (h3 : ∀ l ∈ L, l.length ≤ M) (h4 : ∀ l ∈ L, ∀ e ∈ l, 1 ≤ e.id ∧ e.id ≤ (n : Int)) :
    moveF L s d ≠ [] ∧ (moveF L s d).length ≤ M + 2 ∧ (∀ l ∈ moveF L s d, l.length ≤ M + 1) ∧ ∀ l ∈ moveF L s d, ∀ e ∈ l, 1 ≤ e.id ∧ e.id ≤ (n : Int) := by
  unfold moveF
  cases hf : findE (nowL L) s with
  | none => exact ⟨h1, Nat.le_succ_of_le h2, fun l hl => Nat.le_succ_of_le (h3 l hl), h4⟩
  | some i =>
    show (if s = d then _ else _) ≠ _ ∧ (List.length (if s = d then _ else _)) ≤ _ ∧ (∀ l ∈ (if s = d then _ else _), _) ∧ ∀ l ∈ (if s = d then _ else _), _
    split
    · exact ⟨h1, by omega, fun l hl => by have := h3 l hl; omega, h4⟩
    · obtain ⟨x, hx, hid, _⟩ := findE_mem hf
      refine ⟨by simp, by simp; omega, fun l hl => ?_, fun l hl e he => ?_⟩
      · rcases List.mem_append.1 hl with hl | hl
        · have := h3 l hl; omega
        · rw [List.mem_singleton.1 hl, withE_len]
          have := h3 _ (nowL_mem h1); have := withoutE_len (nowL L) s; have := withoutE_len (withoutE (nowL L) s) d; omega
      · rcases List.mem_append.1 hl with hl | hl
        · exact h4 l hl e he
        · rw [List.mem_singleton.1 hl] at he
          rcases (mem_withE _ _ _).1 he with rfl | he
          · have := h4 _ (nowL_mem h1) x hx
            rw [hid] at this
            exact this
          · exact h4 _ (nowL_mem h1) e (List.mem_filter.1 (List.mem_filter.1 he).1).1
theorem size_up {t : Tp} {M : Nat} (h : t.k.size ≤ 200 * M ∧ t.n.size ≤ 200 * M) : t.k.size ≤ 200 * (M + 1) ∧ t.n.size ≤ 200 * (M + 1) := by omega
theorem Dsk.create_ok {M : Nat} {D : Dsk} (h : D.ok M) (s : ByteArray) : Dsk.ok (M + 1) (D.create s).1 := by
  unfold Dsk.create
  split; · exact D.ok_up h
  split; · exact D.ok_up h
  split; · exact D.ok_up h
  split; · exact D.ok_up h
  refine D.then_ok h false fun F hF => ?_
  obtain ⟨g1, g2, ⟨g3, g4, g5⟩, g6, g7, g8, g9, g10⟩ := h
  obtain ⟨p1, p2, p3, p4⟩ := putF_ok (M := M) s (D.tp.length + 1 : Nat) D.tp.length g3 g4 g5 g7 (by omega)
  refine Dsk.ok_of ⟨g1, g2, ⟨g3, g4, g5⟩, g6, g7, g8, g9, g10⟩ (by simp; omega) p1 p2 p3 (fun t ht => ?_) (fun l hl e he => ?_) hF (by show 0 ≤ D.calls + 1; omega) (by show D.calls + 1 ≤ _; omega)
  · rcases List.mem_append.1 ht with ht | ht
    · exact size_up (g6 t ht)
    · rw [List.mem_singleton.1 ht]; exact ⟨Nat.zero_le _, Nat.zero_le _⟩
  · have := p4 l hl e he
    simp only [List.length_append, List.length_singleton]
    omega
theorem Dsk.set_ask {M : Nat} {D : Dsk} (h : D.ok M) (i : Int) {t : Tp} (ht : t.k.size ≤ 200 * (M + 1) ∧ t.n.size ≤ 200 * (M + 1)) {F : Fus} (hF : F.ok) : Dsk.ok (M + 1) (Dsk.set ⟨D.sec, D.tp, D.L, F, D.calls + 1⟩ i t) := by
  obtain ⟨g1, g2, ⟨g3, g4, g5⟩, g6, g7, g8, g9, g10⟩ := h
  refine Dsk.ok_of ⟨g1, g2, ⟨g3, g4, g5⟩, g6, g7, g8, g9, g10⟩ (by simp; omega) g3 (Nat.le_succ_of_le g4) (fun l hl => Nat.le_succ_of_le (g5 l hl)) (fun x hx => ?_) (fun l hl e he => by rw [List.length_set]; exact g7 l hl e he) hF (by show 0 ≤ D.calls + 1; omega) (by show D.calls + 1 ≤ _; omega)
  rcases List.mem_or_eq_of_mem_set hx with hx | rfl
  · exact size_up (g6 x hx)
  · exact ht
theorem Dsk.t_any {M : Nat} {D : Dsk} (h : D.ok M) (i : Int) : (D.t i).k.size ≤ 200 * M ∧ (D.t i).n.size ≤ 200 * M := getD_mem h.2.2.2.1 _
theorem Dsk.append_ok {M : Nat} {D : Dsk} (h : D.ok M) (s b : ByteArray) (hb : b.size ≤ 200) : Dsk.ok (M + 1) (D.append s b).1 := by
  unfold Dsk.append
  split; · exact D.ok_up h
  split; · exact D.ok_up h
  split; · exact D.ok_up h
  have := D.t_any h (D.id s)
  exact D.then_ok h false fun F hF => Dsk.set_ask h _ ⟨by simp only; omega, by simp only [ByteArray.size_append]; omega⟩ hF
theorem Dsk.cut_ok {M : Nat} {D : Dsk} (h : D.ok M) (s : ByteArray) (n : Int) : Dsk.ok (M + 1) (D.cut s n).1 := by
  unfold Dsk.cut
  split; · exact D.ok_up h
  split; · exact D.ok_up h
  split; · exact D.ok_up h
  have := D.t_any h (D.id s)
  exact D.then_ok h false fun F hF => Dsk.set_ask h _ ⟨by simp only; omega, by simp only [ByteArray.size_extract]; omega⟩ hF
theorem Dsk.sync_ok {M : Nat} {D : Dsk} (h : D.ok M) (s : ByteArray) : Dsk.ok (M + 1) (D.sync s).1 := by
  unfold Dsk.sync
  split; · exact D.ok_up h
  split; · exact D.ok_up h
  have := D.t_any h (D.id s)
  exact D.then_ok h true fun F hF => Dsk.set_ask h _ ⟨by simp only; omega, by simp only; omega⟩ hF
theorem Dsk.l_ask {M : Nat} {D : Dsk} (h : D.ok M) {L : List (List Ent)} (p1 : L ≠ []) (p2 : L.length ≤ M + 2) (p3 : ∀ l ∈ L, l.length ≤ M + 1) (p4 : ∀ l ∈ L, ∀ e ∈ l, 1 ≤ e.id ∧ e.id ≤ (D.tp.length : Int)) {F : Fus} (hF : F.ok) : Dsk.ok (M + 1) ⟨D.sec, D.tp, L, F, D.calls + 1⟩ := by
  obtain ⟨g1, g2, ⟨g3, g4, g5⟩, g6, g7, g8, g9, g10⟩ := h
  exact Dsk.ok_of ⟨g1, g2, ⟨g3, g4, g5⟩, g6, g7, g8, g9, g10⟩ (by omega) p1 p2 p3 (fun t ht => size_up (g6 t ht)) p4 hF (by omega) (by omega)
theorem Dsk.syncAll_ok {M : Nat} {D : Dsk} (h : D.ok M) : Dsk.ok (M + 1) (D.syncAll).1 := by
  unfold Dsk.syncAll
  split; · exact D.ok_up h
  have hm := nowL_mem h.2.2.1.1
  exact D.then_ok h true fun F hF => Dsk.l_ask h (by simp) (by simp) (fun l hl => by rw [List.mem_singleton.1 hl]; have := h.2.2.1.2.2 _ hm; show (nowL D.L).length ≤ _; omega) (fun l hl e he => by rw [List.mem_singleton.1 hl] at he; exact h.2.2.2.2.1 _ hm e he) hF
theorem Dsk.rename_ok {M : Nat} {D : Dsk} (h : D.ok M) (s d : ByteArray) : Dsk.ok (M + 1) (D.rename s d).1 := by
  unfold Dsk.rename
  split; · exact D.ok_up h
  split; · exact D.ok_up h
  split; · exact D.ok_up h
  obtain ⟨p1, p2, p3, p4⟩ := moveF_ok (M := M) s d D.tp.length h.2.2.1.1 h.2.2.1.2.1 h.2.2.1.2.2 h.2.2.2.2.1
  exact D.then_ok h false fun F hF => Dsk.l_ask h p1 p2 p3 p4 hF
theorem Dsk.remove_ok {M : Nat} {D : Dsk} (h : D.ok M) (s : ByteArray) : Dsk.ok (M + 1) (D.remove s).1 := by
  unfold Dsk.remove
  split; · exact D.ok_up h
  split; · exact D.ok_up h
  obtain ⟨p1, p2, p3, p4⟩ := dropF_ok (M := M) s D.tp.length h.2.2.1.1 h.2.2.1.2.1 h.2.2.1.2.2 h.2.2.2.2.1
  exact D.then_ok h false fun F hF => Dsk.l_ask h p1 p2 p3 p4 hF
theorem Dsk.fault_ok {M : Nat} {D : Dsk} (h : D.ok M) (k n : Int) (hn : n ≤ 9223372036854775807) : Dsk.ok (M + 1) (D.fault k n).1 := by
  unfold Dsk.fault
  split; · exact D.ok_up h
  split; · exact D.ok_up h
  have ha := D.fu.arm_ok k n h.2.2.2.2.2.1 hn
  obtain ⟨g1, g2, ⟨g3, g4, g5⟩, g6, g7, g8, g9, g10⟩ := h
  exact Dsk.ok_of ⟨g1, g2, ⟨g3, g4, g5⟩, g6, g7, g8, g9, g10⟩ (by omega) g3 (by omega) (fun l hl => by have := g5 l hl; omega) (fun t ht => size_up (g6 t ht)) g7 ha g9 (by omega)
theorem Dsk.crash_ok {M : Nat} {D : Dsk} (h : D.ok M) (ch : ByteArray) : Dsk.ok (M + 1) (D.crash ch).1 := by
  have := crash_okK (D.ok_up h) ch (firstB ch) (idsK D.L).length (Nat.le_refl _) (by omega)
  exact this
end Go.Proofs.YtfgecjlccngddaaGreat
