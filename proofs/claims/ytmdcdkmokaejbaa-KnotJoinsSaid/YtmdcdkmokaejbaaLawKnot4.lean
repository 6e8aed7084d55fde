/-
  Layer 16's law KnotLow.
-/
import Derived.Test.YtmdcdkmokaejbaaLawKnot2
namespace Go.Proofs.Ytmdcdkmokaejbaa
open Go.RowKit
set_option linter.unusedVariables false
set_option linter.unusedSimpArgs false

theorem node_kids {w : World} {B : Nat → Prop} {h b : Nat} {K : List Kid} {g c : Nat} (hn : KnotN w B h b K g c) :
    Calls Try.prog 22 #[pv b] w fun e w' => ∃ g' c', e = .returned (.slice (some ⟨g', 0, none⟩) K.length c') ∧ K.length ≤ c' ∧ w.heap.size ≤ g' ∧ PRow w' g' 0 (ptrs K) ∧ Below w.heap.size w w' := by
  refine (kids_row hn.blk (ptrs_len K) (by have := hn.eight; omega) hn.row (one_ptrs K)).mono ?_
  rintro e w' ⟨g', c', he, h1, h2, h3, h4⟩
  rw [ptrs_len] at he h1
  exact ⟨g', c', he, h1, h2, h3, h4⟩
/-- A level of the tree: knots of one height, in order. -/
structure LevI (w2 : World) (M : List ByteArray) (h : Nat) (K : List Kid) (g : Nat) (wr : World) : Prop where
  row : PRow wr g 0 (ptrs K)
  kids : ∀ k ∈ K, KnotW wr (· < w2.heap.size) h k.b k.L
  fl : flat K = M
  pos : 0 < K.length
  bel : Below w2.heap.size w2 wr
theorem lev_len {w : World} {B : Nat → Prop} {h : Nat} {K : List Kid} (hk : ∀ k ∈ K, KnotW w B h k.b k.L) : K.length ≤ (flat K).length := by
  have := (flat_many (P := fun _ => True) (m := 1) fun k hm => ⟨fun _ _ => trivial, (hk k hm).many⟩).2
  omega
theorem lev_zero {w : World} {B : Nat → Prop} {K : List Kid} (hk : ∀ k ∈ K, KnotW w B 0 k.b k.L) : (flat K).length = K.length := by
  induction K with
  | nil => rfl
  | cons k K ih =>
    obtain ⟨_, s, e, _⟩ := hk k (by simp)
    have e2 : flat (k :: K) = k.L ++ flat K := by simp [flat]
    rw [e2, List.length_append, ih fun x hx => hk x (by simp [hx]), e, List.length_cons]
    simp; omega
/-- The level below, under way. -/
structure BlwI (w2 wo : World) (h : Nat) (K : List Kid) (j : Nat) (v : Value) (K' : List Kid) (wr : World) : Prop where
  own : wr.ownsRow wo.heap.size 26 1 v K'.length (ptrs K')
  kids : ∀ k ∈ K', KnotW wr (· < w2.heap.size) h k.b k.L
  fl : flat K' = flat (K.take j)
  bel : Below wo.heap.size wo wr
theorem news_row {w : World} {g : Nat} {l : List Value} (h : PRow w g 0 l) : ∀ j u, l[j]? = some u → w.cell? ((⟨g, 0, none⟩ : Addr).add j) = some u := by
  intro j u hj
  obtain ⟨hj1, rfl⟩ := List.getElem?_eq_some_iff.1 hj
  rw [show (⟨g, 0, none⟩ : Addr).add j = ⟨g, 0 + j, none⟩ by unfold Addr.add; split <;> simp_all]
  exact h.2 j hj1
theorem BlwI.step {w2 wo : World} {h : Nat} {K : List Kid} {j : Nat} {v v' : Value} {K' K2 : List Kid} {wr w3 w4 : World} (I : BlwI w2 wo h K j v K' wr) (h2 : w2.heap.size ≤ wo.heap.size) (hj : j < K.length) (hfl : K[j].L = flat K2)
    (hk2 : ∀ k ∈ K2, KnotW wr (· < w2.heap.size) h k.b k.L) (hb3 : Below wr.heap.size wr w3) (ho : w4.ownsRow wo.heap.size 26 1 v' (K'.length + K2.length) (ptrs K' ++ ptrs K2)) (hg : w3.grownBy w4 v.ownBlock) :
    BlwI w2 wo h K (j + 1) v' (K' ++ K2) w4 := by
  have hsz := I.bel.size
  have hs3 := hb3.size
  have q := own_on I.own hb3
  have hbel : Below wo.heap.size wr w4 := (hb3.mono hsz).grown hg (by omega) (own_block q)
  refine ⟨?_, fun k hk => ?_, ?_, I.bel.trans hbel⟩
  · rw [List.length_append, show ptrs (K' ++ K2) = ptrs K' ++ ptrs K2 by simp [ptrs]]; exact ho
  · rcases List.mem_append.1 hk with g | g
    · exact (I.kids k g).below hbel fun i hi => Nat.lt_of_lt_of_le hi h2
    · exact (hk2 k g).below hbel fun i hi => Nat.lt_of_lt_of_le hi h2
  · rw [flat_app, I.fl, flat_take K j hj, hfl]

set_option maxRecDepth 100000 in
set_option maxHeartbeats 1600000 in
theorem knotLow_walk (a : Option Addr) (l : List ByteArray) (c : Nat) (w : World) (hr : Strs w (· < w.heap.size) a l) (hf : ∀ s ∈ l, s.size ≤ maxLen) :
    Calls Try.prog 5 #[.slice a l.length c] w fun e w' => e = .returned (.bool true) ∧ Below w.heap.size w w' := by
  obtain ⟨i0, hi, hz0, hz1, hz2⟩ := info_parts ptr_info16
  have cl := leaves_any a l c w hr hf
  have hfit := chunksK_fits l 200
  have hlen := chunksK_len l 200
  obtain ⟨n0, hn0⟩ : ∃ n, l.length = n := ⟨_, rfl⟩
  obtain ⟨M, hM⟩ : ∃ M, chunksK l 200 = M := ⟨_, rfl⟩
  rw [hn0] at cl ⊢
  rw [hM] at cl hfit hlen
  have CL := Lib.hid cl; have HF := Lib.hid hfit
  clear cl hfit hr hf hn0 hM
  go_enter Try.func5, Try.ntmps5
  go_wp2_with fail
  refine CL.out.mono ?_; rintro e w1 ⟨v1, v2, K, rfl, hI⟩
  have o2 := hI.o2
  obtain ⟨a2, c2, rfl, hst⟩ := own_strs o2
  have HB1 := Lib.hid hI.bel
  have cbits := rbits_any M.length (by omega)
  obtain ⟨n, hn⟩ : ∃ n, M.length = n := ⟨_, rfl⟩
  rcases Nat.eq_zero_or_pos M.length with h0 | h0
  · obtain rfl : M = [] := List.eq_nil_of_length_eq_zero h0
    obtain ⟨a1, c1, rfl⟩ : ∃ a1 c1, v1 = .slice a1 0 c1 := by
      rcases hI.none rfl with rfl | ⟨g, c, rfl⟩
      · exact ⟨_, _, rfl⟩
      · exact ⟨_, _, rfl⟩
    rw [show ([] : List ByteArray).length = 0 from rfl, bitsN_zero, show ((0 : Nat) : Int) = 0 from rfl] at cbits
    have CB := Lib.hid cbits
    clear hI o2 hst hn hlen h0 cbits
    rw [show ([] : List ByteArray).length = 0 from rfl]
    go_wp2_with fail
    refine (up_empty _).mono ?_; rintro e w2 ⟨rfl, hb2⟩
    have HB2 := Lib.hid hb2
    clear hb2
    go_wp2_with fail
    refine (height_nil _).mono ?_; rintro e w3 ⟨rfl, hb3⟩
    have HB3 := Lib.hid ((HB2.out.alloc HB2.out.size (.cells #[.pointer none] 26)).trans (hb3.mono (by have := HB2.out.size; simp; omega)))
    clear hb3
    go_wp2
    go_loopw [7] (fun i wr => i = .int .i64 (-1) ∧ wr = w3) (fun i _ => 0)
    case atStart => exact ⟨rfl, rfl⟩
    case round =>
      obtain ⟨rfl, rfl⟩ := hrel
      go_wp2_with fail
      refine (height_nil _).mono ?_; rintro e w4 ⟨rfl, hb4⟩
      have HB4 := Lib.hid (HB3.out.trans (hb4.mono HB3.out.size))
      clear hb4
      go_wp2_with fail
      refine (CB.out _).mono ?_; rintro e w5 ⟨rfl, rfl⟩
      go_wp2_with fail
      refine (onward HB4.out (lives16_any _)).mono ?_; rintro e w6 ⟨rfl, hb6⟩
      have HB6 := Lib.hid hb6
      clear hb6
      go_wp2
      go_ret
      exact ⟨by simp, HB1.out.trans (HB6.out.mono HB1.out.size)⟩
  · obtain ⟨g, cg, rfl, hcg, hJ⟩ := hI.join hlen HF.out h0
    have cu := up_yes (c := cg) hI.bel.size hJ h0 (by omega) hcg
    rw [hI.fl] at cu
    rw [hn] at cu h0 hlen cbits ⊢
    have CU := Lib.hid cu; have HN := Lib.hid hn; have CB := Lib.hid cbits
    clear cu hI hJ hst hn o2 cbits
    go_wp2_with fail
    refine CU.out.mono ?_; rintro e w2 ⟨t, rfl, hk, hb2⟩
    have hk := hk.weak (B' := (· < w2.heap.size)) fun i hi => hi.2
    have hhi := tree_high hk (by rw [HN.out]; exact hlen)
    have hbits := bitsN_ge (upH n 0) n (by have := hk.chunks.2; rw [HN.out] at this; exact this)
    obtain ⟨H, hH⟩ : ∃ H, upH n 0 = H := ⟨_, rfl⟩
    rw [hH] at hk hhi hbits
    have th := fun W (hW : Below w2.heap.size w2 W) => ((KnotH.on hk hW).hgt (by omega)).call
    have hbel : Below w2.heap.size w2 (w2.alloc (.cells #[pv t] 26)) := (Below.refl _ _).alloc (Nat.le_refl _) _
    have hlev : LevI w2 M H [⟨t, M⟩] w2.heap.size (w2.alloc (.cells #[pv t] 26)) :=
      ⟨one_row w2 _, fun k hk2 => by rw [List.mem_singleton.1 hk2]; exact hk.below hbel fun i hi => hi, flat_one _, by show 0 < 1; decide, hbel⟩
    have TH := Lib.hid th; have HB2 := Lib.hid hb2; have HK := Lib.hid hk; have HBB := Lib.hid hbel; have HLV := Lib.hid hlev
    clear th hb2 hk hbel hlev hH
    go_wp2_with fail
    refine (TH.out _ HBB.out).mono ?_; rintro e w3 ⟨rfl, hb3⟩
    have HB3 := Lib.hid hb3
    clear hb3
    go_wp2
    go_loopw [6, 7] (fun v i wr => ∃ (h : Nat) (K : List Kid) (g c : Nat), h ≤ H ∧ i = .int .i64 h ∧ v = .slice (some ⟨g, 0, none⟩) K.length c ∧ w2.heap.size ≤ g ∧ LevI w2 M h K g wr) (fun _ i _ => (intOf i).toNat)
    case atStart => exact ⟨H, [⟨t, M⟩], _, 1, Nat.le_refl _, rfl, rfl, Nat.le_refl _, HLV.out.row.on HB3.out, fun k hk => (HLV.out.kids k hk).below HB3.out fun i hi => Nat.lt_of_lt_of_le hi (by simp), HLV.out.fl, HLV.out.pos, HLV.out.bel.trans (HB3.out.mono (by simp))⟩
    case round =>
      obtain ⟨h, K1, g1, c1, hhH, rfl, rfl, hg1, hV⟩ := hrel
      have hkl := lev_len hV.kids
      rw [hV.fl, HN.out] at hkl
      obtain ⟨n1, hn1⟩ : ∃ n1, K1.length = n1 := ⟨_, rfl⟩
      have HN1 := Lib.hid hn1
      rw [hn1] at hkl
      cases h with
      | zero =>
        have hz := lev_zero hV.kids
        rw [hV.fl, HN.out, hn1] at hz
        subst hz
        have HBV := Lib.hid hV.bel
        clear hV
        rw [hn1, show ((0 : Nat) : Int) = 0 from rfl]
        have t1 : ((n : Int) == 0) = false := by simpa using (show ¬ (n : Int) = 0 by omega)
        have t2 : (n == 0) = false := by simpa using (show ¬ n = 0 by omega)
        have t3 : decide ((H : Int) ≤ (bitsN n : Int)) = true := decide_eq_true (by omega)
        have t4 : decide (H ≤ bitsN n) = true := decide_eq_true hbits
        clear hn1
        go_wp2_with fail
        refine (TH.out _ HBV.out).mono ?_; rintro e w4 ⟨rfl, hb4⟩
        have HB4 := Lib.hid (HBV.out.trans (hb4.mono HBV.out.size))
        clear hb4
        go_wp2_with fail
        refine (CB.out _).mono ?_; rintro e w5 ⟨rfl, rfl⟩
        go_wp2_with fail
        refine (onward HB4.out (lives16_any _)).mono ?_; rintro e w6 ⟨rfl, hb6⟩
        have HB6 := Lib.hid hb6
        clear hb6
        go_wp2
        go_ret
        exact ⟨by simp, HB1.out.trans ((HB2.out.trans (HB6.out.mono HB2.out.size)).mono HB1.out.size)⟩
      | succ h =>
        have hpos := hV.pos
        rw [hn1] at hpos
        have HV := Lib.hid hV; have HG1 := Lib.hid hg1
        have t1 : (0 : Int) < (h : Int) + 1 := by omega
        have t2 : decide ((20 : Int) < (h : Int) + 1) = false := decide_eq_false (by omega)
        rw [hn1, show ((h + 1 : Nat) : Int) = (h : Int) + 1 from rfl]
        clear hV hn1 hg1
        obtain ⟨wo, rfl⟩ : ∃ wo : World, wo = wr := ⟨_, rfl⟩
        go_wp2
        go_loopw [8, 9] (fun v i wx => ∃ (j : Nat) (u : Value) (K' : List Kid), j ≤ n1 ∧ i = .int .i64 j ∧ u = v ∧ BlwI w2 wo h K1 j u K' wx) (fun _ i _ => n1 - (intOf i).toNat)
        case atStart => exact ⟨0, _, [], Nat.zero_le _, rfl, rfl, World.ownsRow_nil _ _ _ _, fun k hk => absurd hk (by simp), rfl, Below.refl _ _⟩
        case round =>
          obtain ⟨j, v, K', hjn, rfl, rfl, hW⟩ := hrel
          by_cases hlt : j < n1
          · have hjl : j < K1.length := by rw [HN1.out]; exact hlt
            have q0 := (hW.bel.cell (p := ⟨g1, 0 + j, none⟩) HV.out.row.1).trans (HV.out.row.2 j (by rw [ptrs_len]; exact hjl))
            rw [show (ptrs K1)[j]'(by rw [ptrs_len]; exact hjl) = pv K1[j].b by simp [ptrs], Nat.zero_add] at q0
            have hkid := (HV.out.kids K1[j] (List.getElem_mem hjl)).below hW.bel fun i hi => Nat.lt_of_lt_of_le hi HV.out.bel.size
            obtain ⟨K2, g2, c2', hn2, hf2, hg2⟩ := hkid.node
            have ck := node_kids hn2
            have hst := fun v' w3 w4 => @BlwI.step w2 wo h K1 j v v' K' K2 _ w3 w4 hW HV.out.bel.size hjl hf2 hn2.kids
            have hk'l := lev_len hW.kids
            have hfl := flat_take_len K1 j
            rw [hW.fl] at hk'l
            rw [HV.out.fl, HN.out] at hfl
            have h2 := hn2.two
            have h8 := hn2.eight
            have hown := hW.own
            obtain ⟨m, hm⟩ : ∃ m, K2.length = m := ⟨_, rfl⟩
            have hpl := ptrs_len K2
            rw [hm] at ck hst h2 h8 hpl
            obtain ⟨q, hq⟩ : ∃ q, K'.length = q := ⟨_, rfl⟩
            rw [hq] at hst hk'l hown
            obtain ⟨bj, hbj⟩ : ∃ b, K1[j].b = b := ⟨_, rfl⟩
            rw [hbj] at q0 ck
            have hsz : wo.heap.size ≤ wr.heap.size := hW.bel.size
            have CK := Lib.hid ck; have HST := Lib.hid hst; have HW := Lib.hid hW; have HPL := Lib.hid hpl
            have o1 : decide ((m : Int) < 2) = false := decide_eq_false (by omega)
            have o2 : decide (m < 2) = false := decide_eq_false (by omega)
            have o3 : decide ((8 : Int) < (m : Int)) = false := decide_eq_false (by omega)
            have o4 : decide (8 < m) = false := decide_eq_false (by omega)
            have o5 : (j : Int) < (n1 : Int) := by omega
            have o6 : (0 : Int) ≤ (j : Int) := by omega
            clear ck hst hW hkid hn2 hf2 hg2 hm hq hbj hpl hjl
            go_wp2_with fail
            refine CK.out.mono ?_; rintro e w4 ⟨g4, c4, rfl, hc4, hg4, hr4, hb4⟩
            have hown4 := own_on hown hb4
            have hs4 : wo.heap.size ≤ w4.heap.size := Nat.le_trans hsz hb4.size
            have HB4 := Lib.hid hb4; have HR4 := Lib.hid hr4
            clear hb4 hown hr4 hg4
            go_wp2_with (at_builtin; refine wpList_append_own _ rfl _ _ 23 rfl wo.heap.size 26 i0 (.pointer none) 1 8 Try.underlying23 hi hz0 hz1 hz2 rfl (by decide) _ _ _ rfl hown4 ⟨g4, 0, none⟩ m c4 (ptrs K2) rfl (by rw [Nat.mul_one]; exact HPL.out) (news_row HR4.out) (one_ptrs K2) (by unfold maxLen; omega) (by omega) hs4 ?_; intro v' w5 hown' hgrow _)
            have HNX := Lib.hid (HST.out v' w4 w5 HB4.out hown' hgrow)
            clear hown' hgrow hown4
            go_wp2
            go_roundw
            case rel => exact ⟨j + 1, _, _, by omega, by go_num, rfl, HNX.out⟩
            case measure => simp [intOf]; omega
          · obtain rfl : j = n1 := by omega
            have hfl := hW.fl
            rw [List.take_of_length_le (by rw [HN1.out]; exact Nat.le_refl _), HV.out.fl] at hfl
            have hkl2 := lev_len hW.kids
            rw [hfl, HN.out] at hkl2
            have hp2 : 0 < K'.length := by
              rcases Nat.eq_zero_or_pos K'.length with q | q
              · have e : K' = [] := List.eq_nil_of_length_eq_zero q
                rw [e] at hfl
                have := HN.out
                rw [← hfl] at this
                simp [flat] at this
                omega
              · exact q
            obtain ⟨g5, c5, rfl, hc5, hb5, hr5⟩ := own_row hW.own hp2
            have HNX := Lib.hid (show LevI w2 M h K' g5 wr from ⟨hr5, hW.kids, hfl, hp2, HV.out.bel.trans (hW.bel.mono HV.out.bel.size)⟩)
            have HG5 := Lib.hid (Nat.le_trans HV.out.bel.size hb5)
            obtain ⟨m, hm⟩ : ∃ m, K'.length = m := ⟨_, rfl⟩
            have HM := Lib.hid hm
            rw [hm] at hkl2 ⊢
            have o3 : decide ((1000 : Int) < (m : Int)) = false := decide_eq_false (by omega)
            have o4 : decide (1000 < m) = false := decide_eq_false (by omega)
            have o5 : decide (20 < h + 1) = false := decide_eq_false (by omega)
            clear hW hfl hp2 hc5 hb5 hr5 hm
            go_wp2
            go_roundw
            case rel => exact ⟨h, K', g5, c5, by omega, by go_num, by rw [HM.out], HG5.out, HNX.out⟩
            case measure => simp [intOf]
end Go.Proofs.Ytmdcdkmokaejbaa
