/-
  Joined: DkDev17.
-/
import Derived.Test.YtfgecjlccngddaaGreatJDkDevC
import Derived.Test.YtfgecjlccngddaaGreatJDiskRefD
namespace Go.Proofs.YtfgecjlccngddaaGreat
set_option linter.unusedSimpArgs false
set_option linter.unusedVariables false
open Go.RowKit
set_option linter.unusedVariables false

section
variable {w w' : World} {ad bm : Nat} {an af : Addr} {Sn Sf : List Nat} {ids : List Int} {blk : Int → Nat} {born : Nat} {D : Dsk}
set_option maxRecDepth 100000 in
set_option maxHeartbeats 800000 in
theorem dlist_off (h : DkM w ad bm an af Sn Sf ids blk born D) (ho : D.fu.off = true) :
    Calls Tryz.prog 24 #[.pointer (some ⟨ad, 0, none⟩)] w fun e w' => e = .returned (.tuple #[.slice none 0 0, .int .i64 14]) ∧ Below w.heap.size w w' := by
  have CR := Lib.hid (dready_off h ho)
  clear h
  go_enter Tryz.func24, Tryz.ntmps24
  go_wp2_with (go_at_call 37; refine CR.out.mono ?_; rintro e w1 ⟨rfl, hb1⟩)
  go_ret2
  exact ⟨rfl, hb1⟩
set_option maxRecDepth 100000 in
set_option maxHeartbeats 1600000 in
theorem dlist_on (h : DkM w ad bm an af Sn Sf ids blk born D) (hD : D.ok 199) (ho : D.fu.off = false) :
    Calls Tryz.prog 24 #[.pointer (some ⟨ad, 0, none⟩)] w fun e w' => (∃ a c, e = .returned (.tuple #[.slice a D.names.length c, .int .i64 0])) ∧ Below w.heap.size w w' := by
  obtain ⟨i0, hi, hz0, hz1, hz2⟩ := info_parts string_info
  have CR := Lib.hid (dready_on h ho); have H := Lib.hid h; have HD := Lib.hid hD
  have hlen : (nowL D.L).length ≤ 200 := Nat.le_trans (hD.2.2.1.2.2 _ (nowL_mem hD.2.2.1.1)) (by omega)
  have hnm : D.names = (nowL D.L).map (·.name) := rfl
  rw [hnm, List.length_map]
  obtain ⟨l, hl⟩ : ∃ l, nowL D.L = l := ⟨_, rfl⟩
  have HL := Lib.hid hl
  rw [hl] at hlen ⊢
  obtain ⟨N, hN⟩ : ∃ N, l.length = N := ⟨_, rfl⟩
  rw [hN] at hlen ⊢
  have HN := Lib.hid hN
  clear h hD hnm hl hN
  go_enter Tryz.func24, Tryz.ntmps24
  go_wp2_with fail
  refine CR.out.mono ?_
  rintro e w1 ⟨rfl, hb1⟩
  obtain ⟨d0, d1, d2, d3, d4, d5⟩ := (H.out.below hb1).cells
  have CN := fonow_any (H.out.below hb1).fold (Dsk.okL (D := D) HD.out)
  rw [HL.out] at CN
  have CN := Lib.hid CN; have HB1 := Lib.hid hb1
  clear hb1 d0 d1 d3 d4 d5
  go_wp2_with fail
  refine CN.out.mono ?_
  rintro e w2 ⟨a1, k1, rfl, h1, hb2⟩
  have hb3 := HB1.out.trans (hb2.mono HB1.out.size)
  rw [HN.out]
  have H1 := Lib.hid h1; have HB2 := Lib.hid hb3
  clear h1 hb2 hb3 d2
  go_wp2
  go_loopw [5, 19] (fun v i wr => ∃ k : Nat, k ≤ N ∧ i = .int .i64 k ∧ wr.ownsRow w2.heap.size 9 1 v k (strVs ((l.take k).map (·.name))) ∧ Below w2.heap.size w2 wr) (fun _ i _ => N - (intOf i).toNat)
  case atStart => exact ⟨0, Nat.zero_le _, rfl, World.ownsRow_nil _ _ _ _, Below.refl _ _⟩
  case round =>
    obtain ⟨k, hk, rfl, hown, hbel⟩ := hrel
    by_cases hlt : k < N
    · have hkl : k < l.length := by rw [HN.out]; exact hlt
      obtain ⟨adE, rfl, hab, q0, q1⟩ := (H1.out.below (N := w2.heap.size) (fun b hb => hb.2) hbel) k hkl
      have hs := names_take l k hkl
      obtain ⟨x, hx⟩ : ∃ x, l[k]'hkl = x := ⟨_, rfl⟩
      rw [hx] at q0 q1 hs
      obtain ⟨nm, id⟩ := x
      simp only at q0 q1 hs
      have b0 : (0 : Int) ≤ (k : Int) := by omega
      have b1 : (k : Int) < (N : Int) := by omega
      have hsz : w2.heap.size ≤ wr.heap.size := hbel.size
      have hnw : ∀ j u, ([.string nm] : List Value)[j]? = some u → ((wr.alloc (.cells #[.string nm, .int .i64 id] 112)).alloc (.cells #[.string nm] 9)).cell? ((⟨wr.heap.size + 1, 0, none⟩ : Addr).add j) = some u := by
        have := news_one (wr.alloc (.cells #[.string nm, .int .i64 id] 112)) (.string nm) 9
        simpa using this
      have HS := Lib.hid hs; have HBEL := Lib.hid hbel; have NW := Lib.hid hnw
      clear hx hs hbel hnw
      go_wp2_with (at_builtin; refine wpList_append_own _ rfl _ _ 57 rfl w2.heap.size 9 i0 _ 1 16 Tryz.underlying57 hi hz0 hz1 hz2 rfl (by decide) _ _ _ rfl ((hown.alloc _).alloc _) ⟨wr.heap.size + 1, 0, none⟩ 1 1 [.string nm] rfl rfl NW.out (by intro u hu; simp at hu; subst hu; rfl) (by unfold maxLen; omega) (by omega) (by simp; omega) ?_; intro v' w3 hown' hgrow _)
      have hb3 : Below w2.heap.size w2 w3 := ((HBEL.out.alloc hsz _).alloc (by simp; omega) _).grown hgrow (by simp; omega) (own_block hown)
      have ho3 : w3.ownsRow w2.heap.size 9 1 v' (k + 1) (strVs ((l.take (k + 1)).map (·.name))) := by
        rw [HS.out]
        show w3.ownsRow _ _ _ _ _ (strVs (_ ++ [nm]))
        unfold strVs
        rw [List.map_append]
        exact hown'
      have HO3 := Lib.hid ho3; have HB3 := Lib.hid hb3
      clear hown' hgrow hown ho3 hb3
      go_wp2
      go_roundw
      case rel => exact ⟨k + 1, by omega, by go_num, HO3.out, HB3.out⟩
      case measure => simp [intOf]; omega
    · obtain rfl : k = N := by omega
      rw [List.take_of_length_le (by rw [HN.out]; exact Nat.le_refl _)] at hown
      have hlm : (l.map (·.name)).length = k := by rw [List.length_map, HN.out]
      rw [← hlm] at hown
      obtain ⟨ad2, cp, rfl, hn⟩ := own_strs hown
      have HBEL := Lib.hid hbel; have HLM := Lib.hid hlm; clear hn hown hlm hbel
      go_wp2
      go_ret2
      exact ⟨⟨ad2, cp, by first | rfl | (rw [HLM.out]; rfl)⟩, HB2.out.trans (HBEL.out.mono HB2.out.size)⟩
set_option maxRecDepth 100000 in
set_option maxHeartbeats 3200000 in
theorem dfiles_b (h : DkM w ad bm an af Sn Sf ids blk born D) (hD : D.ok 199) (hsub : ∀ i ∈ idsK D.L, i ∈ ids) :
    Calls Tryz.prog 27 #[.pointer (some ⟨ad, 0, none⟩)] w fun e w' => ∃ a c, e = .returned (.slice a D.fils.length c) ∧ Fils w' (fun b => w.heap.size ≤ b ∧ b < w'.heap.size) a D.fils ∧ Below w.heap.size w w' := by
  obtain ⟨i0, hi, hz0, hz1, hz2⟩ := info_parts fil_info
  obtain ⟨c0, c1, c2, c3, c4, c5⟩ := h.cells
  have CM := Lib.hid (dmade_yes h); have H := Lib.hid h; have HD := Lib.hid hD
  have hlen : (nowL D.L).length ≤ 200 := Nat.le_trans (hD.2.2.1.2.2 _ (nowL_mem hD.2.2.1.1)) (by omega)
  have hnm : D.fils = (nowL D.L).map fun e => (⟨e.name, (D.t e.id).n⟩ : Fil) := rfl
  have CN := fonow_any h.fold (Dsk.okL (D := D) hD)
  have hin : ∀ e ∈ nowL D.L, e.id ∈ ids := fun e he => hsub _ ((mem_idsK _ _).2 ⟨_, nowL_mem hD.2.2.1.1, e, he, rfl⟩)
  rw [hnm]
  obtain ⟨l, hl⟩ : ∃ l, nowL D.L = l := ⟨_, rfl⟩
  rw [hl] at hlen CN hin ⊢
  obtain ⟨N, hN⟩ : ∃ N, l.length = N := ⟨_, rfl⟩
  rw [hN] at hlen
  have HN := Lib.hid hN; have CN := Lib.hid CN; have HIN := Lib.hid hin
  clear h hD hnm hl hN hin hsub c0 c1 c3 c4 c5
  go_enter Tryz.func27, Tryz.ntmps27
  go_wp2_with fail
  refine CM.out.mono ?_
  rintro e w' ⟨rfl, rfl⟩
  go_wp2_with fail
  refine CN.out.mono ?_
  rintro e w2 ⟨a1, k1, rfl, h1, hb2⟩
  rw [HN.out]
  have H1 := Lib.hid h1; have HB2 := Lib.hid hb2
  clear h1 hb2 c2
  go_wp2
  go_loopw [3, 15] (fun v i wr => ∃ k : Nat, k ≤ N ∧ i = .int .i64 k ∧ wr.ownsRow w2.heap.size 52 2 v k (Fil.flat ((l.take k).map fun e => (⟨e.name, (D.t e.id).n⟩ : Fil))) ∧ Below w2.heap.size w2 wr) (fun _ i _ => N - (intOf i).toNat)
  case atStart => exact ⟨0, Nat.zero_le _, rfl, World.ownsRow_nil _ _ _ _, Below.refl _ _⟩
  case round =>
    obtain ⟨k, hk, rfl, hown, hbel⟩ := hrel
    by_cases hlt : k < N
    · have hkl : k < l.length := by rw [HN.out]; exact hlt
      obtain ⟨adE, rfl, hab, q0, q1⟩ := (H1.out.below (N := w2.heap.size) (fun b hb => hb.2) hbel) k hkl
      have hs := fils_take D l k hkl
      have hmem := HIN.out _ (List.getElem_mem hkl)
      obtain ⟨x, hx⟩ : ∃ x, l[k]'hkl = x := ⟨_, rfl⟩
      rw [hx] at q0 q1 hs hmem
      obtain ⟨nm, id⟩ := x
      simp only at q0 q1 hs hmem
      obtain ⟨ti, hti⟩ : ∃ t, D.t id = t := ⟨_, rfl⟩
      rw [hti] at hs
      obtain ⟨tk, tn⟩ := ti
      simp only at hs
      have b0 : (0 : Int) ≤ (k : Int) := by omega
      have b1 : (k : Int) < (N : Int) := by omega
      have hsz : w2.heap.size ≤ wr.heap.size := hbel.size
      obtain ⟨wx, hwx⟩ : ∃ wx, wx = wr.alloc (.cells #[.string nm, .int .i64 id] 112) := ⟨_, rfl⟩
      have hbx : Below wr.heap.size wr wx := by rw [hwx]; exact (Below.refl _ _).alloc (Nat.le_refl _) _
      have kx : Blk wx wr.heap.size #[.string nm, .int .i64 id] 112 := by rw [hwx]; exact Blk.new _ _ _
      have hbw := HB2.out.trans (hbel.mono HB2.out.size)
      have hdx := (H.out.below hbw).below hbx
      have tp := hdx.taps id hmem
      rw [hti] at tp
      have zx : wx.heap.size = wr.heap.size + 1 := by rw [hwx]; simp
      have ho2 : ((wx.alloc (.cells #[.string nm, .string tn] 52)).drew.drew).ownsRow w2.heap.size 52 2 u3 k (Fil.flat ((l.take k).map fun e => (⟨e.name, (D.t e.id).n⟩ : Fil))) := by rw [hwx]; exact (hown.alloc _).alloc _
      have hnw : ∀ j u, ([.string nm, .string tn] : List Value)[j]? = some u → ((wx.alloc (.cells #[.string nm, .string tn] 52)).drew.drew).cell? ((⟨wx.heap.size, 0, none⟩ : Addr).add j) = some u := news_fil wx nm tn _
      have hbel2 : Below w2.heap.size w2 ((wx.alloc (.cells #[.string nm, .string tn] 52)).drew.drew) := ((hbel.trans (hbx.mono hsz)).alloc (by omega) _).drew.drew
      have g0 := (show Blk wx.drew wr.heap.size #[.string nm, .int .i64 id] 112 from kx).cell 0 _ rfl
      have g1 := (show Blk wx.drew wr.heap.size #[.string nm, .int .i64 id] 112 from kx).cell 1 _ rfl
      have g2 := (show Blk wx.drew.drew wr.heap.size #[.string nm, .int .i64 id] 112 from kx).cell 0 _ rfl
      have g3 := hdx.drew.cells.2.1
      have g4 := hdx.drew.map.look hmem
      have HS := Lib.hid hs; have HO := Lib.hid hown; have HO2 := Lib.hid ho2; have NW := Lib.hid hnw; have TP := Lib.hid tp; have HWX := Lib.hid hwx; have HBL2 := Lib.hid hbel2; have ZX := Lib.hid zx
      clear hx hs hown ho2 hnw hbx kx hbw hdx tp hbel2 zx hmem hti hab hbel
      go_upto_region 7 with fail
      rw [← HWX.out]
      clear hwx q0 q1
      go_region_law (first
        | (refine step_append_lies _ rfl (.tmp 19) (.tmp 31) 50 rfl w2.heap.size 52 i0 _ 2 32 Tryz.underlying50 hi hz0 hz1 hz2 rfl (by decide) u3 k _ (by simp [Act.eval]) HO2.out ⟨wx.heap.size, 0, none⟩ 1 1 [.string nm, .string tn] (by simp [Act.eval]) rfl NW.out (one_fil _ _) (by omega) (by unfold maxLen; omega) (by omega) (by have h1 := ZX.out; show w2.heap.size ≤ (wx.alloc _).heap.size; simp; omega) _ rfl ?_; intro g cap w3 hown' hgrow _ _)
        | (go_simp; go_at_call 79; refine (tnow_v (views_yes (w := wx.drew) TP.out)).mono ?_; rintro e w' ⟨rfl, rfl⟩))
      all_goals
        have hb3 : Below w2.heap.size w2 w3 := HBL2.out.grown hgrow (by have h1 := ZX.out; show w2.heap.size ≤ (wx.alloc _).heap.size; simp; omega) (own_block HO.out)
        have ho3 : w3.ownsRow w2.heap.size 52 2 (.slice (some ⟨g, 0, none⟩) (k + 1) cap) (k + 1) (Fil.flat ((l.take (k + 1)).map fun e => (⟨e.name, (D.t e.id).n⟩ : Fil))) := by
          rw [HS.out, Fil.flat_app]
          exact hown'
        have HO3 := Lib.hid ho3; have HB3 := Lib.hid hb3
        clear hown' hgrow ho3 hb3
        go_simp
        go_wp2
        go_roundw
        case rel => exact ⟨k + 1, by omega, by go_num, HO3.out, HB3.out⟩
        case measure => simp [intOf]; omega
    · obtain rfl : k = N := by omega
      rw [List.take_of_length_le (by rw [HN.out]; exact Nat.le_refl _)] at hown
      have hlm : (l.map fun e => (⟨e.name, (D.t e.id).n⟩ : Fil)).length = k := by rw [List.length_map, HN.out]
      rw [← hlm] at hown
      obtain ⟨ad2, cp, rfl, hn⟩ := own_fils hown
      have HNN := Lib.hid (hn.more (B' := fun b => w.heap.size ≤ b ∧ b < _) (fun b hb => ⟨Nat.le_trans HB2.out.size hb.1, hb.2⟩)); have HBEL := Lib.hid hbel; clear hn hown hlm hbel
      go_wp2
      go_ret
      exact ⟨ad2, cp, rfl, HNN.out, HB2.out.trans (HBEL.out.mono HB2.out.size)⟩
end
theorem dkfiles_any {w : World} {S : List Nat} {a : Addr} {D : Dsk} (h : IsDk w S a D) (hD : D.ok 199) :
    Calls Tryz.prog 27 #[.pointer (some a)] w fun e w' => ∃ ad c, e = .returned (.slice ad D.fils.length c) ∧ Fils w' (fun b => w.heap.size ≤ b ∧ b < w'.heap.size) ad D.fils ∧ Below w.heap.size w w' := by
  obtain ⟨ad, bm, an, af, Sn, Sf, blk, rfl, rfl, k⟩ := h.out
  exact dfiles_b k hD fun i hi => hi
theorem dklist_any {w : World} {S : List Nat} {a : Addr} {D : Dsk} (h : IsDk w S a D) (hD : D.ok 199) :
    Calls Tryz.prog 24 #[.pointer (some a)] w fun e w' => (∃ ad n c k, e = .returned (.tuple #[.slice ad n c, .int .i64 k]) ∧ (D.fu.off = true → k = 14) ∧ (D.fu.off = false → k = 0 ∧ n = D.names.length)) ∧ Below w.heap.size w w' := by
  obtain ⟨ad, bm, an, af, Sn, Sf, blk, rfl, rfl, k⟩ := h.out
  cases ho : D.fu.off with
  | true =>
    refine (dlist_off k ho).mono ?_
    rintro e w' ⟨rfl, hb⟩
    exact ⟨⟨none, 0, 0, 14, rfl, ⟨fun _ => rfl, fun g => absurd g (by decide)⟩⟩, hb⟩
  | false =>
    refine (dlist_on k hD ho).mono ?_
    rintro e w' ⟨⟨a2, c2, rfl⟩, hb⟩
    exact ⟨⟨a2, _, c2, 0, rfl, ⟨fun g => absurd g (by decide), fun _ => ⟨rfl, rfl⟩⟩⟩, hb⟩
end Go.Proofs.YtfgecjlccngddaaGreat
