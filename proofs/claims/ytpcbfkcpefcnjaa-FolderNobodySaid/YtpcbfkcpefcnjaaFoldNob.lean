/-
  Contracts of the program's folder (layer 9) that no call made: it has no names, and takes none.
-/
import Derived.Test.YtpcbfkcpefcnjaaFoldDev
namespace Go.Proofs.Ytpcbfkcpefcnjaa
open Go.RowKit
set_option linter.unusedVariables false

/-- What no call made. -/
def NobF (w : World) (v : Value) : Prop := v = .pointer none ∨ ∃ b, v = .pointer (some ⟨b, 0, none⟩) ∧ w.heap[b]? = some (.cells #[.map none, .map none, .slice none 0 0] 51 (0, 0))
theorem NobF.below {w w' : World} {v : Value} (h : NobF w v) (hb : Below w.heap.size w w') : NobF w' v := by
  rcases h with rfl | ⟨b, rfl, h⟩
  · exact .inl rfl
  · exact .inr ⟨b, rfl, (hb.block b (lt_of_block h)).trans h⟩
set_option maxRecDepth 100000 in
set_option maxHeartbeats 400000 in
theorem fomade_nob {w : World} {v : Value} (h : NobF w v) : Calls Try.prog 24 #[v] w fun e w' => e = .returned (.bool false) ∧ w = w' := by
  have hq := fun w => run_neq_map_nil (P := Try.prog) w 48 _ _ none Try.underlying48
  rcases h with rfl | ⟨b, rfl, h⟩
  · go_enter Try.func24, Try.ntmps24
    go_wp2
    go_ret
    exact ⟨rfl, rfl⟩
  · obtain ⟨c0, c1, c2, f0, f1, f2⟩ := blk3 h
    clear h
    go_enter Try.func24, Try.ntmps24
    go_wp2
    go_ret
    exact ⟨rfl, rfl⟩
/-- What own hands out: a folder. -/
def OwnF (w : World) (cs : List Chg) (l : List Ent) (e : Ending) (w' : World) : Prop := ∃ a bn bk v, e = .returned (.pointer (some ⟨a, 0, none⟩)) ∧ Fold w' a bn bk v cs l ∧ Below w.heap.size w w' ∧ w.heap.size ≤ a ∧ w.heap.size ≤ bk
set_option maxRecDepth 100000 in
set_option maxHeartbeats 400000 in
theorem foown_nob {w : World} {v : Value} (h : NobF w v) : Calls Try.prog 29 #[v] w (OwnF w [] []) := by
  have CM := Lib.hid (fomade_nob h)
  have CN := Lib.hid (fonew_f w)
  clear h
  go_enter Try.func29, Try.ntmps29
  go_wp2_with (first
    | (go_at_call 24; refine CM.out.mono ?_; rintro e w' ⟨rfl, rfl⟩)
    | (go_at_call 7; refine CN.out.mono ?_; rintro e w' ⟨rfl, hF, hb⟩))
  go_ret
  exact ⟨_, _, _, _, rfl, hF, hb, by omega, by omega⟩
set_option maxRecDepth 100000 in
set_option maxHeartbeats 400000 in
theorem fofind_g {w : World} {p : Value} {cs : List Chg} {l : List Ent} (h : Calls Try.prog 29 #[p] w (OwnF w cs l)) {s : ByteArray} (hs : s.size ≤ maxLen) :
    Calls Try.prog 14 #[p, .string s] w fun e w' => e = .returned (.tuple #[.int .i64 ((findE (allE l cs) s).getD 0), .bool (findE (allE l cs) s).isSome]) ∧ Below w.heap.size w w' := by
  have CO := Lib.hid h
  clear h
  obtain ⟨m, hm⟩ : ∃ m, (findE (allE l cs) s).getD 0 = m := ⟨_, rfl⟩
  obtain ⟨q, hq⟩ : ∃ q, (findE (allE l cs) s).isSome = q := ⟨_, rfl⟩
  rw [hm, hq]
  have HM := Lib.hid hm; have HQ := Lib.hid hq
  clear hm hq
  go_enter Try.func14, Try.ntmps14
  go_wp2_with fail
  refine CO.out.mono ?_
  rintro e w0 ⟨a, bn, bk, v, rfl, h, hb, ha, hk⟩
  obtain ⟨c0, c1, c2, f0, f1, f2⟩ := blk3 h.blk
  have hlook := h.now.look_ok hs
  rw [HM.out, HQ.out] at hlook
  have HB := Lib.hid hb
  clear h hb
  go_wp2
  go_ret2
  exact ⟨rfl, HB.out⟩
theorem fofind_nob {w : World} {v : Value} (h : NobF w v) {s : ByteArray} (hs : s.size ≤ maxLen) :
    Calls Try.prog 14 #[v, .string s] w fun e w' => e = .returned (.tuple #[.int .i64 0, .bool false]) ∧ Below w.heap.size w w' := fofind_g (foown_nob h) hs
set_option maxRecDepth 100000 in
set_option maxHeartbeats 400000 in
theorem fohas_nob {w : World} {v : Value} (h : NobF w v) {s : ByteArray} (hs : s.size ≤ maxLen) :
    Calls Try.prog 27 #[v, .string s] w fun e w' => e = .returned (.bool false) ∧ Below w.heap.size w w' := by
  have C := Lib.hid (fofind_nob h hs)
  clear h
  go_enter Try.func27, Try.ntmps27
  go_wp2_with (go_at_call 14; refine C.out.mono ?_; rintro e w1 ⟨rfl, hb⟩)
  go_ret
  exact ⟨rfl, hb⟩
set_option maxRecDepth 100000 in
set_option maxHeartbeats 400000 in
theorem foput_nob {w : World} {v : Value} (h : NobF w v) (s : ByteArray) (n : Int) :
    Calls Try.prog 10 #[v, .string s, .int .i64 n] w fun e w' => e = .returned (.bool false) ∧ Below w.heap.size w w' := by
  have CM := Lib.hid (fomade_nob h)
  clear h
  go_enter Try.func10, Try.ntmps10
  go_wp2_with (go_at_call 24; refine CM.out.mono ?_; rintro e w' ⟨rfl, rfl⟩)
  go_ret
  exact ⟨rfl, Below.refl _ _⟩
set_option maxRecDepth 100000 in
set_option maxHeartbeats 400000 in
theorem fodrop_nob {w : World} {v : Value} (h : NobF w v) {s : ByteArray} (hs : s.size ≤ maxLen) :
    Calls Try.prog 20 #[v, .string s] w fun e w' => e = .returned (.bool false) ∧ Below w.heap.size w w' := by
  have CH := Lib.hid (fohas_nob h hs)
  clear h
  go_enter Try.func20, Try.ntmps20
  go_wp2_with (go_at_call 27; refine CH.out.mono ?_; rintro e w1 ⟨rfl, hb⟩)
  go_ret
  exact ⟨rfl, hb⟩
set_option maxRecDepth 100000 in
set_option maxHeartbeats 400000 in
theorem fomove_nob {w : World} {v : Value} (h : NobF w v) {s : ByteArray} (hs : s.size ≤ maxLen) (d : ByteArray) :
    Calls Try.prog 17 #[v, .string s, .string d] w fun e w' => e = .returned (.bool false) ∧ Below w.heap.size w w' := by
  have CH := Lib.hid (fohas_nob h hs)
  clear h
  go_enter Try.func17, Try.ntmps17
  go_wp2_with (go_at_call 27; refine CH.out.mono ?_; rintro e w1 ⟨rfl, hb⟩)
  go_ret
  exact ⟨rfl, hb⟩
set_option maxRecDepth 100000 in
set_option maxHeartbeats 400000 in
theorem fowait_nob {w : World} {v : Value} (h : NobF w v) :
    Calls Try.prog 19 #[v] w fun e w' => e = .returned (.int .i64 0) ∧ Below w.heap.size w w' := by
  have CO := Lib.hid (foown_nob h)
  clear h
  go_enter Try.func19, Try.ntmps19
  go_wp2_with fail
  refine CO.out.mono ?_
  rintro e w0 ⟨a, bn, bk, v, rfl, h, hb, ha, hk⟩
  obtain ⟨c0, c1, c2, f0, f1, f2⟩ := blk3 h.blk
  obtain rfl : v = .slice none 0 0 := h.nil rfl
  have HB := Lib.hid hb
  clear h hb
  go_wp2
  go_ret
  exact ⟨rfl, HB.out⟩
set_option maxRecDepth 100000 in
set_option maxHeartbeats 400000 in
theorem fosync_nob {w : World} {v : Value} (h : NobF w v) :
    Calls Try.prog 11 #[v] w fun e w' => e = .returned (.tuple #[]) ∧ Below w.heap.size w w' := by
  have CO := Lib.hid (foown_nob h)
  have H := Lib.hid h
  clear h
  go_enter Try.func11, Try.ntmps11
  go_wp2_with fail
  refine CO.out.mono ?_
  rintro e w0 ⟨a, bn, bk, v0, rfl, hF, hb, ha, hk⟩
  obtain rfl : v0 = .slice none 0 0 := hF.nil rfl
  have HB := Lib.hid hb; have HF := Lib.hid hF; have HA := Lib.hid ha; have HK := Lib.hid hk
  have CW := Lib.hid (fowait_nob (H.out.below hb))
  clear hF hb ha hk CO
  go_wp2_with fail
  refine CW.out.mono ?_
  rintro e w1 ⟨rfl, hb1⟩
  have CS := Lib.hid (fosettle_nil (HF.out.below hb1))
  have HB1 := Lib.hid (HB.out.trans (hb1.mono HB.out.size))
  clear hb1 CW
  go_wp2_with fail
  refine CS.out.mono ?_
  intro e w2 hs
  obtain ⟨rfl, hr⟩ : e = .returned (.tuple #[]) ∧ Apart [a, bk] w1 w2 := ⟨hs.1, hs.2.2.2.2⟩
  have HR := Lib.hid hr
  clear hs hr CS
  go_wp2
  go_end0
  refine ⟨rfl, HB1.out.trans (HR.out.to_below (fun x hx => ?_) HB1.out.size)⟩
  rcases List.mem_cons.1 hx with rfl | hx
  · exact HA.out
  · rw [List.mem_singleton.1 hx]; exact HK.out
set_option maxRecDepth 100000 in
set_option maxHeartbeats 400000 in
theorem fonow_nob {w : World} {v : Value} (h : NobF w v) : Calls Try.prog 21 #[v] w fun e w' => ∃ a c, e = .returned (.slice a 0 c) ∧ Below w.heap.size w w' := by
  have CO := Lib.hid (foown_nob h)
  clear h
  go_enter Try.func21, Try.ntmps21
  go_wp2_with fail
  refine CO.out.mono ?_
  rintro e w0 ⟨a, bn, bk, v, rfl, h, hb, ha, hk⟩
  obtain ⟨c0, c1, c2, f0, f1, f2⟩ := blk3 h.blk
  have CE := Lib.hid (foents_any h.now okE_nil (by simp [allE]))
  have HB := Lib.hid hb
  clear h hb
  go_wp2_with (go_at_call 41; refine CE.out.mono ?_; rintro e w2 ⟨ad, cp, rfl, _, hb⟩)
  go_ret
  exact ⟨ad, cp, rfl, HB.out.trans (hb.mono HB.out.size)⟩
set_option maxRecDepth 100000 in
set_option maxHeartbeats 400000 in
theorem fokept_nob {w : World} {v : Value} (h : NobF w v) : Calls Try.prog 22 #[v] w fun e w' => ∃ a c, e = .returned (.slice a 0 c) ∧ Below w.heap.size w w' := by
  have CO := Lib.hid (foown_nob h)
  clear h
  go_enter Try.func22, Try.ntmps22
  go_wp2_with fail
  refine CO.out.mono ?_
  rintro e w0 ⟨a, bn, bk, v, rfl, h, hb, ha, hk⟩
  obtain ⟨c0, c1, c2, f0, f1, f2⟩ := blk3 h.blk
  have CE := Lib.hid (foents_any h.kept okE_nil (by simp))
  have HB := Lib.hid hb
  clear h hb
  go_wp2_with (go_at_call 41; refine CE.out.mono ?_; rintro e w2 ⟨ad, cp, rfl, _, hb⟩)
  go_ret
  exact ⟨ad, cp, rfl, HB.out.trans (hb.mono HB.out.size)⟩
set_option maxRecDepth 100000 in
set_option maxHeartbeats 400000 in
theorem focopy_nob {w : World} {v : Value} (h : NobF w v) : Calls Try.prog 9 #[v] w fun e w' => e = .returned (.pointer none) ∧ Below w.heap.size w w' := by
  have CM := Lib.hid (fomade_nob h)
  clear h
  go_enter Try.func9, Try.ntmps9
  go_wp2_with (go_at_call 24; refine CM.out.mono ?_; rintro e w' ⟨rfl, rfl⟩)
  go_ret
  exact ⟨rfl, Below.refl _ _⟩
set_option maxRecDepth 100000 in
set_option maxHeartbeats 3200000 in
theorem foids_g {u : World} {p : Value} {cs : List Chg} {l : List Ent} (CO : Calls Try.prog 29 #[p] u (OwnF u cs l)) (hn : l.length ≤ 1000000) (hcs : cs.length ≤ 1000000) :
    Calls Try.prog 23 #[p] u (RetInts u (idsK (hist l cs))) := by
  have CO := Lib.hid CO
  go_enter Try.func23, Try.ntmps23
  go_wp2_with fail
  refine CO.out.mono ?_
  rintro e w ⟨a, bn, bk, v, rfl, h, hbu, hau, hku⟩
  have HBU := Lib.hid hbu
  clear hbu hau hku
  obtain ⟨i0, hi, hz0, hz1, hz2⟩ := info_parts int_info
  obtain ⟨c0, c1, c2, f0, f1, f2⟩ := blk3 h.blk
  have CV := Lib.hid (fovals_any bk w)
  have CC := Lib.hid (focollect_any h.kept h.oke hn)
  have HM := Lib.hid h.may; have HB := Lib.hid h.blk
  obtain ⟨av, cv, rfl, hcv, hch⟩ := own_chgsO h.row
  have HCH := Lib.hid hch
  clear h hch
  obtain ⟨n, hnn⟩ : ∃ n, cs.length = n := ⟨_, rfl⟩
  rw [hnn] at c2 hcs hcv HB
  have HN := Lib.hid hnn; have HL := Lib.hid hn
  clear hnn hn hcv
  clear CO
  go_wp2_with (first
    | (go_at_call 43; refine CV.out.mono ?_; rintro e w' ⟨rfl, rfl⟩)
    | (go_at_call 42; refine CC.out.mono ?_; rintro e w1 ⟨v1, zs, rfl, hz, hrow, hb⟩; have hb0 : Below w.heap.size w w1 := ((Below.refl _ w).alloc (Nat.le_refl _) (.cells #[.map (some bk)] 48)).trans (hb.mono (Nat.le_succ _)); have d2 := (hb0.cell (p := ⟨a, 2, none⟩) (lt_of_block HB.out)).trans c2; have hr0 := own_base hrow (Nat.le_succ w.heap.size); have HZ := Lib.hid hz; have HB0 := Lib.hid hb0; have HR0 := Lib.hid hr0; clear hz hrow hb hb0 hr0 c0 c1 c2 f0 f1 f2))
  go_loopw [3, 19] (fun u i wr => ∃ k : Nat, k ≤ n ∧ i = .int .i64 k ∧ wr.ownsRow w.heap.size 3 1 u (zs ++ putIds (cs.take k)).length ((zs ++ putIds (cs.take k)).map (Value.int .i64)) ∧ Below w.heap.size w wr) (fun _ i _ => n - (intOf i).toNat)
  case atStart => exact ⟨0, Nat.zero_le _, rfl, by simpa [putIds] using HR0.out, HB0.out⟩
  case round =>
    obtain ⟨k, hk, rfl, hown, hbel⟩ := hrel
    by_cases hlt : k < n
    · have hkl : k < cs.length := by rw [HN.out]; exact hlt
      obtain ⟨ad, rfl, hab, e0, e1, e2, e3⟩ := (HCH.out.below hbel) k hkl
      have hyes := putIds_yes cs k hkl
      have hno := putIds_no cs k hkl
      have hpl := putIds_len cs k
      have hzl : zs.length ≤ 1000000 := by rw [HZ.out.length_eq, List.length_map]; exact HL.out
      obtain ⟨x, hx⟩ : ∃ x, cs[k]'hkl = x := ⟨_, rfl⟩
      rw [hx] at e0 e1 e2 e3 hyes hno
      obtain ⟨kd, s, d, id⟩ := x
      simp only at e0 e1 e2 e3 hyes hno
      have b0 : (0 : Int) ≤ (k : Int) := by omega
      have b1 : (k : Int) < (n : Int) := by omega
      clear hx d2
      by_cases hkd : kd = 0
      · have HY := Lib.hid (hyes hkd)
        subst hkd
        have hnw : ∀ j u, ([.int .i64 id] : List Value)[j]? = some u → ((wr.alloc (.cells #[.int .i64 0, .string s, .string d, .int .i64 id] 60)).alloc (.cells #[.int .i64 id] 3)).cell? ((⟨wr.heap.size + 1, 0, none⟩ : Addr).add j) = some u := by
          have := news_int (wr.alloc (.cells #[.int .i64 0, .string s, .string d, .int .i64 id] 60)) id 3
          simpa using this
        have hsz := hbel.size
        have NW := Lib.hid hnw
        clear hyes hno hnw
        go_wp2_with (at_builtin; refine wpList_append_own _ rfl _ _ 55 rfl w.heap.size 3 i0 (.int .i64 0) 1 8 Try.underlying55 hi hz0 hz1 hz2 rfl (by decide) _ _ _ rfl ((hown.alloc _).alloc _) ⟨wr.heap.size + 1, 0, none⟩ 1 1 [.int .i64 id] rfl rfl NW.out (one_int _) (by rw [List.length_append]; unfold maxLen; omega) (by rw [List.length_append]; omega) (by simp; omega) ?_; intro v' w2 hown' hgrow _)
        have hb2 : Below w.heap.size w w2 := ((hbel.alloc hsz _).alloc (by simp; omega) _).grown hgrow (by simp; omega) (own_block hown)
        have ho2 : w2.ownsRow w.heap.size 3 1 v' (zs ++ putIds (cs.take (k + 1))).length ((zs ++ putIds (cs.take (k + 1))).map (Value.int .i64)) := by
          rw [HY.out, ← List.append_assoc, List.map_append, @List.length_append _ (zs ++ putIds (cs.take k)) [id]]
          exact hown'
        have HO2 := Lib.hid ho2; have HB2 := Lib.hid hb2
        clear hown' hgrow hown hbel ho2 hb2
        go_wp2
        go_roundw
        case rel => exact ⟨k + 1, by omega, by go_num, HO2.out, HB2.out⟩
        case measure => simp [intOf]; omega
      · have HY := Lib.hid (hno hkd)
        have t0 : (kd == 0) = false := beq_eq_false_iff_ne.2 hkd
        have hsz := hbel.size
        have HO := Lib.hid hown
        clear hyes hno hown
        go_wp2
        go_roundw
        case rel => exact ⟨k + 1, by omega, by go_num, by rw [HY.out]; exact HO.out.alloc _, hbel.alloc hsz _⟩
        case measure => simp [intOf]; omega
    · obtain rfl : k = n := by omega
      have hzl : zs.length ≤ 1000000 := by rw [HZ.out.length_eq, List.length_map]; exact HL.out
      have hpl := putIds_len cs k
      have hlen : (zs ++ putIds (cs.take k)).length ≤ 100000000 := by rw [List.length_append]; omega
      have CS := Lib.hid (fosort_any hown hlen)
      rw [List.take_of_length_le (by rw [HN.out]; exact Nat.le_refl _)] at CS hown hlen
      have HO := Lib.hid hown; have HLN := Lib.hid hlen; have HBEL := Lib.hid hbel
      clear hown hlen hpl hzl hbel
      go_wp2_with (first
        | (go_at_call 44; refine CS.out.mono ?_; rintro e w3 ⟨rfl, ho3, hg3⟩; have hb3 : Below w.heap.size w w3 := HBEL.out.grown hg3 HBEL.out.size (own_block HO.out); have HO3 := Lib.hid ho3; have HB3 := Lib.hid hb3; clear ho3 hg3 hb3)
        | (go_at_call 45; refine (focompact_any (zs := (zs ++ putIds cs).mergeSort fun x y => decide (x ≤ y)) (by rw [List.length_mergeSort]; exact HO3.out) (by rw [List.length_mergeSort]; exact HLN.out)).mono ?_; rintro e w4 ⟨v4, rfl, ho4, hg4⟩; have hb4 : Below w.heap.size w w4 := HB3.out.grown hg4 HB3.out.size (own_block HO3.out); have HO4 := Lib.hid ho4; have HB4 := Lib.hid hb4; clear ho4 hg4 hb4))
      go_ret
      have ho := HO4.out
      rw [sorted_ids HM.out HZ.out] at ho
      obtain ⟨a4, c4, rfl, hi4⟩ := own_ints ho
      exact ⟨a4, c4, rfl, hi4, HBU.out.trans (HB4.out.mono HBU.out.size)⟩
set_option maxRecDepth 100000 in
set_option maxHeartbeats 800000 in
theorem focrash_nob {w : World} {v : Value} (h : NobF w v) (n : Int) (h0 : -9223372036854775808 ≤ n) (h1 : n ≤ 9223372036854775807) :
    Calls Try.prog 18 #[v, .int .i64 n] w fun e w' => e = .returned (.int .i64 0) ∧ Below w.heap.size w w' := by
  have CO := Lib.hid (foown_nob h)
  have hp : pickN n 1 = 0 := by have := pickN_lt n 1 (by omega); omega
  have cm := fun W => fomod_any n h0 h1 1 (by omega) (by omega) W
  rw [hp] at cm
  have CM := Lib.hid cm
  clear h cm hp
  go_enter Try.func18, Try.ntmps18
  go_wp2_with fail
  refine CO.out.mono ?_
  rintro e w0 ⟨a, bn, bk, v0, rfl, hF, hb, ha, hk⟩
  obtain rfl : v0 = .slice none 0 0 := hF.nil rfl
  obtain ⟨c0, c1, c2, f0, f1, f2⟩ := blk3 hF.blk
  have CS := Lib.hid (fosettle_nil hF)
  have HB := Lib.hid hb; have HA := Lib.hid ha; have HK := Lib.hid hk
  clear hF hb ha hk CO
  go_wp2_with (first
    | (go_at_call 40; refine (CM.out _).mono ?_; rintro e w' ⟨rfl, rfl⟩)
    | (go_at_call 30; refine CS.out.mono ?_; intro e w2 hs; obtain ⟨rfl, hr⟩ : e = .returned (.tuple #[]) ∧ Settled w0 a bn bk (.slice none 0 0) [] [] 0 e w2 := ⟨hs.1, hs⟩; obtain ⟨d0, d1, d2, g0, g1, g2⟩ := blk3 hs.2.1; have HR := Lib.hid hr; clear hs hr c0 c1 c2 f0 f1 f2)
    | (go_at_call 25; refine (foclone_any HR.out.2.2.2.1).mono ?_; rintro e w3 ⟨rfl, hm3, hz3, hb3⟩; have p0 := (hb3.cell (p := ⟨a, 0, none⟩) (lt_of_block HR.out.2.1)).trans d0; have p1 := (hb3.frozen (p := ⟨a, 0, none⟩) (lt_of_block HR.out.2.1)).trans g0; have HB3 := Lib.hid hb3; clear hm3 hz3 hb3 d0 d1 d2 g0 g1 g2))
  go_ret
  have e1 : Below w.heap.size w w2 := HB.out.trans (HR.out.2.2.2.2.to_below (fun x hx => by
    rcases List.mem_cons.1 hx with rfl | hx
    · exact HA.out
    · rw [List.mem_singleton.1 hx]; exact HK.out) HB.out.size)
  exact ⟨rfl, (e1.trans (HB3.out.mono e1.size)).setCell (p := ⟨a, 0, none⟩) HA.out _⟩
theorem foids_nob {w : World} {v : Value} (h : NobF w v) : Calls Try.prog 23 #[v] w fun e w' => ∃ a c, e = .returned (.slice a 0 c) ∧ Below w.heap.size w w' := by
  refine (foids_g (foown_nob h) (by simp) (by simp)).mono ?_
  rintro e w' ⟨a, c, rfl, _, hb⟩
  exact ⟨a, c, rfl, hb⟩
end Go.Proofs.Ytpcbfkcpefcnjaa
