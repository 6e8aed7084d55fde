/-
  Joined: DkDev1.
-/
import Derived.Test.YtfgecjlccngddaaGreatJDkDev
import Derived.Test.YtfgecjlccngddaaGreatJTitleDev
import Derived.Maps.OwnSet
import Derived.StillTailTactics
import Derived.Deep.RegionLaw
import Derived.Deep.RegionWith
import Derived.Deep.RegionHeld3
namespace Go.Proofs.YtfgecjlccngddaaGreat
set_option linter.unusedSimpArgs false
set_option linter.unusedVariables false
open Go.RowKit
set_option linter.unusedVariables false

section
variable {w w' : World} {ad bm : Nat} {an af : Addr} {Sn Sf : List Nat} {ids : List Int} {blk : Int → Nat} {born : Nat} {D : Dsk}
theorem DkM.cells (h : DkM w ad bm an af Sn Sf ids blk born D) :
    w.cell? ⟨ad, 0, none⟩ = some (.int .i64 D.sec) ∧ w.cell? ⟨ad, 1, none⟩ = some (.map (some bm)) ∧ w.cell? ⟨ad, 2, none⟩ = some (.pointer (some an)) ∧ w.cell? ⟨ad, 3, none⟩ = some (.pointer (some af)) ∧
    w.cell? ⟨ad, 4, none⟩ = some (.int .i64 born) ∧ w.cell? ⟨ad, 5, none⟩ = some (.int .i64 D.calls) :=
  ⟨h.box.cell 0 _ rfl, h.box.cell 1 _ rfl, h.box.cell 2 _ rfl, h.box.cell 3 _ rfl, h.box.cell 4 _ rfl, h.box.cell 5 _ rfl⟩
theorem DkM.drew (h : DkM w ad bm an af Sn Sf ids blk born D) : DkM w.drew ad bm an af Sn Sf ids blk born D := h.kept (Apart.refl [] w).drew (by simp)
set_option maxRecDepth 100000 in
set_option maxHeartbeats 400000 in
theorem dmade_yes (h : DkM w ad bm an af Sn Sf ids blk born D) :
    Calls Tryz.prog 33 #[.pointer (some ⟨ad, 0, none⟩)] w fun e w' => e = .returned (.bool true) ∧ w = w' := by
  obtain ⟨c0, c1, c2, c3, c4, c5⟩ := h.cells
  clear h
  have hq := fun w => run_neq_map_nil (P := Tryz.prog) w 63 _ _ (some bm) Tryz.underlying63
  go_enter Tryz.func33, Tryz.ntmps33
  go_wp2
  go_ret
  exact ⟨rfl, rfl⟩
set_option maxRecDepth 100000 in
set_option maxHeartbeats 400000 in
theorem dready_off (h : DkM w ad bm an af Sn Sf ids blk born D) (ho : D.fu.off = true) :
    Calls Tryz.prog 37 #[.pointer (some ⟨ad, 0, none⟩)] w fun e w' => e = .returned (.int .i64 14) ∧ Below w.heap.size w w' := by
  obtain ⟨c0, c1, c2, c3, c4, c5⟩ := h.cells
  have CM := Lib.hid (dmade_yes h); have CU := Lib.hid (fup_any h.fuse)
  rw [ho] at CU
  clear h
  go_enter Tryz.func37, Tryz.ntmps37
  go_wp2_with (first | (go_at_call 33; refine CM.out.mono ?_; rintro e w' ⟨rfl, rfl⟩) | (go_at_call 84; refine CU.out.mono ?_; rintro e w' ⟨rfl, hb⟩))
  go_ret
  exact ⟨rfl, hb⟩
set_option maxRecDepth 100000 in
set_option maxHeartbeats 400000 in
theorem dready_on (h : DkM w ad bm an af Sn Sf ids blk born D) (ho : D.fu.off = false) :
    Calls Tryz.prog 37 #[.pointer (some ⟨ad, 0, none⟩)] w fun e w' => e = .returned (.int .i64 0) ∧ Below w.heap.size w w' := by
  obtain ⟨c0, c1, c2, c3, c4, c5⟩ := h.cells
  have CM := Lib.hid (dmade_yes h); have CU := Lib.hid (fup_any h.fuse)
  rw [ho] at CU
  clear h
  go_enter Tryz.func37, Tryz.ntmps37
  go_wp2_with (first | (go_at_call 33; refine CM.out.mono ?_; rintro e w' ⟨rfl, rfl⟩) | (go_at_call 84; refine CU.out.mono ?_; rintro e w' ⟨rfl, hb⟩))
  go_ret
  exact ⟨rfl, hb⟩
set_option maxRecDepth 100000 in
set_option maxHeartbeats 400000 in
theorem dfind_off (h : DkM w ad bm an af Sn Sf ids blk born D) (ho : D.fu.off = true) (s : ByteArray) :
    Calls Tryz.prog 43 #[.pointer (some ⟨ad, 0, none⟩), .string s] w fun e w' => e = .returned (.tuple #[.int .i64 0, .int .i64 14]) ∧ Below w.heap.size w w' := by
  have CR := Lib.hid (dready_off h ho)
  clear h
  go_enter Tryz.func43, Tryz.ntmps43
  go_wp2_with (go_at_call 37; refine CR.out.mono ?_; rintro e w' ⟨rfl, hb⟩)
  go_ret2
  exact ⟨rfl, hb⟩
set_option maxRecDepth 100000 in
set_option maxHeartbeats 400000 in
theorem dfind_no (h : DkM w ad bm an af Sn Sf ids blk born D) (hL : okL 500 D.L) (ho : D.fu.off = false) (s : ByteArray) (hs : s.size ≤ maxLen) (hf : findE (nowL D.L) s = none) :
    Calls Tryz.prog 43 #[.pointer (some ⟨ad, 0, none⟩), .string s] w fun e w' => e = .returned (.tuple #[.int .i64 0, .int .i64 8]) ∧ Below w.heap.size w w' := by
  have CR := Lib.hid (dready_on h ho); have H := Lib.hid h; have HF := Lib.hid hf; have HL := Lib.hid hL
  clear h hf hL
  go_enter Tryz.func43, Tryz.ntmps43
  go_wp2_with fail
  refine CR.out.mono ?_
  rintro e w1 ⟨rfl, hb⟩
  obtain ⟨c0, c1, c2, c3, c4, c5⟩ := (H.out.below hb).cells
  have CF := fofind_any (H.out.below hb).fold HL.out s hs
  rw [HF.out] at CF
  have CF := Lib.hid CF
  go_wp2_with fail
  refine CF.out.mono ?_
  rintro e w2 ⟨rfl, hb2⟩
  go_wp2
  go_ret2
  exact ⟨rfl, hb.trans (hb2.mono hb.size)⟩
set_option maxRecDepth 100000 in
set_option maxHeartbeats 400000 in
theorem dfind_yes (h : DkM w ad bm an af Sn Sf ids blk born D) (hL : okL 500 D.L) (ho : D.fu.off = false) (s : ByteArray) (hs : s.size ≤ maxLen) {n : Int} (hf : findE (nowL D.L) s = some n) :
    Calls Tryz.prog 43 #[.pointer (some ⟨ad, 0, none⟩), .string s] w fun e w' => e = .returned (.tuple #[.int .i64 n, .int .i64 0]) ∧ Below w.heap.size w w' := by
  have CR := Lib.hid (dready_on h ho); have H := Lib.hid h; have HF := Lib.hid hf; have HL := Lib.hid hL
  clear h hf hL
  go_enter Tryz.func43, Tryz.ntmps43
  go_wp2_with fail
  refine CR.out.mono ?_
  rintro e w1 ⟨rfl, hb⟩
  obtain ⟨c0, c1, c2, c3, c4, c5⟩ := (H.out.below hb).cells
  have CF := fofind_any (H.out.below hb).fold HL.out s hs
  rw [HF.out] at CF
  have CF := Lib.hid CF
  go_wp2_with fail
  refine CF.out.mono ?_
  rintro e w2 ⟨rfl, hb2⟩
  go_wp2
  go_ret2
  exact ⟨rfl, hb.trans (hb2.mono hb.size)⟩
/-- What is wrong with a new file of that name. -/
def mayC (D : Dsk) (n : Nat) (s : ByteArray) : Int := if mayB s.data.toList = false then 7 else if (findE (nowL D.L) s).isSome = true then 17 else if 64 ≤ n then 9 else 0
set_option maxRecDepth 100000 in
set_option maxHeartbeats 800000 in
theorem dmay_any (h : DkM w ad bm an af Sn Sf ids blk born D) (hL : okL 500 D.L) (s : ByteArray) (hs : s.size ≤ maxLen) :
    Calls Tryz.prog 38 #[.pointer (some ⟨ad, 0, none⟩), .string s] w fun e w' => e = .returned (.int .i64 (mayC D ids.length s)) ∧ Below w.heap.size w w' := by
  have CT := Lib.hid (tmay_any s hs w); have H := Lib.hid h; have HL := Lib.hid hL
  clear h hL
  obtain ⟨r, hr⟩ : ∃ r, mayC D ids.length s = r := ⟨_, rfl⟩
  have HR := Lib.hid hr
  rw [hr]
  unfold mayC at HR
  clear hr
  obtain ⟨k, hk⟩ : ∃ k, ids.length = k := ⟨_, rfl⟩
  rw [hk] at HR
  go_enter Tryz.func38, Tryz.ntmps38
  go_wp2_with fail
  refine CT.out.mono ?_
  rintro e w1 ⟨rfl, hb⟩
  obtain ⟨c0, c1, c2, c3, c4, c5⟩ := (H.out.below hb).cells
  have HB := Lib.hid hb; clear hb
  cases hm : mayB s.data.toList with
  | false =>
    go_wp2
    go_ret
    refine ⟨ret_int ?_, HB.out⟩
    rw [← HR.out, if_pos hm]
  | true =>
    have CF := Lib.hid (fofind_any (H.out.below HB.out).fold HL.out s hs)
    go_wp2_with fail
    refine CF.out.mono ?_
    rintro e w2 ⟨rfl, hb2⟩
    have HB2 := Lib.hid (HB.out.trans (hb2.mono HB.out.size))
    obtain ⟨c0, c1, c2, c3, c4, c5⟩ := (H.out.below HB2.out).cells
    have hlen := fun ty => (H.out.below HB2.out).map.len ty
    rw [hk] at hlen
    clear hb2
    cases hf : (findE (nowL D.L) s).isSome with
    | true =>
      go_wp2
      go_ret
      refine ⟨ret_int ?_, HB2.out⟩
      rw [← HR.out, if_neg (by rw [hm]; simp), if_pos hf]
    | false =>
      by_cases h64 : 64 ≤ k
      · have t1 : decide ((64 : Int) ≤ (k : Int)) = true := decide_eq_true (by omega)
        go_wp2
        go_ret
        refine ⟨ret_int ?_, HB2.out⟩
        rw [← HR.out, if_neg (by rw [hm]; simp), if_neg (by rw [hf]; simp), if_pos h64]
      · have t1 : decide ((64 : Int) ≤ (k : Int)) = false := decide_eq_false (by omega)
        go_wp2
        go_ret
        refine ⟨ret_int ?_, HB2.out⟩
        rw [← HR.out, if_neg (by rw [hm]; simp), if_neg (by rw [hf]; simp), if_neg h64]
end
end Go.Proofs.YtfgecjlccngddaaGreat
