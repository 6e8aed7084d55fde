/-
  Joined: DkDev18.
-/
import Derived.Test.YtfgecjlccngddaaGreatJDkDevBB
import Derived.Test.YtfgecjlccngddaaGreatJDiskLoad
import Derived.Test.YtfgecjlccngddaaGreatJDiskRefB
namespace Go.Proofs.YtfgecjlccngddaaGreat
set_option linter.unusedSimpArgs false
set_option linter.unusedVariables false
open Go.RowKit
set_option linter.unusedVariables false

theorem mayC_load (D : Dsk) (n : Nat) (f : Fil) (h : n < 64) : loadS (D, 0) f = if mayC D n f.name = 0 then (D.putFile f, 0) else (D, mayC D n f.name) := by
  unfold loadS mayC
  rw [if_pos rfl]
  by_cases h1 : mayB f.name.data.toList = false
  · rw [if_pos h1, if_pos h1, if_neg (by decide)]
  · rw [if_neg h1, if_neg h1]
    by_cases h2 : (findE (nowL D.L) f.name).isSome = true
    · rw [if_pos h2, if_pos h2, if_neg (by decide)]
    · rw [if_neg h2, if_neg h2, if_neg (show ¬ 64 ≤ n by omega), if_pos rfl]
/-- The first k files lie on the disk that is made. -/
structure LdW (w : World) (ad bm : Nat) (an af : Addr) (Sf : List Nat) (sec : Int) (l : List Fil) (k : Nat) (wr : World) : Prop where
  dk : ∃ Sn blk, DkM wr ad bm an af Sn Sf (idsK (loadK sec l k).1.L) blk (loadK sec l k).1.tp.length (loadK sec l k).1 ∧ ∀ b ∈ dkS ad bm Sn Sf (idsK (loadK sec l k).1.L) blk, w.heap.size ≤ b
  ok : (loadK sec l k).2 = 0
  bel : Below w.heap.size w wr
theorem ld_start {w w1 w2 : World} {an af : Addr} {Sn Sf : List Nat} {sec : Int} {l : List Fil} (hFo : IsFold w1 Sn an [[]]) (hS1 : ∀ b ∈ Sn, (w.alloc (.map #[] 0)).heap.size ≤ b) (hb1 : Below (w.alloc (.map #[] 0)).heap.size (w.alloc (.map #[] 0)) w1)
    (hFu : IsFuse w2 Sf af Fus.new) (hS2 : ∀ b ∈ Sf, w1.heap.size ≤ b) (hb2 : Below w1.heap.size w1 w2) : LdW w w2.heap.size w.heap.size an af Sf sec l 0 (w2.alloc (.cells (dkBox (Dsk.new sec) w.heap.size an af 0) 67)) := by
  have z0 : (w.alloc (.map #[] 0)).heap.size = w.heap.size + 1 := by simp
  have hb0 : Below w.heap.size w (w.alloc (.map #[] 0)) := (Below.refl _ w).alloc (Nat.le_refl _) _
  have s1 := hb1.size
  have s2 := hb2.size
  have hb3 : Below w2.heap.size w2 (w2.alloc (.cells (dkBox (Dsk.new sec) w.heap.size an af 0) 67)) := (Below.refl _ w2).alloc (Nat.le_refl _) _
  have hbe := (hb0.trans (hb1.mono (by omega))).trans ((hb2.trans (hb3.mono s2)).mono (by omega))
  have L0 := hFo.lt
  have L1 := hFu.lt
  refine ⟨⟨Sn, fun _ => 0, ⟨Blk.new w2 _ _, ?_, (hFo.below hb2).below hb3, hFu.kept (.of_below (S := []) hb3) (by simp), fun i hi => absurd (show i ∈ ([] : List Int) from hi) List.not_mem_nil, List.Pairwise.nil, fun i hi => absurd (show i ∈ ([] : List Int) from hi) List.not_mem_nil, fun i hi => absurd (show i ∈ ([] : List Int) from hi) List.not_mem_nil, fun g => by have := L0 _ g; omega, fun g => by have := L1 _ g; omega, fun g => by have := hS1 _ g; omega, fun g => by have := hS2 _ g; omega, fun b hb g => by have := L0 _ hb; have := hS2 _ g; omega, fun i hi => absurd (show i ∈ ([] : List Int) from hi) List.not_mem_nil, fun i hi => absurd (show i ∈ ([] : List Int) from hi) List.not_mem_nil⟩, fun b hb => ?_⟩, rfl, hbe⟩
  · have m := TMap.made w (fun _ => 0)
    exact m.keep (((hb1.trans ((hb2.trans (hb3.mono s2)).mono s1))).block _ m.lt)
  · rcases mem_dkS.1 hb with g | g | g | g | ⟨i, hi, g⟩
    · omega
    · omega
    · have := hS1 _ g; omega
    · have := hS2 _ g; omega
    · exact absurd (show i ∈ ([] : List Int) from hi) List.not_mem_nil
theorem ld_step {w w0 w1 w2 : World} {ad bm : Nat} {an af : Addr} {Sn Sn' Sf : List Nat} {blk : Int → Nat} {sec : Int} {l : List Fil} {k t : Nat} {nm dt : ByteArray} {D : Dsk} (hD : loadK sec l (k + 1) = (D.putFile ⟨nm, dt⟩, 0)) (hid : idsK (putF D.L nm (D.tp.length + 1 : Nat)) = idsK D.L ++ [((D.tp.length + 1 : Nat) : Int)])
    (hall : ∀ b ∈ dkS ad bm Sn Sf (idsK D.L) blk, w.heap.size ≤ b) (hb0 : Below w.heap.size w w0) (hb1 : Below w0.drew.heap.size w0.drew w1) (hge : w0.drew.heap.size ≤ t)
    (h2 : DkM w2 ad bm an af Sn' Sf (idsK D.L ++ [((D.tp.length + 1 : Nat) : Int)]) (updB blk (D.tp.length + 1 : Nat) t) (D.tp.length + 1) { D with tp := D.tp ++ [⟨dt, dt⟩], L := putF D.L nm (D.tp.length + 1 : Nat) })
    (ha : Apart (dkS ad bm Sn Sf (idsK D.L) blk) w1 w2) (hs : ∀ b ∈ Sn', b ∈ Sn ∨ w1.heap.size ≤ b) : LdW w ad bm an af Sf sec l (k + 1) w2 := by
  have hb1' : Below w0.heap.size w0 w1 := ⟨hb1.os, hb1.tape, hb1.output, hb1.size, hb1.block⟩
  have hbel := hb0.trans (hb1'.mono hb0.size)
  have hge' : w0.heap.size ≤ t := hge
  have s0 := hb0.size
  have s1 := hb1'.size
  have e1 : (D.putFile ⟨nm, dt⟩).tp.length = D.tp.length + 1 := by unfold Dsk.putFile; simp
  have h3 : DkM w2 ad bm an af Sn' Sf (idsK (D.putFile ⟨nm, dt⟩).L) (updB blk (D.tp.length + 1 : Nat) t) (D.putFile ⟨nm, dt⟩).tp.length (D.putFile ⟨nm, dt⟩) := by
    rw [e1, show idsK (D.putFile ⟨nm, dt⟩).L = _ from hid]
    exact h2
  refine ⟨?_, by rw [hD], hbel.trans (ha.to_below hall hbel.size)⟩
  rw [hD]
  refine ⟨_, _, h3, fun b hb2 => ?_⟩
  rw [show idsK (D.putFile ⟨nm, dt⟩).L = _ from hid] at hb2
  rcases mem_dkS.1 hb2 with g | g | g | g | ⟨i, hi, g⟩
  · exact hall _ (mem_dkS.2 (.inl g))
  · exact hall _ (mem_dkS.2 (.inr (.inl g)))
  · rcases hs b g with k | k
    · exact hall _ (mem_dkS.2 (.inr (.inr (.inl k))))
    · omega
  · exact hall _ (mem_dkS.2 (.inr (.inr (.inr (.inl g)))))
  · unfold updB at g
    split at g
    · omega
    · next hne => exact hall _ (mem_dkS.2 (.inr (.inr (.inr (.inr ⟨i, (List.mem_append.1 hi).resolve_right (fun k => hne (List.mem_singleton.1 k)), g⟩)))))
theorem ld_done {w w1 w2 : World} {ad bm : Nat} {an af : Addr} {Sn Sn' Sf : List Nat} {blk : Int → Nat} {sec : Int} {l : List Fil} (h1 : 1 ≤ sec) (h2 : sec ≤ 4096) (hlen : l.length ≤ 64) (h0 : (loadK sec l l.length).2 = 0) (hfree : ¬ (loadK sec l l.length).1.free < 0)
    {D : Dsk} (hD : (loadK sec l l.length).1 = D) (hi : idsK [nowL D.L] = idsK D.L) (hd : DkM w1 ad bm an af Sn Sf (idsK D.L) blk D.tp.length D) (hall : ∀ b ∈ dkS ad bm Sn Sf (idsK D.L) blk, w.heap.size ≤ b) (hb : Below w.heap.size w w1)
    (hF : IsFold w2 Sn' an [nowL D.L]) (hA : Apart Sn w1 w2) (hS : ∀ b ∈ Sn', b ∈ Sn ∨ w1.heap.size ≤ b) : NewK w (Dsk.load sec l) (.returned (.tuple #[.pointer (some ⟨ad, 0, none⟩), .int .i64 0])) w2 := by
  have e : Dsk.load sec l = ({ D with L := [nowL D.L] }, 0) := by
    unfold Dsk.load
    rw [if_neg (by omega), if_neg (by omega), if_pos h0, if_neg hfree, hD]
  rw [e]
  unfold NewK
  rw [if_pos rfl]
  have s0 := hb.size
  have h3 := hd.onFold hF hA hS
  rw [← hi] at h3
  refine ⟨_, _, rfl, h3.is, fun b hb2 => ?_, hb.trans (hA.to_below (fun b hb => hall b (mem_dkS.2 (.inr (.inr (.inl hb))))) s0)⟩
  rw [show idsK ({ D with L := [nowL D.L] } : Dsk).L = idsK D.L from hi] at hb2
  rcases mem_dkS.1 hb2 with g | g | g | g | ⟨i, hi, g⟩
  · exact hall _ (mem_dkS.2 (.inl g))
  · exact hall _ (mem_dkS.2 (.inr (.inl g)))
  · rcases hS b g with k | k
    · exact hall _ (mem_dkS.2 (.inr (.inr (.inl k))))
    · omega
  · exact hall _ (mem_dkS.2 (.inr (.inr (.inr (.inl g)))))
  · exact hall _ (mem_dkS.2 (.inr (.inr (.inr (.inr ⟨i, hi, g⟩)))))
theorem ld_no {w w' : World} {sec : Int} {l : List Fil} {c : Int} (h : Dsk.load sec l = (Dsk.zero, c)) (hc : c ≠ 0) (hb : Below w.heap.size w w') : NewK w (Dsk.load sec l) (.returned (.tuple #[.pointer none, .int .i64 c])) w' := by
  rw [h]
  unfold NewK
  rw [if_neg hc]
  exact ⟨rfl, hb⟩
theorem load_bad {sec : Int} {l : List Fil} {k : Nat} {D : Dsk} {m : Int} (h1 : 1 ≤ sec) (h2 : sec ≤ 4096) (hlen : l.length ≤ 64) (h : loadK sec l k = (D, m)) (hm : m ≠ 0) : Dsk.load sec l = (Dsk.zero, m) := by
  have e := loadK_bad sec l k (by rw [h]; exact hm)
  rw [h] at e
  unfold Dsk.load
  rw [if_neg (by omega), if_neg (by omega), e, if_neg hm]
set_option maxRecDepth 100000 in
set_option maxHeartbeats 800000 in
theorem dkload_bad {w : World} {a : Option Addr} {l : List Fil} {c : Nat} (sec : Int) (h : sec < 1 ∨ 4096 < sec) :
    Calls Tryz.prog 16 #[.int .i64 sec, .slice a l.length c] w (NewK w (Dsk.load sec l)) := by
  have e : Dsk.load sec l = (Dsk.zero, 2) := by unfold Dsk.load; rw [if_pos h]
  have E := Lib.hid e
  clear e
  obtain ⟨N, hN⟩ : ∃ N, l.length = N := ⟨_, rfl⟩
  rw [hN]
  clear hN
  go_enter Tryz.func16, Tryz.ntmps16
  rcases h with h | h
  · go_wp2
    go_ret2
    exact ld_no E.out (by decide) (Below.refl _ _)
  · have h1 : ¬ sec < 1 := by omega
    go_wp2
    go_ret2
    exact ld_no E.out (by decide) (Below.refl _ _)
set_option maxRecDepth 100000 in
set_option maxHeartbeats 800000 in
theorem dkload_many {w : World} {a : Option Addr} {l : List Fil} {c : Nat} (sec : Int) (h1 : 1 ≤ sec) (h2 : sec ≤ 4096) (hl : 64 < l.length) :
    Calls Tryz.prog 16 #[.int .i64 sec, .slice a l.length c] w (NewK w (Dsk.load sec l)) := by
  have e : Dsk.load sec l = (Dsk.zero, 9) := by unfold Dsk.load; rw [if_neg (by omega), if_pos hl]
  have E := Lib.hid e
  clear e
  obtain ⟨N, hN⟩ : ∃ N, l.length = N := ⟨_, rfl⟩
  rw [hN] at hl ⊢
  have hl' : (64 : Int) < (N : Int) := by omega
  have g1 : ¬ sec < 1 := by omega
  have g2 : ¬ 4096 < sec := by omega
  clear hN hl h1 h2
  go_enter Tryz.func16, Tryz.ntmps16
  go_wp2
  go_ret2
  exact ld_no E.out (by decide) (Below.refl _ _)
section
set_option maxRecDepth 100000 in
set_option maxHeartbeats 3200000 in
theorem dkload_ok {w : World} {B : Nat → Prop} {a : Option Addr} {l : List Fil} {c : Nat} (hl : Fils w B a l) (hB : ∀ b, B b → b < w.heap.size) (hf : ∀ x ∈ l, x.name.size ≤ maxLen ∧ x.data.size ≤ 200) (sec : Int) (h1 : 1 ≤ sec) (h2 : sec ≤ 4096) (hlen : l.length ≤ 64) :
    Calls Tryz.prog 16 #[.int .i64 sec, .slice a l.length c] w (NewK w (Dsk.load sec l)) := by
  obtain ⟨N, hN⟩ : ∃ N, l.length = N := ⟨_, rfl⟩
  have HN := Lib.hid hN; have HF := Lib.hid hl; have HFB := Lib.hid hB; have HFI := Lib.hid hf
  rw [hN] at hlen ⊢
  have g1 : ¬ sec < 1 := by omega
  have g2 : ¬ 4096 < sec := by omega
  have g3 : ¬ (64 : Int) < (N : Int) := by omega
  have hmk := fun (w : World) => run_makeMap (P := Tryz.prog) 63 w
  clear hN hl hB hf
  go_enter Tryz.func16, Tryz.ntmps16
  go_wp2_with (first
    | (go_at_call 63; refine (fonew_any _).mono ?_; rintro e w1 ⟨an, Sn0, rfl, hFo, hS1, hb1⟩; have HFO := Lib.hid hFo; have HS1 := Lib.hid hS1; have HB1 := Lib.hid hb1; clear hFo hS1 hb1)
    | (go_at_call 64; refine (fnew_any _).mono ?_; rintro e w2 ⟨af, Sf, rfl, hFu, hS2, hb2⟩; have HS := Lib.hid (ld_start (sec := sec) (l := l) HFO.out HS1.out HB1.out hFu hS2 hb2); clear hFu hS2 hb2))
  go_loopw [27] (fun i wr => ∃ k : Nat, k ≤ N ∧ i = .int .i64 k ∧ LdW w w2.heap.size w.heap.size an af Sf sec l k wr) (fun i _ => N - (intOf i).toNat)
  case atStart => exact ⟨0, Nat.zero_le _, rfl, HS.out⟩
  case round =>
    obtain ⟨k, hk, rfl, hld⟩ := hrel
    by_cases hlt : k < N
    · have hkl : k < l.length := by rw [HN.out]; exact hlt
      obtain ⟨⟨Sn, blk, hd, hall⟩, hok, hbel⟩ := hld
      obtain ⟨adE, rfl, hab, q0, q1⟩ := (HF.out.below HFB.out hbel) k hkl
      obtain ⟨s1, s2⟩ := HFI.out _ (List.getElem_mem hkl)
      have hi := loadK_is h1 h2 (fun f hf => (HFI.out f hf).2) k (by rw [HN.out]; exact hk) hok
      have hst : loadK sec l (k + 1) = if mayC (loadK sec l k).1 (idsK (loadK sec l k).1.L).length l[k].name = 0 then ((loadK sec l k).1.putFile l[k], 0) else ((loadK sec l k).1, mayC (loadK sec l k).1 (idsK (loadK sec l k).1.L).length l[k].name) := by
        have e : loadK sec l k = ((loadK sec l k).1, 0) := Prod.ext rfl hok
        have c1 := ids_count hi.ok
        have c2 := hi.len
        exact (loadK_succ sec l k hkl).trans ((congrArg (fun r => loadS r l[k]) e).trans (mayC_load _ _ _ (by rw [HN.out] at hkl; omega)))
      obtain ⟨D, hDn⟩ : ∃ D, (loadK sec l k).1 = D := ⟨_, rfl⟩
      obtain ⟨x, hx⟩ : ∃ x, l[k]'hkl = x := ⟨_, rfl⟩
      rw [hDn] at hd hall hi hst
      rw [hx] at q0 q1 s1 s2 hst
      obtain ⟨nm, dt⟩ := x
      simp only at q0 q1 s1 s2 hst
      have b0 : (0 : Int) ≤ (k : Int) := by omega
      have b1 : (k : Int) < (N : Int) := by omega
      obtain ⟨wx, hwx⟩ : ∃ wx, wx = wr.alloc (.cells #[.string nm, .string dt] 52) := ⟨_, rfl⟩
      have hbx : Below wr.heap.size wr wx := by rw [hwx]; exact (Below.refl _ _).alloc (Nat.le_refl _) _
      have kx : Blk wx wr.heap.size #[.string nm, .string dt] 52 := by rw [hwx]; exact Blk.new _ _ _
      have hok9 := D.ok_more (N := 199) hi.ok (by omega)
      have CM := dmay_any (hd.below hbx) (Dsk.okL hok9) nm s1
      obtain ⟨m, hm⟩ : ∃ m, mayC D (idsK D.L).length nm = m := ⟨_, rfl⟩
      rw [hm] at CM hst
      have p0 := kx.cell 0 _ rfl
      have CM := Lib.hid CM; have HD := Lib.hid hd; have HALL := Lib.hid hall; have HI := Lib.hid hi; have HOK := Lib.hid hok9; have HST := Lib.hid hst; have HX := Lib.hid kx; have HWX := Lib.hid hwx; have HM := Lib.hid hm; have S1 := Lib.hid s1
      have HBL := Lib.hid (hbel.trans (hbx.mono hbel.size)); have HDN := Lib.hid hDn; have HHD := Lib.hid (hd.below hbx)
      clear hd hall hi hok hok9 hst kx hm hbel hDn hbx hx s1 s2 hab
      go_upto_region 9 with fail
      rw [← HWX.out]
      clear hwx q0 q1
      go_wp2_with fail
      refine CM.out.mono ?_
      rintro e w3 ⟨rfl, hb3⟩
      have kx3 := HX.out.onto hb3
      have p0 := kx3.cell 0 _ rfl; have p1 := kx3.cell 1 _ rfl
      have HB3 := Lib.hid (HBL.out.trans (hb3.mono HBL.out.size)); have HD3 := Lib.hid (HHD.out.below hb3); have KX3 := Lib.hid kx3
      clear hb3 kx3
      by_cases hz : m = 0
      · subst hz
        have hid := ids_put HI.out.ok.2.2.1.1 nm (D.tp.length + 1 : Nat) (mayC_no HM.out) (fun i hi => by have := (HD.out.rng i hi).2; omega)
        have hstep := HST.out
        rw [if_pos rfl] at hstep
        have HID := Lib.hid hid; have HSTEP := Lib.hid hstep
        clear hid hstep
        have z3 := HD3.out.lt
        have HLT := Lib.hid z3
        clear z3
        go_upto_region 12 with fail
        go_region_with (first
          | (go_at_call 65; refine (tload_any dt dt _).mono ?_; rintro e w4 ⟨t, rfl, hge, ht, hb4⟩; have r0 := ((show Blk w3.drew wr.heap.size #[.string nm, .string dt] 52 from KX3.out).onto hb4).cell 0 _ rfl; have r1 := ((show Blk w3.drew wr.heap.size #[.string nm, .string dt] 52 from KX3.out).onto hb4).cell 1 _ rfl; have HD4 := Lib.hid (HD3.out.drew.below hb4); have HT := Lib.hid ht; have HG := Lib.hid hge; have HB4 := Lib.hid hb4; clear ht hge hb4)
          | (go_at_call 41; refine (dadd_b HD4.out (Dsk.okL (D := D) HOK.out) (by have := HI.out.len; omega) (ids_few (M := 199) (D := D) HOK.out (by omega)) nm S1.out HT.out (fun g => by have := HLT.out _ g; have e : w3.drew.heap.size = w3.heap.size := rfl; have := HG.out; omega)).mono ?_; rintro e w5 ⟨rfl, Sn', h5, ha5, hs5⟩; have HE := Lib.hid (ld_step HSTEP.out HID.out HALL.out HB3.out HB4.out HG.out h5 ha5 hs5); clear h5 ha5 hs5))
        all_goals
          go_wp2
          go_roundw
          case rel => exact ⟨k + 1, by omega, by go_num, HE.out⟩
          case measure => simp [intOf]; omega
      · have t0 : (m != 0) = true := bne_iff_ne.2 hz
        go_wp2
        go_ret2
        exact ld_no (load_bad h1 h2 (by rw [HN.out]; exact hlen) (by rw [HST.out, if_neg hz]) hz) hz HB3.out
    · obtain rfl : k = N := by omega
      obtain ⟨⟨Sn, blk, hd, hall⟩, hok, hbel⟩ := hld
      have hi := loadK_is h1 h2 (fun f hf => (HFI.out f hf).2) k (by rw [HN.out]; exact hk) hok
      have hok9 := Dsk.ok_more (N := 199) hi.ok (by omega)
      have CF := dfree_b hd hok9 (ids_few (M := 199) hok9 (by omega))
      rw [← Dsk.free_fold] at CF
      obtain ⟨D, hDn⟩ : ∃ D, (loadK sec l k).1 = D := ⟨_, rfl⟩
      rw [hDn] at hd hall hi hok9 CF
      obtain ⟨fr, hfr⟩ : ∃ fr, D.free = fr := ⟨_, rfl⟩
      rw [hfr] at CF
      have CF := Lib.hid CF; have HD := Lib.hid hd; have HALL := Lib.hid hall; have HI := Lib.hid hi; have HOK := Lib.hid hok9; have HOK0 := Lib.hid hok; have HBL := Lib.hid hbel; have HDN := Lib.hid hDn; have HFR := Lib.hid hfr
      clear hd hall hi hok9 hok hbel hDn hfr
      go_wp2_with fail
      refine CF.out.mono ?_
      rintro e w3 ⟨rfl, hb3⟩
      obtain ⟨c0, c1, c2, c3, c4, c5⟩ := (HD.out.below hb3).cells
      have HB3 := Lib.hid (HBL.out.trans (hb3.mono HBL.out.size)); have HD3 := Lib.hid (HD.out.below hb3)
      clear hb3 c0 c1 c3 c4 c5
      by_cases hneg : fr < 0
      · go_wp2
        go_ret2
        refine ld_no (c := 12) ?_ (by decide) HB3.out
        have e0 := HOK0.out
        have e1 := HN.out
        unfold Dsk.load
        rw [if_neg (by omega), if_neg (by omega), e1, if_pos e0, HDN.out, HFR.out, if_pos hneg]
      · go_wp2_with (go_at_call 66; refine (fosync_any HD3.out.fold (Dsk.okL (D := D) HOK.out)).mono ?_; rintro e w4 ⟨rfl, Sn', hF, hA, hS⟩)
        have e1 := HN.out
        have HE := Lib.hid (ld_done (l := l) h1 h2 (by omega) (by rw [e1]; exact HOK0.out) (by rw [e1, HDN.out, HFR.out]; omega) (by rw [e1]; exact HDN.out) HI.out.ids HD3.out HALL.out HB3.out hF hA hS)
        clear hF hA hS
        go_wp2
        go_ret2
        exact HE.out
end
theorem dkload_any {w : World} {B : Nat → Prop} {a : Option Addr} {l : List Fil} {c : Nat} (hl : Fils w B a l) (hB : ∀ b, B b → b < w.heap.size) (hf : ∀ x ∈ l, x.name.size ≤ maxLen ∧ x.data.size ≤ 200) (sec : Int) :
    Calls Tryz.prog 16 #[.int .i64 sec, .slice a l.length c] w (NewK w (Dsk.load sec l)) := by
  by_cases h1 : sec < 1 ∨ 4096 < sec
  · exact dkload_bad sec h1
  · by_cases h2 : 64 < l.length
    · exact dkload_many sec (by omega) (by omega) h2
    · exact dkload_ok hl hB hf sec (by omega) (by omega) (by omega)
theorem load_make (sec : Int) : Dsk.load sec [] = Dsk.make sec := by
  unfold Dsk.load Dsk.make
  by_cases h : sec < 1 ∨ 4096 < sec
  · rw [if_pos h, if_pos h]
  · rw [if_neg h, if_neg h, if_neg (by simp)]
    show (if (0 : Int) = 0 then (if (Dsk.new sec).free < 0 then (Dsk.zero, 12) else ({ Dsk.new sec with L := [nowL (Dsk.new sec).L] }, 0)) else _) = _
    rw [if_pos rfl, if_neg]
    · rfl
    · show ¬ sec < 0
      omega
set_option maxRecDepth 100000 in
set_option maxHeartbeats 800000 in
theorem dknew_any (sec : Int) (w : World) : Calls Tryz.prog 7 #[.int .i64 sec] w (NewK w (Dsk.make sec)) := by
  have CL := dkload_any (w := w) (B := fun _ => False) (a := none) (l := []) (c := 0) (fun k hk => absurd hk (by simp)) (fun b hb => hb.elim) (fun x hx => absurd hx (by simp)) sec
  rw [load_make] at CL
  have CL := Lib.hid CL
  go_enter Tryz.func7, Tryz.ntmps7
  go_wp2_with fail
  refine CL.out.mono ?_
  intro e w' h
  unfold NewK at h
  split at h
  · next h0 =>
    obtain ⟨a, S, rfl, hI, hS, hb⟩ := h
    have HI := Lib.hid hI; have HS := Lib.hid hS; have HB := Lib.hid hb
    clear hI hS hb
    go_wp2
    go_ret2
    unfold NewK
    rw [if_pos h0]
    exact ⟨_, _, rfl, HI.out, HS.out, HB.out⟩
  · next h0 =>
    obtain ⟨rfl, hb⟩ := h
    have HB := Lib.hid hb
    clear hb
    obtain ⟨c, hc⟩ : ∃ c, (Dsk.make sec).2 = c := ⟨_, rfl⟩
    rw [hc] at h0
    try rw [hc]
    go_wp2
    go_ret2
    unfold NewK
    rw [hc, if_neg h0]
    exact ⟨rfl, HB.out⟩
end Go.Proofs.YtfgecjlccngddaaGreat
