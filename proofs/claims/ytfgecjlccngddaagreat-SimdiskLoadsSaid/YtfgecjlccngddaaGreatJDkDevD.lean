/-
  Joined: DkDev12.
-/
import Derived.Test.YtfgecjlccngddaaGreatJDkDevC
import Derived.Deep.Cut
import Derived.Deep.DeepCutAuto
namespace Go.Proofs.YtfgecjlccngddaaGreat
set_option linter.unusedSimpArgs false
set_option linter.unusedVariables false
open Go.RowKit
set_option linter.unusedVariables false

section
variable {w w' : World} {ad bm : Nat} {an af : Addr} {Sn Sf : List Nat} {ids : List Int} {blk : Int → Nat} {born : Nat} {D : Dsk}
/-- What stands when a file was found and its tape is copied: the boxes of the disk, of the number, of the copy. -/
structure Cop (w : World) (n0 : Nat) (ad bm : Nat) (an af : Addr) (Sn Sf : List Nat) (blk : Int → Nat) (D : Dsk) (n : Int) (bi bx t : Nat) (k m : ByteArray) (wx : World) : Prop where
  dk : DkM wx ad bm an af Sn Sf (idsK D.L) blk D.tp.length D
  b0 : Blk wx n0 #[.pointer (some ⟨ad, 0, none⟩)] 23
  b1 : Blk wx bi #[.int .i64 n] 3
  b2 : Blk wx bx #[.pointer (some ⟨t, 0, none⟩)] 79
  tap : Tap wx t k m
  bel : Below n0 w wx
  l1 : n0 ≤ bi
  l2 : n0 ≤ bx
  l3 : n0 ≤ t
theorem Cop.below {w wx wy : World} {n0 bi bx t : Nat} {k m : ByteArray} {n : Int} (h : Cop w n0 ad bm an af Sn Sf blk D n bi bx t k m wx) (hb : Below wx.heap.size wx wy) (hn : n0 ≤ w.heap.size) : Cop w n0 ad bm an af Sn Sf blk D n bi bx t k m wy :=
  ⟨h.dk.below hb, h.b0.onto hb, h.b1.onto hb, h.b2.onto hb, Tap.below h.tap hb, h.bel.trans (hb.mono (Nat.le_trans hn h.bel.size)), h.l1, h.l2, h.l3⟩
theorem Cop.far {wx : World} {n0 bi bx t : Nat} {k m : ByteArray} {n : Int} (h : Cop w n0 ad bm an af Sn Sf blk D n bi bx t k m wx) (hlt : ∀ b ∈ dkS ad bm Sn Sf (idsK D.L) blk, b < n0) : ∀ b, n0 ≤ b → b ∉ dkS ad bm Sn Sf (idsK D.L) blk := fun b hb g => by have := hlt b g; omega
/-- The copy has turned. -/
theorem Cop.turn {wx wy : World} {n0 bi bx t : Nat} {k m k' m' : ByteArray} {n : Int} (h : Cop w n0 ad bm an af Sn Sf blk D n bi bx t k m wx) (hlt : ∀ b ∈ dkS ad bm Sn Sf (idsK D.L) blk, b < n0) (hn : n0 ≤ w.heap.size) (ht : Tap wy t k' m') (ha : Apart [t] wx wy) :
    Cop w n0 ad bm an af Sn Sf blk D n bi bx t k' m' wy := by
  have ne : ∀ {b : Nat} {v : Value} {ty : TypeId}, Blk wx b #[v] ty → b ∉ [t] := fun {b v ty} hb g => by
    have e : b = t := List.mem_singleton.1 g
    have h1 : wx.heap[b]? = _ := hb
    have h2 : wx.heap[t]? = _ := h.tap
    rw [e, h2] at h1
    simp at h1
  have kp : ∀ {b : Nat} {v : Value} {ty : TypeId}, Blk wx b #[v] ty → Blk wy b #[v] ty := fun {b v ty} hb => (ha.block b hb.lt (ne hb)).trans hb
  exact ⟨h.dk.kept ha (fun b hb g => by have := hlt b hb; have := List.mem_singleton.1 g; have := h.l3; omega), kp h.b0, kp h.b1, kp h.b2, ht, h.bel.trans (ha.to_below (fun b hb => by rw [List.mem_singleton.1 hb]; exact h.l3) (Nat.le_trans hn h.bel.size)), h.l1, h.l2, h.l3⟩
theorem cop_mk {w2 wx : World} {n0 bi bx t : Nat} {k m : ByteArray} {n : Int} (h : DkM w2 ad bm an af Sn Sf (idsK D.L) blk D.tp.length D) (k0 : Blk w2 n0 #[.pointer (some ⟨ad, 0, none⟩)] 23) (k1 : Blk w2 bi #[.int .i64 n] 3)
    (hbc : Below n0 w w2) (hn : n0 ≤ w2.heap.size) (hl : n0 ≤ bi) (hb : Below w2.heap.size w2 wx) (b2 : Blk wx bx #[.pointer (some ⟨t, 0, none⟩)] 79) (tap : Tap wx t k m) (hx : w2.heap.size ≤ bx) (ht : w2.heap.size ≤ t) :
    Cop w n0 ad bm an af Sn Sf blk D n bi bx t k m wx :=
  ⟨h.below hb, k0.onto hb, k1.onto hb, b2, tap, hbc.trans (hb.mono hn), hl, Nat.le_trans hn hx, Nat.le_trans hn ht⟩
theorem cop_a {w2 w5 : World} {n0 bi t : Nat} {k m : ByteArray} {n : Int} (h : DkM w2 ad bm an af Sn Sf (idsK D.L) blk D.tp.length D) (k0 : Blk w2 n0 #[.pointer (some ⟨ad, 0, none⟩)] 23) (k1 : Blk w2 bi #[.int .i64 n] 3)
    (hbc : Below n0 w w2) (hn : n0 ≤ w2.heap.size) (hl : n0 ≤ bi) (hb : Below (w2.alloc (.cells #[.pointer none] 79)).drew.heap.size (w2.alloc (.cells #[.pointer none] 79)).drew w5) (ht : Tap w5 t k m) (hg : (w2.alloc (.cells #[.pointer none] 79)).drew.heap.size ≤ t) :
    Cop w n0 ad bm an af Sn Sf blk D n bi w2.heap.size t k m (w5.setCell ⟨w2.heap.size, 0, none⟩ (.pointer (some ⟨t, 0, none⟩))) := by
  have hz : (w2.alloc (.cells #[.pointer none] 79)).drew.heap.size = w2.heap.size + 1 := by show (w2.alloc _).heap.size = _; simp
  rw [hz] at hb hg
  have hk : Blk w5 w2.heap.size #[.pointer none] 79 := (show Blk (w2.alloc (.cells #[.pointer none] 79)).drew w2.heap.size #[.pointer none] 79 from Blk.new w2 _ _).below hb (by omega)
  have hb0 : Below w2.heap.size w2 w5 := ((Below.refl w2.heap.size w2).alloc (Nat.le_refl _) _).drew.trans (hb.mono (by omega))
  exact cop_mk h k0 k1 hbc hn hl (hb0.setCell (Nat.le_refl _) _) (hk.set 0 _) (Tap.apart ht ((Apart.refl [w2.heap.size] w5).setCell (p := ⟨w2.heap.size, 0, none⟩) (.inl (by simp)) _) (fun g => by have := List.mem_singleton.1 g; omega)) (Nat.le_refl _) (by omega)
theorem cop_b {w2 w5 : World} {n0 bi t : Nat} {k m : ByteArray} {n : Int} (h : DkM w2 ad bm an af Sn Sf (idsK D.L) blk D.tp.length D) (k0 : Blk w2 n0 #[.pointer (some ⟨ad, 0, none⟩)] 23) (k1 : Blk w2 bi #[.int .i64 n] 3)
    (hbc : Below n0 w w2) (hn : n0 ≤ w2.heap.size) (hl : n0 ≤ bi) (hb : Below w2.drew.heap.size w2.drew w5) (ht : Tap w5 t k m) (hg : w2.drew.heap.size ≤ t) :
    Cop w n0 ad bm an af Sn Sf blk D n bi w5.heap.size t k m (w5.alloc (.cells #[.pointer (some ⟨t, 0, none⟩)] 79)) := by
  have hb0 : Below w2.heap.size w2 w5 := ⟨hb.os, hb.tape, hb.output, hb.size, hb.block⟩
  exact cop_mk h k0 k1 hbc hn hl (hb0.alloc hb0.size _) (Blk.new _ _ _) (Tap.below ht ((Below.refl _ _).alloc (Nat.le_refl _) _)) hb0.size hg
set_option maxRecDepth 100000 in
set_option maxHeartbeats 1600000 in
theorem dcut_yes (h : DkM w ad bm an af Sn Sf (idsK D.L) blk D.tp.length D) (hD : D.ok 199) (s : ByteArray) (hs : s.size ≤ maxLen) (m : Int) (ho : D.fu.off = false) {n : Int} (hf : findE (nowL D.L) s = some n) (hn : n ∈ idsK D.L) {X : Dsk} {c : Int}
    (hno : m < 0 ∨ ((D.t n).n.size : Int) < m → X = D ∧ c = 3) (hyes : ¬ (m < 0 ∨ ((D.t n).n.size : Int) < m) → Dsk.then (D.ask false) (fun E => E.set n ⟨(D.t n).k, (D.t n).n.extract 0 m.toNat⟩) = (X, c)) :
    Calls Tryz.prog 25 #[.pointer (some ⟨ad, 0, none⟩), .string s, .int .i64 m] w (UpdK w (dkS ad bm Sn Sf (idsK D.L) blk) ⟨ad, 0, none⟩ X (.int .i64 c)) := by
  have hlt := h.lt
  have HLT := Lib.hid hlt
  clear hlt
  obtain ⟨w0, hw0⟩ : ∃ w0, w0 = w.alloc (.cells #[.pointer (some ⟨ad, 0, none⟩)] 23) := ⟨_, rfl⟩
  have hb0 : Below w.heap.size w w0 := by rw [hw0]; exact (Below.refl _ w).alloc (Nat.le_refl _) _
  have k0 : Blk w0 w.heap.size #[.pointer (some ⟨ad, 0, none⟩)] 23 := by rw [hw0]; exact Blk.new w _ _
  have CR := Lib.hid (dfind_yes (h.below hb0) (Dsk.okL hD) ho s hs hf); have HB := Lib.hid hb0; have HI := Lib.hid h; have HD := Lib.hid hD; have HN := Lib.hid hn; have K0 := Lib.hid k0
  have hsz := (D.sec_le hD n).2
  have x0 := k0.cell 0 _ rfl
  obtain ⟨⟨tk, tn⟩, ht⟩ : ∃ t, D.t n = t := ⟨_, rfl⟩
  rw [ht] at hno hyes hsz
  have HT := Lib.hid ht; have HNO := Lib.hid hno; have HYES := Lib.hid hyes
  clear h hb0 k0 hD hn hf hno hyes ht
  subst hw0
  go_enter Tryz.func25, Tryz.ntmps25
  go_wp2_with fail
  refine CR.out.mono ?_
  rintro e w1 ⟨rfl, hb1⟩
  obtain ⟨w2, hw2⟩ : ∃ w2, w2 = w1.alloc (.cells #[.int .i64 n] 3) := ⟨_, rfl⟩
  have hb2 : Below w1.heap.size w1 w2 := by rw [hw2]; exact (Below.refl _ _).alloc (Nat.le_refl _) _
  have k1 : Blk w2 w1.heap.size #[.int .i64 n] 3 := by rw [hw2]; exact Blk.new _ _ _
  have k0 := (K0.out.onto hb1).onto hb2
  have hbb := HB.out.trans (hb1.mono HB.out.size)
  have hbc := hbb.trans (hb2.mono hbb.size)
  have hge : w.heap.size ≤ w1.heap.size := hbb.size
  have H2 := Lib.hid (HI.out.below hbc); have K0' := Lib.hid k0; have K1 := Lib.hid k1; have HW := Lib.hid hw2; have HBC := Lib.hid hbc; have HGE := Lib.hid hge
  clear hb1 hb2 hbb hbc k0 k1 hge
  go_upto_region 4 with fail
  rw [← HW.out]
  clear hw2
  go_cut [9] (fun u9 wx => ∃ bx t, u9 = .pointer (some ⟨bx, 0, none⟩) ∧ Cop w w.heap.size ad bm an af Sn Sf blk D n w1.heap.size bx t tk tn wx)
  case first =>
    have CC := Lib.hid (fun (W : World) (hW : Below w2.heap.size w2 W) => tcopy_yes (Tap.below (by have := H2.out.taps n HN.out; rw [HT.out] at this; exact this) hW))
    have y0 := (show Blk w2.drew w.heap.size #[.pointer (some ⟨ad, 0, none⟩)] 23 from K0'.out).cell 0 _ rfl
    have y1 := (show Blk w2.drew w1.heap.size #[.int .i64 n] 3 from K1.out).cell 0 _ rfl
    obtain ⟨d0, d1, d2, d3, d4, d5⟩ := H2.out.drew.cells
    have hlook := H2.out.drew.map.look HN.out
    have hba := (Below.refl w2.heap.size w2).alloc (Nat.le_refl _) (.cells #[.pointer none] 79)
    have z0 := (show Blk (w2.alloc (.cells #[.pointer none] 79)).drew w.heap.size #[.pointer (some ⟨ad, 0, none⟩)] 23 from K0'.out.alloc _).cell 0 _ rfl
    have z1 := (show Blk (w2.alloc (.cells #[.pointer none] 79)).drew w1.heap.size #[.int .i64 n] 3 from K1.out.alloc _).cell 0 _ rfl
    obtain ⟨f0, f1, f2, f3, f4, f5⟩ := (H2.out.below hba).drew.cells
    have hlook2 := (H2.out.below hba).drew.map.look HN.out
    have HBA := Lib.hid hba
    clear hba d0 d2 d3 d4 d5 f0 f2 f3 f4 f5
    go_region_with (go_at_call 36; refine (CC.out _ ?_).mono ?_; (first | exact (Below.refl _ _).drew | exact HBA.out.drew); rintro e w5 ⟨t, rfl, hgt, htt, hb5⟩; (try (have hbk : Blk w5 w2.heap.size #[.pointer none] 79 := (show Blk (w2.alloc (.cells #[.pointer none] 79)).drew w2.heap.size #[.pointer none] 79 from Blk.new w2 _ _).onto hb5; have u0 := hbk.cell 0 _ rfl; have s0 := hbk.free 0; clear hbk)); have HB5 := Lib.hid hb5; have HT5 := Lib.hid htt; have HG5 := Lib.hid hgt; clear hb5 htt hgt)
    all_goals
      go_wp2_with fail
      go_meet
      first
        | exact ⟨_, _, rfl, cop_a H2.out K0'.out K1.out HBC.out HBC.out.size HGE.out HB5.out HT5.out HG5.out⟩
        | exact ⟨_, _, rfl, cop_b H2.out K0'.out K1.out HBC.out HBC.out.size HGE.out HB5.out HT5.out HG5.out⟩
  case rest =>
    obtain ⟨bx, t, rfl, hc⟩ := hcut
    have e2 := hc.b2.cell 0 _ rfl
    have HC := Lib.hid hc
    clear hc
    by_cases hm : m < 0 ∨ (tn.size : Int) < m
    · obtain ⟨rfl, rfl⟩ := HNO.out hm
      have CT := Lib.hid (tcut_no HC.out.tap m hm)
      clear hm
      go_wp2_with (go_at_call 81; refine CT.out.mono ?_; rintro e w6 ⟨rfl, htt, haa⟩; have HT6 := Lib.hid htt; have HA6 := Lib.hid haa; clear htt haa)
      go_ret
      exact upd_same HI.out.is (HC.out.turn HLT.out (Nat.le_refl _) HT6.out HA6.out).bel _
    · obtain ⟨q, rfl⟩ : ∃ q : Nat, m = q := ⟨m.toNat, by omega⟩
      have hq : q ≤ tn.size := by omega
      have hyes := HYES.out hm
      rw [show ((q : Int)).toNat = q from by omega] at hyes
      have HY := Lib.hid hyes
      have CT := Lib.hid (tcut_yes HC.out.tap (by omega) q hq)
      clear hm hyes
      go_wp2_with fail
      refine CT.out.mono ?_
      rintro e w6 ⟨rfl, htt, haa⟩
      have hd := HC.out.turn HLT.out (Nat.le_refl _) htt haa
      have CP := dput_of (g := 82) (pre := #[]) (post := #[.pointer (some ⟨bx, 0, none⟩), .pointer (some ⟨w.heap.size, 0, none⟩), .pointer (some ⟨w1.heap.size, 0, none⟩)]) hd.dk HD.out eCut (fun E => E.set n ⟨tk, tn.extract 0 q⟩) w.heap.size hd.bel.size (fun w3 Sf1 h3 ha3 hs3 =>
        dcut_c (D := (D.ask false).1) (B := w.heap.size) h3 (ids_few (M := 199) (D := D) HD.out (by omega)) HN.out (Tap.apart hd.tap ha3 (hd.far HLT.out t hd.l3))
          (fun g => by
            rcases ask_S (ad := ad) (bm := bm) (Sn := Sn) (ids := idsK D.L) (blk := blk) hs3 t g with g | g
            · exact hd.far HLT.out t hd.l3 g
            · have := Tap3.lt hd.tap; omega) hd.l3
          ((ha3.cell (p := ⟨bx, 0, none⟩) hd.b2.lt (hd.far HLT.out bx hd.l2)).trans (hd.b2.cell 0 _ rfl))
          ((ha3.cell (p := ⟨w.heap.size, 0, none⟩) hd.b0.lt (hd.far HLT.out w.heap.size (Nat.le_refl _))).trans (hd.b0.cell 0 _ rfl))
          ((ha3.cell (p := ⟨w1.heap.size, 0, none⟩) hd.b1.lt (hd.far HLT.out w1.heap.size hd.l1)).trans (hd.b1.cell 0 _ rfl)))
      rw [HY.out] at CP
      have CP := Lib.hid CP; have HD6 := Lib.hid hd
      have g0 := hd.b0.cell 0 _ rfl
      clear hd htt haa
      go_wp2_with (go_at_call 39; refine CP.out.mono ?_; rintro e w9 ⟨rfl, hE⟩; have HE := Lib.hid hE; clear hE)
      go_ret
      exact upd_from HD6.out.bel ⟨rfl, HE.out⟩
end
end Go.Proofs.YtfgecjlccngddaaGreat
