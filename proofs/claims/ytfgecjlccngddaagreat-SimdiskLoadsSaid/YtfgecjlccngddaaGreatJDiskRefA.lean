/-
  Joined: DiskRef, DiskRef2, DiskRef3, DiskRef4.
-/
import Derived.Test.YtfgecjlccngddaaGreatJDiskMath
import Derived.Test.YtfgecjlccngddaaGreatJBlk
import Derived.Test.YtfgecjlccngddaaGreatJTitleRef
import Derived.Deep.RegionHeld3
import Derived.OwnWalk
import Derived.Laws.AppendOwn
import Derived.Laws.AppendOwnNone
namespace Go.Proofs.YtfgecjlccngddaaGreat
set_option linter.unusedSimpArgs false
set_option linter.unusedVariables false
open Go.RowKit
set_option linter.unusedVariables false

/-- The cells of a disk. -/
abbrev dskC (sec : Int) (a : Option Addr) (n c : Nat) (aL : Option Addr) (nL cL : Nat) (f : Fus) (calls : Int) : Array Value :=
  #[.int .i64 sec, .slice a n c, .slice aL nL cL, .int .i64 f.p, .int .i64 f.s, .int .i64 f.d, .bool f.off, .int .i64 calls]
abbrev dskV (sec : Int) (a : Option Addr) (n c : Nat) (aL : Option Addr) (nL cL : Nat) (f : Fus) (calls : Int) : Value := .agg (dskC sec a n c aL nL cL f calls)
abbrev dskZ : Array Value := #[.int .i64 0, .slice none 0 0, .slice none 0 0, .int .i64 0, .int .i64 0, .int .i64 0, .bool false, .int .i64 0]
/-- A value that is this disk. -/
def IsD (w : World) (P : Nat → Prop) (v : Value) (D : Dsk) : Prop :=
  ∃ a c aL cL, v = dskV D.sec a D.tp.length c aL D.L.length cL D.fu D.calls ∧ Tps w P a D.tp ∧ LLs w P aL D.L ∧ (a = none → c = 0)
theorem IsD.keep {w w' : World} {P : Nat → Prop} {v : Value} {D : Dsk} (h : IsD w P v D) (hk : ∀ p : Addr, P p.block → w'.cell? p = w.cell? p) : IsD w' P v D := by
  obtain ⟨a, c, aL, cL, e, h1, h2, h3⟩ := h
  exact ⟨a, c, aL, cL, e, h1.keep hk, h2.keep hk, h3⟩
theorem IsD.below {w w' : World} {P : Nat → Prop} {N : Nat} {v : Value} {D : Dsk} (h : IsD w P v D) (hN : ∀ b, P b → b < N) (hb : Below N w w') : IsD w' P v D := h.keep fun _ hp => hb.cell (hN _ hp)
theorem IsD.more {w : World} {P P' : Nat → Prop} {v : Value} {D : Dsk} (h : IsD w P v D) (hP : ∀ b, P b → P' b) : IsD w P' v D := by
  obtain ⟨a, c, aL, cL, e, h1, h2, h3⟩ := h
  exact ⟨a, c, aL, cL, e, h1.more hP, h2.more hP, h3⟩
def RetD (w : World) (P : Nat → Prop) (D : Dsk) (e : Ending) (w' : World) : Prop := ∃ v, e = .returned v ∧ IsD w' (Grow P w.heap.size w'.heap.size) v D ∧ Below w.heap.size w w'
def RetDE (w : World) (P : Nat → Prop) (r : Dsk × Int) (e : Ending) (w' : World) : Prop := ∃ v, e = .returned (.tuple #[v, .int .i64 r.2]) ∧ IsD w' (Grow P w.heap.size w'.heap.size) v r.1 ∧ Below w.heap.size w w'
/-- A disk whose parts are of the first world. -/
theorem isD_mk {w W' : World} {P : Nat → Prop} {D : Dsk} {a aL : Option Addr} {n c nL cL : Nat} (hP : ∀ b, P b → b < w.heap.size) (hT : Tps w P a D.tp) (hL : LLs w P aL D.L) (hn : D.tp.length = n) (hl : D.L.length = nL) (hz : a = none → c = 0) (hF : Below w.heap.size w W') :
    IsD W' (Grow P w.heap.size W'.heap.size) (dskV D.sec a n c aL nL cL D.fu D.calls) D :=
  ⟨a, c, aL, cL, by rw [hn, hl], (hT.below hP hF).more fun b hb => .inl hb, (hL.below hP hF).more fun b hb => .inl hb, hz⟩
theorem retDE_mk {w W' : World} {P : Nat → Prop} {D : Dsk} {a aL : Option Addr} {n c nL cL : Nat} {v : Int} (hP : ∀ b, P b → b < w.heap.size) (hT : Tps w P a D.tp) (hL : LLs w P aL D.L) (hn : D.tp.length = n) (hl : D.L.length = nL) (hz : a = none → c = 0) (hF : Below w.heap.size w W') :
    RetDE w P (D, v) (.returned (.tuple #[dskV D.sec a n c aL nL cL D.fu D.calls, .int .i64 v])) W' := ⟨_, rfl, isD_mk hP hT hL hn hl hz hF, hF⟩
/-- Eight cells and their marks. -/
theorem Blk.eight {w : World} {b : Nat} {x0 x1 x2 x3 x4 x5 x6 x7 : Value} {t : TypeId} (h : Blk w b #[x0, x1, x2, x3, x4, x5, x6, x7] t) :
    w.cell? ⟨b, 0, none⟩ = some x0 ∧ w.cell? ⟨b, 1, none⟩ = some x1 ∧ w.cell? ⟨b, 2, none⟩ = some x2 ∧ w.cell? ⟨b, 3, none⟩ = some x3 ∧ w.cell? ⟨b, 4, none⟩ = some x4 ∧ w.cell? ⟨b, 5, none⟩ = some x5 ∧ w.cell? ⟨b, 6, none⟩ = some x6 ∧ w.cell? ⟨b, 7, none⟩ = some x7 ∧
    w.frozen? ⟨b, 0, none⟩ = false ∧ w.frozen? ⟨b, 1, none⟩ = false ∧ w.frozen? ⟨b, 2, none⟩ = false ∧ w.frozen? ⟨b, 3, none⟩ = false ∧ w.frozen? ⟨b, 4, none⟩ = false ∧ w.frozen? ⟨b, 5, none⟩ = false ∧ w.frozen? ⟨b, 6, none⟩ = false ∧ w.frozen? ⟨b, 7, none⟩ = false :=
  ⟨h.cell 0 _ rfl, h.cell 1 _ rfl, h.cell 2 _ rfl, h.cell 3 _ rfl, h.cell 4 _ rfl, h.cell 5 _ rfl, h.cell 6 _ rfl, h.cell 7 _ rfl, h.free 0, h.free 1, h.free 2, h.free 3, h.free 4, h.free 5, h.free 6, h.free 7⟩

set_option maxRecDepth 100000 in
set_option maxHeartbeats 400000 in
/-- The number of a name. -/
theorem rdfind_any {M : Nat} {D : Dsk} (hD : D.ok M) (hM : M ≤ 1000) (a : Option Addr) (n c : Nat) (aL : Option Addr) (cL : Nat) (s : ByteArray) (P : Nat → Prop) (w : World) (hP : ∀ b, P b → b < w.heap.size) (hL : LLs w P aL D.L) :
    Calls Tryz.prog 107 #[dskV D.sec a n c aL D.L.length cL D.fu D.calls, .string s] w fun e w' => e = .returned (.int .i64 (D.id s)) ∧ Below w.heap.size w w' := by
  have hb : Below w.heap.size w (w.alloc (.cells (dskC D.sec a n c aL D.L.length cL D.fu D.calls) 34)) := (Below.refl _ _).alloc (Nat.le_refl _) _
  have c1 := rnow9_any aL D.L cL P _ (hL.below hP hb) (fun b h => Nat.lt_of_lt_of_le (hP b h) hb.size) hD.2.2.1.1 (by have := hD.2.2.1.2.1; omega)
  have hl : (nowL D.L).length ≤ 1000000 := by have := hD.2.2.1.2.2 _ (nowL_mem hD.2.2.1.1); omega
  have c2 := fun (W : World) (a1 : Option Addr) (k1 : Nat) (h : Ents W P a1 (nowL D.L)) => rfind9_any a1 (nowL D.L) k1 s P W h hl
  have he : D.id s = (findE (nowL D.L) s).getD 0 := rfl
  rw [he]
  have C1 := Lib.hid c1; have C2 := Lib.hid c2; have HB := Lib.hid hb
  clear c1 c2 hb he hl hL
  go_enter Tryz.func107, Tryz.ntmps107
  go_wp2_with fail
  refine C1.out.mono ?_
  rintro e w1 ⟨a1, k1, rfl, h1, hb1⟩
  have hb2 := HB.out.trans (hb1.mono HB.out.size)
  have H1 := Lib.hid h1; have HB2 := Lib.hid hb2
  clear h1 hb1 hb2
  go_wp2_with fail
  refine (C2.out _ _ _ H1.out).mono ?_
  rintro e w2 ⟨rfl, rfl⟩
  go_wp2
  go_ret
  exact ⟨rfl, HB2.out⟩

/-- Behind the parameter's box and the result's block. -/
theorem dk_start (w : World) (C : Array Value) (t : TypeId) :
    Below w.heap.size w ((w.alloc (.cells C t)).alloc (.cells dskZ t)) ∧ Blk ((w.alloc (.cells C t)).alloc (.cells dskZ t)) w.heap.size C t ∧ Blk ((w.alloc (.cells C t)).alloc (.cells dskZ t)) (w.heap.size + 1) dskZ t := by
  refine ⟨((Below.refl _ _).alloc (Nat.le_refl _) _).alloc (by simp) _, (Blk.new w C t).alloc _, ?_⟩
  have := Blk.new (w.alloc (.cells C t)) dskZ t
  simpa using this
set_option maxRecDepth 100000 in
set_option maxHeartbeats 800000 in
/-- The fuse is asked. -/
theorem rdask_any {M : Nat} {D : Dsk} (hD : D.ok M) (hM : M ≤ 1000) (a : Option Addr) (c : Nat) (aL : Option Addr) (cL : Nat) (sync : Bool) (P : Nat → Prop) (w : World) (hP : ∀ b, P b → b < w.heap.size) (hT : Tps w P a D.tp) (hL : LLs w P aL D.L) (hz : a = none → c = 0) :
    Calls Tryz.prog 108 #[dskV D.sec a D.tp.length c aL D.L.length cL D.fu D.calls, .bool sync] w (RetDE w P (D.ask sync)) := by
  obtain ⟨h1, h2, h3⟩ := dk_start w (dskC D.sec a D.tp.length c aL D.L.length cL D.fu D.calls) 34
  have hc : 0 ≤ D.calls ∧ D.calls ≤ 1000 := by have := hD.2.2.2.2.2.2; omega
  have cc := fun W => rfcall_any D.fu hD.2.2.2.2.2.1 sync W
  have T := Lib.hid hT; have L := Lib.hid hL
  have H1 := Lib.hid h1; have H2 := Lib.hid h2; have H3 := Lib.hid h3
  obtain ⟨a0, a1, a2, a3, a4, a5, a6, a7, g0, g1, g2, g3, g4, g5, g6, g7⟩ := h2.eight
  obtain ⟨r, hr⟩ : ∃ r, D.fu.call sync = r := ⟨_, rfl⟩
  have hask : D.ask sync = (⟨D.sec, D.tp, D.L, r.1, D.calls + 1⟩, r.2) := by unfold Dsk.ask; rw [hr]
  rw [hask]
  rw [hr] at cc
  obtain ⟨⟨p, s, d, off⟩, v⟩ := r
  obtain ⟨sec, tp, LL, ⟨p0, s0, d0, off0⟩, k⟩ := D
  simp only at *
  have CC := Lib.hid cc
  clear hT hL h1 h2 h3 cc hr hask hD
  obtain ⟨nt, hnt⟩ : ∃ n, tp.length = n := ⟨_, rfl⟩
  obtain ⟨nl, hnl⟩ : ∃ n, LL.length = n := ⟨_, rfl⟩
  rw [hnt, hnl] at H1 H2 H3 a0 a1 a2 a3 a4 a5 a6 a7 g0 g1 g2 g3 g4 g5 g6 g7 ⊢
  have NT := Lib.hid hnt; have NL := Lib.hid hnl
  clear hnt hnl
  go_enter Tryz.func108, Tryz.ntmps108
  go_wp2_with fail
  refine (CC.out _).mono ?_
  rintro e w2 ⟨rfl, hb⟩
  have hX := H1.out.trans (hb.mono H1.out.size)
  obtain ⟨b0, b1, b2, b3, b4, b5, b6, b7, q0, q1, q2, q3, q4, q5, q6, q7⟩ := (H2.out.onto hb).eight
  obtain ⟨c0, c1, c2, c3, c4, c5, c6, c7, r0, r1, r2, r3, r4, r5, r6, r7⟩ := (H3.out.onto hb).eight
  have HX := Lib.hid hX
  obtain ⟨lt0, lt1⟩ : w.heap.size < w2.heap.size ∧ w.heap.size + 1 < w2.heap.size := by have := hb.size; simp at this; omega
  clear a0 a1 a2 a3 a4 a5 a6 a7 g0 g1 g2 g3 g4 g5 g6 g7 hb hX
  go_wp2
  refine bodyPost_ret (v := .tuple #[dskV sec a nt c aL nl cL ⟨p, s, d, off⟩ (k + 1), .int .i64 v]) (by simp [results, Tryz.results108, go_sem, lt1, c0, c1, c2, c3, c4, c5, c6, c7]) rfl ?_
  refine retDE_mk (D := ⟨sec, tp, LL, ⟨p, s, d, off⟩, k + 1⟩) hP T.out L.out NT.out NL.out hz ?_
  refine Below.alloc ?_ (by simpa using HX.out.size) _
  iterate 13 refine Below.setCell ?_ (by simp) _
  exact HX.out
end Go.Proofs.YtfgecjlccngddaaGreat
namespace Go.Proofs.YtfgecjlccngddaaGreat
set_option linter.unusedSimpArgs false
set_option linter.unusedVariables false
open Go.RowKit
set_option linter.unusedVariables false

theorem Tps.get {w : World} {B : Nat → Prop} {a : Option Addr} {l : List Tp} (h : Tps w B a l) (i : Int) (h1 : 1 ≤ i) (h2 : i ≤ l.length) :
    ∃ (ad : Addr) (m : Nat), a = some ad ∧ i = (m : Int) + 1 ∧ m < l.length ∧ B ad.block ∧ w.cell? (ad.add (m * 2)) = some (.string (l.getD (i - 1).toNat Tp.none).k) ∧ w.cell? ⟨(ad.add (m * 2)).block, (ad.add (m * 2)).off + 1, none⟩ = some (.string (l.getD (i - 1).toNat Tp.none).n) := by
  obtain ⟨m, rfl⟩ : ∃ m : Nat, i = (m : Int) + 1 := ⟨(i - 1).toNat, by omega⟩
  have hm : m < l.length := by omega
  obtain ⟨ad, rfl, hb, q0, q1⟩ := h m hm
  have e : l.getD ((m : Int) + 1 - 1).toNat Tp.none = l[m] := by
    rw [show ((m : Int) + 1 - 1).toNat = m by omega, List.getD_eq_getElem?_getD, List.getElem?_eq_getElem hm]
    rfl
  rw [e]
  exact ⟨ad, m, rfl, rfl, hm, hb, q0, q1⟩
/-- Four cells that a region reads, whatever its callees make. -/
def Four (w1 : World) (p1 p2 p3 p4 : Addr) (v1 v2 v3 v4 : Value) (w' : World) : Prop :=
  Below w1.heap.size w1 w' ∧ w'.cell? p1 = some v1 ∧ w'.cell? p2 = some v2 ∧ w'.cell? p3 = some v3 ∧ w'.cell? p4 = some v4
theorem four_mk {w1 w' : World} {p1 p2 p3 p4 : Addr} {v1 v2 v3 v4 : Value} (h : Below w1.heap.size w1 w') (h1 : w1.cell? p1 = some v1) (h2 : w1.cell? p2 = some v2) (h3 : w1.cell? p3 = some v3) (h4 : w1.cell? p4 = some v4)
    (l1 : p1.block < w1.heap.size) (l2 : p2.block < w1.heap.size) (l3 : p3.block < w1.heap.size) (l4 : p4.block < w1.heap.size) : Four w1 p1 p2 p3 p4 v1 v2 v3 v4 w' :=
  ⟨h, (h.cell l1).trans h1, (h.cell l2).trans h2, (h.cell l3).trans h3, (h.cell l4).trans h4⟩
theorem cell_lt {w : World} {p : Addr} {v : Value} (h : w.cell? p = some v) : p.block < w.heap.size := World.block_lt_of_cell? w _ h
theorem four_start {w1 w' : World} {p1 p2 p3 p4 : Addr} {v1 v2 v3 v4 : Value} (h : Below w1.heap.size w1 w') (h1 : w1.cell? p1 = some v1) (h2 : w1.cell? p2 = some v2) (h3 : w1.cell? p3 = some v3) (h4 : w1.cell? p4 = some v4) :
    Four w1 p1 p2 p3 p4 v1 v2 v3 v4 w' := four_mk h h1 h2 h3 h4 (cell_lt h1) (cell_lt h2) (cell_lt h3) (cell_lt h4)
theorem four_on {w1 w' w2 : World} {p1 p2 p3 p4 : Addr} {v1 v2 v3 v4 : Value} (h : Four w1 p1 p2 p3 p4 v1 v2 v3 v4 w') (hb : Below w'.heap.size w' w2) : Four w1 p1 p2 p3 p4 v1 v2 v3 v4 w2 := by
  obtain ⟨h0, h1, h2, h3, h4⟩ := h
  exact ⟨h0.trans (hb.mono h0.size), (hb.cell (cell_lt h1)).trans h1, (hb.cell (cell_lt h2)).trans h2, (hb.cell (cell_lt h3)).trans h3, (hb.cell (cell_lt h4)).trans h4⟩
set_option maxRecDepth 100000 in
set_option maxHeartbeats 1600000 in
/-- The sectors that are not taken. -/
theorem rdfree_any {M : Nat} {D : Dsk} (hD : D.ok M) (hM : M ≤ 200) (a : Option Addr) (c : Nat) (aL : Option Addr) (cL : Nat) (P : Nat → Prop) (w : World) (hP : ∀ b, P b → b < w.heap.size) (hT : Tps w P a D.tp) (hL : LLs w P aL D.L) :
    Calls Tryz.prog 62 #[dskV D.sec a D.tp.length c aL D.L.length cL D.fu D.calls] w fun e w' => e = .returned (.int .i64 D.free) ∧ Below w.heap.size w w' := by
  have hb : Below w.heap.size w (w.alloc (.cells (dskC D.sec a D.tp.length c aL D.L.length cL D.fu D.calls) 34)) := (Below.refl _ _).alloc (Nat.le_refl _) _
  have c1 := rids9_any aL D.L cL P _ (fun b h => Nat.lt_of_lt_of_le (hP b h) hb.size) (hL.below hP hb) (by have := hD.2.2.1.2.1; omega) (fun l hl => by have := hD.2.2.1.2.2 l hl; omega)
  have hz : D.leftK 0 = D.sec := rfl
  have hfree : D.free = D.leftK (idsK D.L).length := rfl
  have hsucc := D.leftK_succ
  have his := D.leftK_is hD
  have hin := D.ids_is hD
  have hts := D.t_size hD
  have hlen := D.ids_len hD
  have hlen2 : (M + 1) * M ≤ 201 * 200 := Nat.mul_le_mul (by omega) hM
  have hsec := hD.1
  have hnT : D.tp.length ≤ 200 := Nat.le_trans hD.2.1 hM
  obtain ⟨N, hN⟩ : ∃ N, (idsK D.L).length = N := ⟨_, rfl⟩
  rw [hfree]
  rw [hN] at hlen his ⊢
  have hN2 : N ≤ 40200 := by omega
  have C1 := Lib.hid c1; have HB := Lib.hid hb; have HZ := Lib.hid hz; have HS := Lib.hid hsucc; have HI := Lib.hid his; have HIN := Lib.hid hin; have HTS := Lib.hid hts; have HN := Lib.hid hN; have HT := Lib.hid hT
  have hbl := Blk.new w (dskC D.sec a D.tp.length c aL D.L.length cL D.fu D.calls) 34
  have HBL := Lib.hid hbl
  clear c1 hb hz hsucc his hin hts hfree hlen hlen2 hT hL hbl hN
  go_enter Tryz.func62, Tryz.ntmps62
  go_wp2_with fail
  refine C1.out.mono ?_
  rintro e w1 ⟨ai, ci, rfl, hi, hb1⟩
  have hX := HB.out.trans (hb1.mono HB.out.size)
  have HX := Lib.hid hX
  have hbl1 := HBL.out.onto hb1
  have HBL1 := Lib.hid hbl1
  rw [HN.out]
  have HI1 := Lib.hid hi
  clear hi hb1 hX hbl1
  go_wp2
  go_loopw [3, 5] (fun v i wr => ∃ k : Nat, k ≤ N ∧ i = .int .i64 k ∧ v = .int .i64 (D.leftK k) ∧ Below w1.heap.size w1 wr) (fun _ i _ => N - (intOf i).toNat)
  case atStart => exact ⟨0, Nat.zero_le _, rfl, by rw [HZ.out], Below.refl _ _⟩
  case round =>
    obtain ⟨k, hk, rfl, rfl, hbel⟩ := hrel
    by_cases hlt : k < N
    · have hkl : k < (idsK D.L).length := by rw [HN.out]; exact hlt
      obtain ⟨adI, rfl, hIb, hIc⟩ := HI1.out k hkl
      obtain ⟨q0, q1⟩ := HIN.out k hkl
      have hs1 := HS.out k hkl
      have hs2 := HI.out k (by omega)
      have hs3 := HI.out (k + 1) (by omega)
      obtain ⟨id, hid⟩ : ∃ id, (idsK D.L)[k]'hkl = id := ⟨_, rfl⟩
      rw [hid] at hIc q0 q1 hs1
      have hsz := HTS.out id q0 q1
      have htt : D.t id = D.tp.getD (id - 1).toNat Tp.none := rfl
      obtain ⟨ad, m, rfl, rfl, hm, hadb, t0, t1⟩ := (HT.out.below hP HX.out).get id q0 q1
      rw [← htt] at t0 t1
      obtain ⟨t, ht⟩ : ∃ t, D.t ((m : Int) + 1) = t := ⟨_, rfl⟩
      rw [ht] at t0 t1 hs1 hsz
      obtain ⟨tk, tn⟩ := t
      simp only at t0 t1 hsz
      have cs := fun W => rtsectors_any tk tn (by omega) (by omega) W
      obtain ⟨sc, hsc⟩ : ∃ sc, cntN (max tk.size tn.size) = sc := ⟨_, rfl⟩
      have hs1' : D.leftK (k + 1) = D.leftK k - (sc : Int) := by rw [hs1, ← hsc]; rfl
      rw [hsc] at cs
      have hcl := cntN_le (max tk.size tn.size)
      rw [hsc] at hcl
      rw [hs1'] at hs3
      obtain ⟨lk, hlk⟩ : ∃ lk, D.leftK k = lk := ⟨_, rfl⟩
      rw [hlk] at hs1' hs2 hs3 ⊢
      have hlow : (200 : Int) * M * k ≤ 200 * 200 * 40200 := by
        have h1 : M * k ≤ 200 * 40200 := Nat.mul_le_mul hM (by omega)
        have h2 : (200 : Int) * M * k = 200 * ((M * k : Nat) : Int) := by rw [Int.mul_assoc]; rfl
        rw [h2]
        omega
      have hb1 : sc ≤ 1000000 := by omega
      have hlk2 : -10000000000 ≤ lk ∧ lk ≤ 4096 := by omega
      have hadN := hP _ hadb
      have HS1 := Lib.hid hs1'; have CS := Lib.hid cs
      have hf : Four w1 ⟨w.heap.size, 1, none⟩ (adI.add k) (ad.add (m * 2)) ⟨(ad.add (m * 2)).block, (ad.add (m * 2)).off + 1, none⟩ (.slice (some ad) D.tp.length c) (.int .i64 ((m : Int) + 1)) (.string tk) (.string tn) wr.drew :=
        four_start hbel.drew (HBL1.out.cell 1 _ rfl) hIc t0 t1
      have HF := Lib.hid hf
      obtain ⟨nt, hnt⟩ : ∃ nt, D.tp.length = nt := ⟨_, rfl⟩
      rw [hnt] at hm q1 HF
      have d0 : (0 : Int) ≤ (k : Int) := by omega
      have d1 : (k : Int) < (N : Int) := by omega
      have d2 : (0 : Int) ≤ (m : Int) := by omega
      have d3 : (m : Int) < (nt : Int) := by omega
      have y1 : IntKind.i64.wrap ((m : Int) + 1 - 1) = (m : Int) := by rw [show (m : Int) + 1 - 1 = (m : Int) by omega]; exact IntWalk.i64_in _ (by omega)
      have y3 : IntKind.i64.wrap (m : Int) = (m : Int) := IntWalk.i64_in _ (by omega)
      have y2 : IntKind.i64.wrap (lk - (sc : Int)) = lk - (sc : Int) := IntWalk.i64_in _ (by omega)
      clear hid hs1 hs2 hs3 htt t0 t1 ht hsc hs1' hcl hlk hlow hbel hf cs hIc hsz hnt hIb hadb
      go_wp2_with fail
      go_region_held3 (fun w' => Below w1.heap.size w1 w' ∧ w'.cell? ⟨w.heap.size, 1, none⟩ = some (.slice (some ad) nt c) ∧ w'.cell? (adI.add k) = some (.int .i64 ((m : Int) + 1)) ∧ w'.cell? (ad.add (m * 2)) = some (.string tk) ∧ w'.cell? ⟨(ad.add (m * 2)).block, (ad.add (m * 2)).off + 1, none⟩ = some (.string tn))
        (first | exact HF.out | exact four_on (by assumption) hb2)
        ((go_at_call 120; refine (CS.out _).mono ?_; rintro e w3 ⟨rfl, hb2⟩; have HF3 := Lib.hid (four_on HF.out hb2)))
      go_wp2
      refine ⟨⟨k + 1, by omega, by go_num, by rw [HS1.out], HF3.out.1⟩, by simp [intOf]; omega⟩
    · obtain rfl : k = N := by omega
      have HBEL := Lib.hid hbel
      clear hbel
      go_wp2
      go_ret
      exact ⟨rfl, HX.out.trans (HBEL.out.mono HX.out.size)⟩

theorem tape_info : (Tryz.prog.info? 104).map (fun i => (i.zero, i.size, i.bytes)) = some (some (.agg #[.string ByteArray.empty, .string ByteArray.empty]), 2, 32) := by kernel_rfl
/-- A row that reads as these, cell by cell. -/
theorem tps_flat {w : World} {B : Nat → Prop} {ad : Addr} {l : List Tp} (h : Tps w B (some ad) l) : ∀ j u, (Tp.flat l)[j]? = some u → w.cell? (ad.add j) = some u := by
  intro j u hj
  have hjl : j < l.length * 2 := by rw [← Tp.flat_len]; exact (List.getElem?_eq_some_iff.1 hj).1
  obtain ⟨k, hkj⟩ : ∃ k, j = k * 2 ∨ j = k * 2 + 1 := ⟨j / 2, by omega⟩
  have hk : k < l.length := by omega
  obtain ⟨ad', e, _, q0, q1⟩ := h k hk
  obtain rfl : ad = ad' := by simpa using e
  obtain ⟨f0, f1⟩ := Tp.flat_get l k hk
  rcases hkj with rfl | rfl
  · rw [f0] at hj
    obtain rfl : Value.string l[k].k = u := by simpa using hj
    exact q0
  · rw [f1] at hj
    obtain rfl : Value.string l[k].n = u := by simpa using hj
    have e2 : ad.add (k * 2 + 1) = (⟨(ad.add (k * 2)).block, (ad.add (k * 2)).off + 1, none⟩ : Addr) := by
      unfold Addr.add
      by_cases hk0 : k * 2 = 0 <;> simp [hk0] <;> omega
    rw [e2]; exact q1
theorem tps_one (l : List Tp) : ∀ u ∈ Tp.flat l, u.oneCell' = true := by
  intro u hu
  unfold Tp.flat at hu
  obtain ⟨x, _, hx⟩ := List.mem_flatMap.1 hu
  simp at hx
  rcases hx with rfl | rfl <;> rfl

/-- The end of a call that answers a disk with a row of its own. -/
theorem retD_mk {w W' : World} {P : Nat → Prop} {D : Dsk} {a aL : Option Addr} {n c nL cL : Nat} (hP : ∀ b, P b → b < w.heap.size) (hF : Below w.heap.size w W') (hL : LLs w P aL D.L) (hn : D.tp.length = n) (hl : D.L.length = nL) (hz : a = none → c = 0)
    (hT : Tps W' (Grow P w.heap.size W'.heap.size) a D.tp) : RetD w P D (.returned (dskV D.sec a n c aL nL cL D.fu D.calls)) W' :=
  ⟨_, rfl, ⟨a, c, aL, cL, by rw [hn, hl], hT, (hL.below hP hF).more fun b hb => .inl hb, hz⟩, hF⟩
theorem own_some {w : World} {base n size : Nat} {e : TypeId} {v : Value} {xs : List Value} (h : w.ownsRow base e size v n xs) (hn : 0 < n) :
    ∃ g cap cur, v = .slice (some ⟨g, 0, none⟩) n cap ∧ base ≤ g ∧ g < w.heap.size ∧ Blk w g cur e ∧ ∀ j u, xs[j]? = some u → w.cell? ⟨g, j, none⟩ = some u := by
  obtain ⟨h0, h⟩ := h
  have h2 := h
  rcases h with ⟨_, h1⟩ | ⟨g, cap, cur, rfl, hg, hb, q⟩
  · omega
  · refine ⟨g, cap, cur, rfl, hg, lt_of_block hb, hb, fun j u hj => ?_⟩
    have := World.ownsRow.cells (g := g) (⟨h0, h2⟩ : w.ownsRow base e size _ n xs) rfl j u hj
    have ea : (⟨g, 0, none⟩ : Addr).add j = ⟨g, j, none⟩ := by unfold Addr.add; split <;> simp_all
    rw [ea] at this
    exact this
theorem Tps.setO {w : World} {B : Nat → Prop} {a : Option Addr} {l : List Tp} (h : Tps w B a l) (p : Addr) (hp : ¬ B p.block) (u : Value) : Tps (w.setCell p u) B a l :=
  h.keep fun q hq => World.cell?_setCell_other _ _ _ _ (fun e => hp (by rw [e]; exact hq))
/-- A tape put into its row. -/
theorem tps_put {w : World} {B : Nat → Prop} {g : Nat} {l : List Tp} (h : Tps w B (some ⟨g, 0, none⟩) l) (m : Nat) (t : Tp) (hm : m < l.length) :
    Tps ((w.setCell ⟨g, m * 2, none⟩ (.string t.k)).setCell ⟨g, m * 2 + 1, none⟩ (.string t.n)) B (some ⟨g, 0, none⟩) (l.set m t) := fun k hk => by
  rw [List.length_set] at hk
  obtain ⟨ad, e, hb, q0, q1⟩ := h k hk
  obtain rfl : (⟨g, 0, none⟩ : Addr) = ad := by simpa using e
  refine ⟨_, rfl, hb, ?_⟩
  have ea : (⟨g, 0, none⟩ : Addr).add (k * 2) = ⟨g, k * 2, none⟩ := by unfold Addr.add; split <;> simp_all
  rw [ea] at q0 q1 ⊢
  simp only at q1 ⊢
  obtain ⟨ad2, e2, _, r0, r1⟩ := h m hm
  obtain rfl : (⟨g, 0, none⟩ : Addr) = ad2 := by simpa using e2
  have eb : (⟨g, 0, none⟩ : Addr).add (m * 2) = ⟨g, m * 2, none⟩ := by unfold Addr.add; split <;> simp_all
  rw [eb] at r0 r1
  simp only at r1
  by_cases hkm : k = m
  · subst hkm
    rw [List.getElem_set_self]
    constructor
    · rw [World.cell?_setCell_other _ _ _ _ (by simp), World.cell?_setCell_same' _ _ _ (by rw [r0]; rfl)]
    · rw [World.cell?_setCell_same' _ _ _ (by rw [World.cell?_setCell_other _ _ _ _ (by simp), r1]; rfl)]
  · rw [List.getElem_set_ne (fun e => hkm e.symm)]
    constructor
    · rw [World.cell?_setCell_other _ _ _ _ (fun e => by simp at e <;> omega), World.cell?_setCell_other _ _ _ _ (fun e => by simp at e <;> omega), q0]
    · rw [World.cell?_setCell_other _ _ _ _ (fun e => by simp at e <;> omega), World.cell?_setCell_other _ _ _ _ (fun e => by simp at e <;> omega), q1]
set_option maxRecDepth 100000 in
set_option maxHeartbeats 1600000 in
/-- A disk with another tape. -/
theorem rdtape_any {M : Nat} {D : Dsk} (hD : D.ok M) (hM : M ≤ 200) (a : Option Addr) (c : Nat) (aL : Option Addr) (cL : Nat) (id : Int) (h1 : 1 ≤ id) (h2 : id ≤ D.tp.length) (t : Tp) (P : Nat → Prop) (w : World) (hP : ∀ b, P b → b < w.heap.size) (hT : Tps w P a D.tp) (hL : LLs w P aL D.L) :
    Calls Tryz.prog 109 #[dskV D.sec a D.tp.length c aL D.L.length cL D.fu D.calls, .int .i64 id, t.v] w (RetD w P (D.set id t)) := by
  obtain ⟨i0, hi, hz0, hz1, hz2⟩ := info_parts tape_info
  obtain ⟨ad, m, rfl, rfl, hm, hadb, _, _⟩ := hT.get id h1 h2
  have hnews := tps_flat hT
  have hone := tps_one D.tp
  have hab := hP _ hadb
  have hnT : D.tp.length ≤ 200 := Nat.le_trans hD.2.1 hM
  have hset : D.set ((m : Int) + 1) t = ⟨D.sec, D.tp.set m t, D.L, D.fu, D.calls⟩ := by unfold Dsk.set; rw [show ((m : Int) + 1 - 1).toNat = m by omega]
  rw [hset]
  obtain ⟨X, hXe⟩ : ∃ X, ((w.alloc (.cells (dskC D.sec (some ad) D.tp.length c aL D.L.length cL D.fu D.calls) 34)).alloc (.cells #[.string t.k, .string t.n] 104)).alloc (.cells dskZ 34) = X := ⟨_, rfl⟩
  have sX : X.heap.size = w.heap.size + 1 + 1 + 1 := by rw [← hXe]; simp
  have bX : Below w.heap.size w X := by rw [← hXe]; exact (((Below.refl _ _).alloc (Nat.le_refl _) _).alloc (by simp) _).alloc (by simp; omega) _
  have k0 : Blk X w.heap.size (dskC D.sec (some ad) D.tp.length c aL D.L.length cL D.fu D.calls) 34 := by rw [← hXe]; exact ((Blk.new w _ _).alloc _).alloc _
  have k1 : Blk X (w.heap.size + 1) #[.string t.k, .string t.n] 104 := by rw [← hXe]; have := (Blk.new (w.alloc (.cells (dskC D.sec (some ad) D.tp.length c aL D.L.length cL D.fu D.calls) 34)) #[.string t.k, .string t.n] 104).alloc (.cells dskZ 34); simpa using this
  have k2 : Blk X (w.heap.size + 1 + 1) dskZ 34 := by rw [← hXe]; have := Blk.new ((w.alloc (.cells (dskC D.sec (some ad) D.tp.length c aL D.L.length cL D.fu D.calls) 34)).alloc (.cells #[.string t.k, .string t.n] 104)) dskZ 34; simpa using this
  have hlit := World.ownsRow_lit (base := w.heap.size + 1 + 1 + 1) (e := 104) (size := 2) X #[] 0 (by omega) (Nat.zero_le _) rfl
  have hadX : ∀ j u, (Tp.flat D.tp)[j]? = some u → (X.alloc (.cells #[] 104)).cell? (ad.add j) = some u := fun j u hj => by
    rw [((Below.refl X.heap.size X).alloc (Nat.le_refl _) (.cells #[] 104)).cell (by rw [add_block, sX]; omega), bX.cell (by rw [add_block]; exact hab)]
    exact hnews j u hj
  obtain ⟨n, hnn⟩ : ∃ n, D.tp.length = n := ⟨_, rfl⟩
  have hxn : (Tp.flat D.tp).length = n * 2 := by rw [Tp.flat_len, hnn]
  rw [hnn] at hXe k0 hm hnT ⊢
  have NW := Lib.hid hadX; have ON := Lib.hid hone; have BX := Lib.hid bX; have HN := Lib.hid hnn; have HXE := Lib.hid hXe; have SX := Lib.hid sX; have XN := Lib.hid hxn; have LIT := Lib.hid hlit; have K0 := Lib.hid k0; have K1 := Lib.hid k1; have K2 := Lib.hid k2; have HT := Lib.hid hT; have HL := Lib.hid hL
  clear hadX hone hnews bX hnn hXe sX hxn hlit k0 k1 k2 hT hL hset h1 h2 hadb
  go_enter Tryz.func109, Tryz.ntmps109
  have d0 : (0 : Int) ≤ (m : Int) := by omega
  have d1 : (m : Int) < (n : Int) := by omega
  have y1 : IntKind.i64.wrap (m : Int) = (m : Int) := IntWalk.i64_in _ (by omega)
  go_wp2_with (
    at_builtin
    rw [HXE.out]
    rw [show w.heap.size + 1 + 1 + 1 = X.heap.size from SX.out.symm]
    refine wpList_append_own _ rfl _ _ 27 rfl (w.heap.size + 1 + 1 + 1) 104 i0 _ 2 32 Tryz.underlying27 hi hz0 hz1 hz2 rfl (by decide) _ 0 [] rfl LIT.out ad n c (Tp.flat D.tp) rfl XN.out NW.out ON.out (by unfold maxLen; omega) (by omega) (by have := SX.out; simp; omega) ?_
    intro v1 w1 ho1 hg1 _
    have hb1 : Below (w.heap.size + 1 + 1 + 1) X w1 := ((Below.refl _ _).alloc (by have := SX.out; omega) _).grown hg1 (by have := SX.out; simp; omega) (own_block LIT.out)
    rw [Nat.zero_add, List.nil_append] at ho1
    rw [← HN.out] at ho1
    obtain ⟨av, cv, ev, ht1⟩ := own_tps ho1
    rw [HN.out] at ho1 ev
    obtain ⟨g, cap, cur, ev2, hg0, hg3, hg4, hg5⟩ := own_some ho1 (by omega)
    obtain ⟨rfl, rfl⟩ : av = some ⟨g, 0, none⟩ ∧ cv = cap := by rw [ev] at ev2; simpa using ev2
    subst ev
    obtain ⟨b0, b1, b2, b3, b4, b5, b6, b7, q0, q1, q2, q3, q4, q5, q6, q7⟩ := (K0.out.below hb1 (by omega)).eight
    have t0 := (K1.out.below hb1 (by omega)).cell 0 _ rfl
    have t1 := (K1.out.below hb1 (by omega)).cell 1 _ rfl
    obtain ⟨c0, c1, c2, c3, c4, c5, c6, c7, r0, r1, r2, r3, r4, r5, r6, r7⟩ := (K2.out.below hb1 (by omega)).eight
    have hmt : m < D.tp.length := by rw [HN.out]; exact hm
    have u0 := hg5 _ _ (Tp.flat_get D.tp m hmt).1
    have u1 := hg5 _ _ (Tp.flat_get D.tp m hmt).2
    have s0 := hg4.free (m * 2)
    have s1 := hg4.free (m * 2 + 1)
    have n0 : w.heap.size ≠ g := by omega
    have n1 : w.heap.size + 1 ≠ g := by omega
    have n2 : w.heap.size + 1 + 1 ≠ g := by omega
    have G0 := Lib.hid hg0
    have HB1 := Lib.hid hb1
    have HT1 := Lib.hid ht1
    clear ho1 hg1 hb1 hg0 hg3 hg4 hg5 ev2 ht1)
  refine bodyPost_ret (v := dskV D.sec (some ⟨g, 0, none⟩) n cv aL D.L.length cL D.fu D.calls) (by simp [results, Tryz.results109, go_sem, c0, c1, c2, c3, c4, c5, c6, c7]) rfl ?_
  refine retD_mk (D := ⟨D.sec, D.tp.set m t, D.L, D.fu, D.calls⟩) hP ?_ HL.out (by simp [HN.out]) rfl (by simp) ?_
  · have hg0 := G0.out
    iterate 11 refine Below.setCell ?_ (by dsimp only; omega) _
    exact BX.out.trans (HB1.out.mono (by omega))
  · refine Tps.more (B := fun b => w.heap.size + 1 + 1 + 1 ≤ b ∧ b < w1.heap.size) ?_ (fun b hb => .inr ⟨by omega, by simpa using hb.2⟩)
    iterate 8 refine Tps.setO ?_ _ (fun hh => absurd (show w.heap.size + 1 + 1 + 1 ≤ _ from hh.1) (by dsimp only; omega)) _
    refine tps_put ?_ m t hmt
    exact Tps.setO HT1.out _ (fun hh => absurd (show w.heap.size + 1 + 1 + 1 ≤ _ from hh.1) (by dsimp only; omega)) _
end Go.Proofs.YtfgecjlccngddaaGreat
namespace Go.Proofs.YtfgecjlccngddaaGreat
set_option linter.unusedSimpArgs false
set_option linter.unusedVariables false
open Go.RowKit
set_option linter.unusedVariables false

/-- Behind the parameter's box and the result's block, whatever was made since. -/
def Dk (w : World) (C : Array Value) (w' : World) : Prop :=
  Below w.heap.size w w' ∧ Blk w' w.heap.size C 34 ∧ Blk w' (w.heap.size + 1) dskZ 34
theorem Dk.on {w w' w1 : World} {C : Array Value} (h : Dk w C w') (hb : Below w'.heap.size w' w1) : Dk w C w1 := ⟨h.1.trans (hb.mono h.1.size), h.2.1.onto hb, h.2.2.onto hb⟩
theorem Dk.lt {w w' : World} {C : Array Value} (h : Dk w C w') : w.heap.size < w'.heap.size ∧ w.heap.size + 1 < w'.heap.size := ⟨h.2.1.lt, h.2.2.lt⟩
theorem Dk.start (w : World) (C : Array Value) : Dk w C ((w.alloc (.cells C 34)).alloc (.cells dskZ 34)) := dk_start w C _
theorem Dk.facts {w w' : World} {x0 x1 x2 x3 x4 x5 x6 x7 : Value} (h : Dk w #[x0, x1, x2, x3, x4, x5, x6, x7] w') :
    (w.heap.size < w'.heap.size ∧ w.heap.size + 1 < w'.heap.size) ∧
    (w'.cell? ⟨w.heap.size, 0, none⟩ = some x0 ∧ w'.cell? ⟨w.heap.size, 1, none⟩ = some x1 ∧ w'.cell? ⟨w.heap.size, 2, none⟩ = some x2 ∧ w'.cell? ⟨w.heap.size, 3, none⟩ = some x3 ∧ w'.cell? ⟨w.heap.size, 4, none⟩ = some x4 ∧ w'.cell? ⟨w.heap.size, 5, none⟩ = some x5 ∧ w'.cell? ⟨w.heap.size, 6, none⟩ = some x6 ∧ w'.cell? ⟨w.heap.size, 7, none⟩ = some x7 ∧
    w'.frozen? ⟨w.heap.size, 0, none⟩ = false ∧ w'.frozen? ⟨w.heap.size, 1, none⟩ = false ∧ w'.frozen? ⟨w.heap.size, 2, none⟩ = false ∧ w'.frozen? ⟨w.heap.size, 3, none⟩ = false ∧ w'.frozen? ⟨w.heap.size, 4, none⟩ = false ∧ w'.frozen? ⟨w.heap.size, 5, none⟩ = false ∧ w'.frozen? ⟨w.heap.size, 6, none⟩ = false ∧ w'.frozen? ⟨w.heap.size, 7, none⟩ = false) ∧
    (w'.cell? ⟨w.heap.size + 1, 0, none⟩ = some (.int .i64 0) ∧ w'.cell? ⟨w.heap.size + 1, 1, none⟩ = some (.slice none 0 0) ∧ w'.cell? ⟨w.heap.size + 1, 2, none⟩ = some (.slice none 0 0) ∧ w'.cell? ⟨w.heap.size + 1, 3, none⟩ = some (.int .i64 0) ∧ w'.cell? ⟨w.heap.size + 1, 4, none⟩ = some (.int .i64 0) ∧ w'.cell? ⟨w.heap.size + 1, 5, none⟩ = some (.int .i64 0) ∧ w'.cell? ⟨w.heap.size + 1, 6, none⟩ = some (.bool false) ∧ w'.cell? ⟨w.heap.size + 1, 7, none⟩ = some (.int .i64 0) ∧
    w'.frozen? ⟨w.heap.size + 1, 0, none⟩ = false ∧ w'.frozen? ⟨w.heap.size + 1, 1, none⟩ = false ∧ w'.frozen? ⟨w.heap.size + 1, 2, none⟩ = false ∧ w'.frozen? ⟨w.heap.size + 1, 3, none⟩ = false ∧ w'.frozen? ⟨w.heap.size + 1, 4, none⟩ = false ∧ w'.frozen? ⟨w.heap.size + 1, 5, none⟩ = false ∧ w'.frozen? ⟨w.heap.size + 1, 6, none⟩ = false ∧ w'.frozen? ⟨w.heap.size + 1, 7, none⟩ = false) :=
  ⟨h.lt, h.2.1.eight, h.2.2.eight⟩
/-- A disk's eight cells written. -/
abbrev put8 (w : World) (b : Nat) (sec : Int) (a : Option Addr) (n c : Nat) (aL : Option Addr) (nL cL : Nat) (f : Fus) (calls : Int) : World :=
  (((((((w.setCell ⟨b, 0, none⟩ (.int .i64 sec)).setCell ⟨b, 1, none⟩ (.slice a n c)).setCell ⟨b, 2, none⟩ (.slice aL nL cL)).setCell ⟨b, 3, none⟩ (.int .i64 f.p)).setCell ⟨b, 4, none⟩ (.int .i64 f.s)).setCell ⟨b, 5, none⟩ (.int .i64 f.d)).setCell ⟨b, 6, none⟩ (.bool f.off)).setCell ⟨b, 7, none⟩ (.int .i64 calls)
theorem Dk.put {w w' : World} {x0 x1 x2 x3 x4 x5 x6 x7 : Value} (h : Dk w #[x0, x1, x2, x3, x4, x5, x6, x7] w') (sec : Int) (a : Option Addr) (n c : Nat) (aL : Option Addr) (nL cL : Nat) (f : Fus) (calls : Int) :
    Dk w (dskC sec a n c aL nL cL f calls) (put8 w' w.heap.size sec a n c aL nL cL f calls) := by
  unfold put8
  refine ⟨?_, ?_, ?_⟩
  · iterate 8 refine Below.setCell ?_ (by simp) _
    exact h.1
  · have s0 : Blk (w'.setCell ⟨w.heap.size, 0, none⟩ (.int .i64 sec)) w.heap.size #[.int .i64 sec, x1, x2, x3, x4, x5, x6, x7] 34 := h.2.1.set 0 _
    have s1 : Blk ((w'.setCell ⟨w.heap.size, 0, none⟩ (.int .i64 sec)).setCell ⟨w.heap.size, 1, none⟩ (.slice a n c)) w.heap.size #[.int .i64 sec, .slice a n c, x2, x3, x4, x5, x6, x7] 34 := s0.set 1 _
    have s2 : Blk (((w'.setCell ⟨w.heap.size, 0, none⟩ (.int .i64 sec)).setCell ⟨w.heap.size, 1, none⟩ (.slice a n c)).setCell ⟨w.heap.size, 2, none⟩ (.slice aL nL cL)) w.heap.size #[.int .i64 sec, .slice a n c, .slice aL nL cL, x3, x4, x5, x6, x7] 34 := s1.set 2 _
    have s3 : Blk ((((w'.setCell ⟨w.heap.size, 0, none⟩ (.int .i64 sec)).setCell ⟨w.heap.size, 1, none⟩ (.slice a n c)).setCell ⟨w.heap.size, 2, none⟩ (.slice aL nL cL)).setCell ⟨w.heap.size, 3, none⟩ (.int .i64 f.p)) w.heap.size #[.int .i64 sec, .slice a n c, .slice aL nL cL, .int .i64 f.p, x4, x5, x6, x7] 34 := s2.set 3 _
    have s4 : Blk (((((w'.setCell ⟨w.heap.size, 0, none⟩ (.int .i64 sec)).setCell ⟨w.heap.size, 1, none⟩ (.slice a n c)).setCell ⟨w.heap.size, 2, none⟩ (.slice aL nL cL)).setCell ⟨w.heap.size, 3, none⟩ (.int .i64 f.p)).setCell ⟨w.heap.size, 4, none⟩ (.int .i64 f.s)) w.heap.size #[.int .i64 sec, .slice a n c, .slice aL nL cL, .int .i64 f.p, .int .i64 f.s, x5, x6, x7] 34 := s3.set 4 _
    have s5 : Blk ((((((w'.setCell ⟨w.heap.size, 0, none⟩ (.int .i64 sec)).setCell ⟨w.heap.size, 1, none⟩ (.slice a n c)).setCell ⟨w.heap.size, 2, none⟩ (.slice aL nL cL)).setCell ⟨w.heap.size, 3, none⟩ (.int .i64 f.p)).setCell ⟨w.heap.size, 4, none⟩ (.int .i64 f.s)).setCell ⟨w.heap.size, 5, none⟩ (.int .i64 f.d)) w.heap.size #[.int .i64 sec, .slice a n c, .slice aL nL cL, .int .i64 f.p, .int .i64 f.s, .int .i64 f.d, x6, x7] 34 := s4.set 5 _
    have s6 : Blk (((((((w'.setCell ⟨w.heap.size, 0, none⟩ (.int .i64 sec)).setCell ⟨w.heap.size, 1, none⟩ (.slice a n c)).setCell ⟨w.heap.size, 2, none⟩ (.slice aL nL cL)).setCell ⟨w.heap.size, 3, none⟩ (.int .i64 f.p)).setCell ⟨w.heap.size, 4, none⟩ (.int .i64 f.s)).setCell ⟨w.heap.size, 5, none⟩ (.int .i64 f.d)).setCell ⟨w.heap.size, 6, none⟩ (.bool f.off)) w.heap.size #[.int .i64 sec, .slice a n c, .slice aL nL cL, .int .i64 f.p, .int .i64 f.s, .int .i64 f.d, .bool f.off, x7] 34 := s5.set 6 _
    have s7 : Blk ((((((((w'.setCell ⟨w.heap.size, 0, none⟩ (.int .i64 sec)).setCell ⟨w.heap.size, 1, none⟩ (.slice a n c)).setCell ⟨w.heap.size, 2, none⟩ (.slice aL nL cL)).setCell ⟨w.heap.size, 3, none⟩ (.int .i64 f.p)).setCell ⟨w.heap.size, 4, none⟩ (.int .i64 f.s)).setCell ⟨w.heap.size, 5, none⟩ (.int .i64 f.d)).setCell ⟨w.heap.size, 6, none⟩ (.bool f.off)).setCell ⟨w.heap.size, 7, none⟩ (.int .i64 calls)) w.heap.size #[.int .i64 sec, .slice a n c, .slice aL nL cL, .int .i64 f.p, .int .i64 f.s, .int .i64 f.d, .bool f.off, .int .i64 calls] 34 := s6.set 7 _
    exact s7
  · iterate 8 refine Blk.other ?_ _ (by simp) _
    exact h.2.2
theorem put8_apart (S : List Nat) (w : World) (b : Nat) (hb : b ∈ S) (sec : Int) (a : Option Addr) (n c : Nat) (aL : Option Addr) (nL cL : Nat) (f : Fus) (calls : Int) : Apart S w (put8 w b sec a n c aL nL cL f calls) := by
  unfold put8
  iterate 8 refine Apart.setCell ?_ (.inl hb) _
  exact .refl _ _
/-- What is of P, or was made since n1, is there still where both blocks of the call alone have turned. -/
theorem keep2 {w w2 W' : World} {P : Nat → Prop} {n1 : Nat} (hP : ∀ b, P b → b < w.heap.size) (hB : w.heap.size ≤ w2.heap.size) (hA : Apart [w.heap.size, w.heap.size + 1] w2 W') (hn : w.heap.size + 2 ≤ n1) :
    ∀ p : Addr, Grow P n1 w2.heap.size p.block → W'.cell? p = w2.cell? p := fun p hp => by
  refine hA.cell ?_ ?_
  · rcases hp with hp | hp
    · have := hP _ hp; omega
    · exact hp.2
  · rcases hp with hp | hp
    · have := hP _ hp; simp; omega
    · have := hp.1; simp; omega
theorem grow_to {w w2 W' : World} {P : Nat → Prop} {n1 : Nat} (hs : w2.heap.size ≤ W'.heap.size) (hn : w.heap.size ≤ n1) : ∀ b, Grow P n1 w2.heap.size b → Grow P w.heap.size W'.heap.size b := fun b hb => by
  rcases hb with hb | hb
  · exact .inl hb
  · exact .inr ⟨by omega, by omega⟩
/-- The end of a call: a disk and an error. -/
theorem retDE_end {w w2 W' : World} {P : Nat → Prop} {n1 : Nat} {D : Dsk} {a aL : Option Addr} {n c nL cL : Nat} {v : Int} (hP : ∀ b, P b → b < w.heap.size) (hB : Below w.heap.size w w2) (hA : Apart [w.heap.size, w.heap.size + 1] w2 W') (hn : w.heap.size + 2 ≤ n1)
    (hT : Tps w2 (Grow P n1 w2.heap.size) a D.tp) (hL : LLs w2 (Grow P n1 w2.heap.size) aL D.L) (hz : a = none → c = 0) (e1 : D.tp.length = n) (e2 : D.L.length = nL) :
    RetDE w P (D, v) (.returned (.tuple #[dskV D.sec a n c aL nL cL D.fu D.calls, .int .i64 v])) W' := by
  have hk := keep2 hP hB.size hA hn
  have hg := grow_to (P := P) (n1 := n1) (w := w) hA.size (by omega)
  exact ⟨_, rfl, ⟨a, c, aL, cL, by rw [e1, e2], (hT.keep hk).more hg, (hL.keep hk).more hg, hz⟩, hB.trans (hA.to_below (by intro x hx; simp at hx; omega) hB.size)⟩

/-- What the fuse's call answers, its parts in sight. -/
def RetAsk (P : Nat → Prop) (sec : Int) (tp : List Tp) (LL : List (List Ent)) (F : Fus) (k : Int) (v : Int) (W : World) (e : Ending) (w' : World) : Prop :=
  ∃ a c aL cL, e = .returned (.tuple #[dskV sec a tp.length c aL LL.length cL F k, .int .i64 v]) ∧ Tps w' (Grow P W.heap.size w'.heap.size) a tp ∧ LLs w' (Grow P W.heap.size w'.heap.size) aL LL ∧ (a = none → c = 0) ∧ Below W.heap.size W w'
theorem rdask_f {M : Nat} {D : Dsk} (hD : D.ok M) (hM : M ≤ 200) (a : Option Addr) (c : Nat) (aL : Option Addr) (cL : Nat) (sync : Bool) (P : Nat → Prop) (w : World) (hP : ∀ b, P b → b < w.heap.size) (hT : Tps w P a D.tp) (hL : LLs w P aL D.L) (hz : a = none → c = 0) (F : Fus) (v : Int) (hF : D.fu.call sync = (F, v)) (W : World) (h : Below w.heap.size w W) :
    Calls Tryz.prog 108 #[dskV D.sec a D.tp.length c aL D.L.length cL D.fu D.calls, .bool sync] W (RetAsk P D.sec D.tp D.L F (D.calls + 1) v W) := by
  refine (rdask_any hD (by omega) a c aL cL sync P W (fun b hb => Nat.lt_of_lt_of_le (hP b hb) h.size) (hT.below hP h) (hL.below hP h) hz).mono ?_
  rintro e w' ⟨dv, rfl, ⟨a1, c1, aL1, cL1, rfl, h1, h2, h3⟩, hb⟩
  have e1 : D.ask sync = (⟨D.sec, D.tp, D.L, F, D.calls + 1⟩, v) := by unfold Dsk.ask; rw [hF]
  rw [e1] at h1 h2 ⊢
  exact ⟨a1, c1, aL1, cL1, rfl, h1, h2, h3, hb⟩
theorem ask_eq {D : Dsk} {sync : Bool} {F : Fus} {v : Int} (hF : D.fu.call sync = (F, v)) : D.ask sync = (⟨D.sec, D.tp, D.L, F, D.calls + 1⟩, v) := by unfold Dsk.ask; rw [hF]
theorem then_ok (E : Dsk) (f : Dsk → Dsk) : Dsk.then (E, 0) f = (f E, 0) := rfl
theorem then_no (E : Dsk) (v : Int) (f : Dsk → Dsk) (h : ¬ v = 0) : Dsk.then (E, v) f = (E, v) := if_neg h
theorem grow_grow {P : Nat → Prop} {n1 m k : Nat} (h1 : n1 ≤ m) (h2 : m ≤ k) : ∀ b, Grow (Grow P n1 m) m k b → Grow P n1 k b := fun b hb => by
  rcases hb with (hb | hb) | hb
  · exact .inl hb
  · exact .inr ⟨hb.1, by omega⟩
  · exact .inr ⟨by omega, hb.2⟩
theorem grow_low {P : Nat → Prop} {n n1 m : Nat} (h : n ≤ n1) : ∀ b, Grow P n1 m b → Grow P n m b := fun b hb => by
  rcases hb with hb | hb
  · exact .inl hb
  · exact .inr ⟨by omega, hb.2⟩
theorem grow_lt {w W : World} {P : Nat → Prop} {n1 : Nat} (hP : ∀ b, P b → b < w.heap.size) (h : w.heap.size ≤ W.heap.size) : ∀ b, Grow P n1 W.heap.size b → b < W.heap.size := fun b hb => by
  rcases hb with hb | hb
  · exact Nat.lt_of_lt_of_le (hP b hb) h
  · exact hb.2
end Go.Proofs.YtfgecjlccngddaaGreat
namespace Go.Proofs.YtfgecjlccngddaaGreat
set_option linter.unusedSimpArgs false
set_option linter.unusedVariables false
open Go.RowKit
set_option linter.unusedVariables false

set_option maxRecDepth 100000 in
set_option maxHeartbeats 1600000 in
theorem rdsyncall_any {M : Nat} {D : Dsk} (hD : D.ok M) (hM : M ≤ 199) (a : Option Addr) (c : Nat) (aL : Option Addr) (cL : Nat) (P : Nat → Prop) (w : World) (hP : ∀ b, P b → b < w.heap.size) (hT : Tps w P a D.tp) (hL : LLs w P aL D.L) (hz : a = none → c = 0) :
    Calls Tryz.prog 54 #[dskV D.sec a D.tp.length c aL D.L.length cL D.fu D.calls] w (RetDE w P (D.syncAll)) := by
  by_cases ho : D.fu.off = true
  · have e : D.syncAll = (D, 14) := by unfold Dsk.syncAll; rw [if_pos ho]
    rw [e]
    clear e
    obtain ⟨sec, tp, LL, ⟨p, s0, d0, off⟩, calls⟩ := D
    obtain rfl : off = true := ho
    go_enter Tryz.func54, Tryz.ntmps54
    go_wp2
    refine bodyPost_ret (v := .tuple #[dskV sec a tp.length c aL LL.length cL ⟨p, s0, d0, true⟩ calls, .int .i64 14]) (by simp [results, Tryz.results54, go_sem]) rfl ?_
    exact retDE_mk (D := ⟨sec, tp, LL, ⟨p, s0, d0, true⟩, calls⟩) hP hT hL rfl rfl hz (by exact ((Below.refl _ _).alloc (Nat.le_refl _) _).alloc (by simp) _)
  have ho : D.fu.off = false := by simpa using ho
  obtain ⟨⟨F, v⟩, hF⟩ : ∃ r, D.fu.call true = r := ⟨_, rfl⟩
  have ca := rdask_f hD (by omega) a c aL cL true P w hP hT hL hz F v hF
  have e : D.syncAll = Dsk.then (D.ask true) fun E => { E with L := [nowL E.L] } := by unfold Dsk.syncAll; rw [if_neg (by rw [ho]; simp)]
  rw [e, ask_eq hF]
  have hLL := hD.2.2.1
  have hw := Dk.start w (dskC D.sec a D.tp.length c aL D.L.length cL D.fu D.calls)
  have T := Lib.hid hT; have L := Lib.hid hL
  obtain ⟨sec, tp, LL, ⟨p, s0, d0, off⟩, calls⟩ := D
  obtain rfl : off = false := ho
  simp only at ca hLL hw
  have CA := Lib.hid ca; have HW := Lib.hid hw; have HLL := Lib.hid hLL
  clear e ca hLL hw hF hD hT hL
  by_cases hv : v = 0
  · subst hv
    rw [then_ok]
    go_enter Tryz.func54, Tryz.ntmps54
    go_wp2_with fail
    refine (CA.out _ HW.out.1).mono ?_
    rintro e w1 ⟨a1, c1, aL1, cL1, rfl, hT1, hL1, hz1, hb1⟩
    have hd1 := HW.out.on hb1
    obtain ⟨⟨lt0, lt1⟩, ⟨b0, b1, b2, b3, b4, b5, b6, b7, q0, q1, q2, q3, q4, q5, q6, q7⟩, ⟨k0, k1, k2, k3, k4, k5, k6, k7, r0, r1, r2, r3, r4, r5, r6, r7⟩⟩ := hd1.facts
    have HD1 := Lib.hid hd1
    have T1 := Lib.hid (hT1.more (grow_low HW.out.lt.2)); have L1 := Lib.hid (hL1.more (grow_low HW.out.lt.2))
    have HB1 := Lib.hid hb1
    clear hd1 hT1 hL1 hb1
    go_wp2_with fail
    clear lt0 lt1 b0 b1 b2 b3 b4 b5 b6 b7 q0 q1 q2 q3 q4 q5 q6 q7 k0 k1 k2 k3 k4 k5 k6 k7 r0 r1 r2 r3 r4 r5 r6 r7
    have hp1 : ∀ b, Grow P (w.heap.size + 2) w1.heap.size b → b < (put8 w1 w.heap.size sec a1 tp.length c1 aL1 LL.length cL1 F (calls + 1)).heap.size := fun b hb => by simpa using grow_lt hP HD1.out.1.size b hb
    have hk1 := keep2 hP HD1.out.1.size (put8_apart [w.heap.size, w.heap.size + 1] w1 w.heap.size (by simp) sec a1 tp.length c1 aL1 LL.length cL1 F (calls + 1)) (Nat.le_refl _)
    refine (rsync9_any aL1 LL cL1 _ (put8 w1 w.heap.size sec a1 tp.length c1 aL1 LL.length cL1 F (calls + 1)) hp1 (L1.out.keep hk1) HLL.out.1 (by have := HLL.out.2.1; omega)).mono ?_
    rintro e w2 ⟨aL2, cL2, rfl, hL2, hb2⟩
    have hd2 := (HD1.out.put sec a1 tp.length c1 aL1 LL.length cL1 F (calls + 1)).on hb2
    have hs2 := HD1.out.lt.2
    obtain ⟨⟨lt0, lt1⟩, ⟨b0, b1, b2, b3, b4, b5, b6, b7, q0, q1, q2, q3, q4, q5, q6, q7⟩, ⟨k0, k1, k2, k3, k4, k5, k6, k7, r0, r1, r2, r3, r4, r5, r6, r7⟩⟩ := hd2.facts
    have ht2 := ((T1.out.keep hk1).below hp1 hb2).more (B' := Grow P (w.heap.size + 2) w2.heap.size) (fun b hb => grow_grow hs2 (by have := hb2.size; simpa using this) b (.inl hb))
    have hl2 := hL2.more (B' := Grow P (w.heap.size + 2) w2.heap.size) (fun b hb => grow_grow hs2 (by have := hb2.size; simpa using this) b (by simpa using hb))
    have HD2 := Lib.hid hd2; have T2 := Lib.hid ht2; have L2 := Lib.hid hl2
    clear hd2 ht2 hl2 hL2 hb2 hp1 hk1
    go_wp2
    refine bodyPost_ret (v := .tuple #[dskV sec a1 tp.length c1 aL2 1 cL2 F (calls + 1), .int .i64 0]) (by simp [results, Tryz.results54, go_sem, k0, k1, k2, k3, k4, k5, k6, k7]) rfl ?_
    refine retDE_end (n1 := w.heap.size + 2) (D := ⟨sec, tp, [nowL LL], F, calls + 1⟩) hP HD2.out.1 ?_ (Nat.le_refl _) T2.out L2.out hz1 rfl rfl
    iterate 9 refine Apart.setCell ?_ (.inl (by simp)) _
    exact .refl _ _
  · rw [then_no _ _ _ hv]
    have t1 : (v == 0) = false := beq_eq_false_iff_ne.2 hv
    go_enter Tryz.func54, Tryz.ntmps54
    go_wp2_with fail
    refine (CA.out _ HW.out.1).mono ?_
    rintro e w1 ⟨a1, c1, aL1, cL1, rfl, hT1, hL1, hz1, hb1⟩
    have hd1 := HW.out.on hb1
    obtain ⟨⟨lt0, lt1⟩, ⟨b0, b1, b2, b3, b4, b5, b6, b7, q0, q1, q2, q3, q4, q5, q6, q7⟩, ⟨k0, k1, k2, k3, k4, k5, k6, k7, r0, r1, r2, r3, r4, r5, r6, r7⟩⟩ := hd1.facts
    have HD1 := Lib.hid hd1
    have T1 := Lib.hid (hT1.more (grow_low HW.out.lt.2)); have L1 := Lib.hid (hL1.more (grow_low HW.out.lt.2))
    have HB1 := Lib.hid hb1
    clear hd1 hT1 hL1 hb1
    go_wp2
    refine bodyPost_ret (v := .tuple #[dskV sec a1 tp.length c1 aL1 LL.length cL1 F (calls + 1), .int .i64 v]) (by simp [results, Tryz.results54, go_sem, k0, k1, k2, k3, k4, k5, k6, k7]) rfl ?_
    refine retDE_end (D := ⟨sec, tp, LL, F, calls + 1⟩) hP HD1.out.1 ?_ (Nat.le_refl _) T1.out L1.out hz1 rfl rfl
    iterate 16 refine Apart.setCell ?_ (.inl (by simp)) _
    exact .refl _ _

set_option maxRecDepth 100000 in
set_option maxHeartbeats 1600000 in
theorem rdremove_any {M : Nat} {D : Dsk} (hD : D.ok M) (hM : M ≤ 199) (a : Option Addr) (c : Nat) (aL : Option Addr) (cL : Nat) (s : ByteArray) (P : Nat → Prop) (w : World) (hP : ∀ b, P b → b < w.heap.size) (hT : Tps w P a D.tp) (hL : LLs w P aL D.L) (hz : a = none → c = 0) :
    Calls Tryz.prog 118 #[dskV D.sec a D.tp.length c aL D.L.length cL D.fu D.calls, .string s] w (RetDE w P (D.remove s)) := by
  by_cases ho : D.fu.off = true
  · have e : D.remove s = (D, 14) := by unfold Dsk.remove; rw [if_pos ho]
    rw [e]
    clear e
    obtain ⟨sec, tp, LL, ⟨p, s0, d0, off⟩, calls⟩ := D
    obtain rfl : off = true := ho
    go_enter Tryz.func118, Tryz.ntmps118
    go_wp2
    refine bodyPost_ret (v := .tuple #[dskV sec a tp.length c aL LL.length cL ⟨p, s0, d0, true⟩ calls, .int .i64 14]) (by simp [results, Tryz.results118, go_sem]) rfl ?_
    exact retDE_mk (D := ⟨sec, tp, LL, ⟨p, s0, d0, true⟩, calls⟩) hP hT hL rfl rfl hz (by exact ((Below.refl _ _).alloc (Nat.le_refl _) _).alloc (by simp) _)
  have ho : D.fu.off = false := by simpa using ho
  have ci := fun (W : World) (h : Below w.heap.size w W) => rdfind_any hD (by omega) a D.tp.length c aL cL s P W (fun b hb => Nat.lt_of_lt_of_le (hP b hb) h.size) (hL.below hP h)
  have hid := D.id_is hD s
  obtain ⟨i, hi⟩ : ∃ i, D.id s = i := ⟨_, rfl⟩
  rw [hi] at ci hid
  have e : D.remove s = if i = 0 then (D, 8) else Dsk.then (D.ask false) fun E => { E with L := dropF E.L s } := by unfold Dsk.remove; rw [if_neg (by rw [ho]; simp), hi]
  obtain ⟨⟨F, v⟩, hF⟩ : ∃ r, D.fu.call false = r := ⟨_, rfl⟩
  have ca := rdask_f hD (by omega) a c aL cL false P w hP hT hL hz F v hF
  rw [e, ask_eq hF]
  have hLL := hD.2.2.1
  have hw := Dk.start w (dskC D.sec a D.tp.length c aL D.L.length cL D.fu D.calls)
  have T := Lib.hid hT; have L := Lib.hid hL
  obtain ⟨sec, tp, LL, ⟨p, s0, d0, off⟩, calls⟩ := D
  obtain rfl : off = false := ho
  simp only at ca hLL hw ci
  have CA := Lib.hid ca; have HW := Lib.hid hw; have HLL := Lib.hid hLL
  have CI := Lib.hid ci
  clear e ca hLL hw hF hD hT hL ci hi
  by_cases hi0 : i = 0
  · subst hi0
    rw [if_pos rfl]
    go_enter Tryz.func118, Tryz.ntmps118
    go_wp2_with fail
    refine (CI.out _ HW.out.1).mono ?_
    rintro e wf ⟨rfl, hbf⟩
    have hdf := HW.out.on hbf
    obtain ⟨⟨lt0, lt1⟩, ⟨b0, b1, b2, b3, b4, b5, b6, b7, q0, q1, q2, q3, q4, q5, q6, q7⟩, ⟨k0, k1, k2, k3, k4, k5, k6, k7, r0, r1, r2, r3, r4, r5, r6, r7⟩⟩ := hdf.facts
    have HDF := Lib.hid hdf
    clear hdf hbf
    go_wp2
    refine bodyPost_ret (v := .tuple #[dskV sec a tp.length c aL LL.length cL ⟨p, s0, d0, false⟩ calls, .int .i64 8]) (by simp [results, Tryz.results118, go_sem, k0, k1, k2, k3, k4, k5, k6, k7]) rfl ?_
    refine retDE_end (n1 := w.heap.size + 2) (D := ⟨sec, tp, LL, ⟨p, s0, d0, false⟩, calls⟩) hP HDF.out.1 ?_ (Nat.le_refl _) ((T.out.below hP HDF.out.1).more fun b hb => .inl hb) ((L.out.below hP HDF.out.1).more fun b hb => .inl hb) hz rfl rfl
    iterate 8 refine Apart.setCell ?_ (.inl (by simp)) _
    exact .refl _ _
  rw [if_neg hi0]
  have t0 : (i == 0) = false := beq_eq_false_iff_ne.2 hi0
  by_cases hv : v = 0
  · subst hv
    rw [then_ok]
    go_enter Tryz.func118, Tryz.ntmps118
    go_wp2_with fail
    refine (CI.out _ HW.out.1).mono ?_
    rintro e wf ⟨rfl, hbf⟩
    have hdf := HW.out.on hbf
    obtain ⟨⟨lt0, lt1⟩, ⟨b0, b1, b2, b3, b4, b5, b6, b7, q0, q1, q2, q3, q4, q5, q6, q7⟩, ⟨k0, k1, k2, k3, k4, k5, k6, k7, r0, r1, r2, r3, r4, r5, r6, r7⟩⟩ := hdf.facts
    have HDF := Lib.hid hdf
    clear hdf hbf
    go_wp2_with fail
    refine (CA.out _ HDF.out.1).mono ?_
    rintro e w1 ⟨a1, c1, aL1, cL1, rfl, hT1, hL1, hz1, hb1⟩
    have hd1 := HDF.out.on hb1
    clear lt0 lt1 b0 b1 b2 b3 b4 b5 b6 b7 q0 q1 q2 q3 q4 q5 q6 q7 k0 k1 k2 k3 k4 k5 k6 k7 r0 r1 r2 r3 r4 r5 r6 r7
    obtain ⟨⟨lt0, lt1⟩, ⟨b0, b1, b2, b3, b4, b5, b6, b7, q0, q1, q2, q3, q4, q5, q6, q7⟩, ⟨k0, k1, k2, k3, k4, k5, k6, k7, r0, r1, r2, r3, r4, r5, r6, r7⟩⟩ := hd1.facts
    have HD1 := Lib.hid hd1
    have T1 := Lib.hid (hT1.more (grow_low HDF.out.lt.2)); have L1 := Lib.hid (hL1.more (grow_low HDF.out.lt.2))
    have HB1 := Lib.hid hb1
    clear hd1 hT1 hL1 hb1
    go_wp2_with fail
    clear lt0 lt1 b0 b1 b2 b3 b4 b5 b6 b7 q0 q1 q2 q3 q4 q5 q6 q7 k0 k1 k2 k3 k4 k5 k6 k7 r0 r1 r2 r3 r4 r5 r6 r7
    have hp1 : ∀ b, Grow P (w.heap.size + 2) w1.heap.size b → b < (put8 w1 w.heap.size sec a1 tp.length c1 aL1 LL.length cL1 F (calls + 1)).heap.size := fun b hb => by simpa using grow_lt hP HD1.out.1.size b hb
    have hk1 := keep2 hP HD1.out.1.size (put8_apart [w.heap.size, w.heap.size + 1] w1 w.heap.size (by simp) sec a1 tp.length c1 aL1 LL.length cL1 F (calls + 1)) (Nat.le_refl _)
    refine (rdrop9_any aL1 LL cL1 s _ (put8 w1 w.heap.size sec a1 tp.length c1 aL1 LL.length cL1 F (calls + 1)) hp1 (L1.out.keep hk1) HLL.out.1 (by have := HLL.out.2.1; omega) (by have := HLL.out.2.2 _ (nowL_mem HLL.out.1); omega)).mono ?_
    rintro e w2 ⟨aL2, cL2, rfl, hL2, hb2⟩
    have hd2 := (HD1.out.put sec a1 tp.length c1 aL1 LL.length cL1 F (calls + 1)).on hb2
    have hs2 := HD1.out.lt.2
    obtain ⟨⟨lt0, lt1⟩, ⟨b0, b1, b2, b3, b4, b5, b6, b7, q0, q1, q2, q3, q4, q5, q6, q7⟩, ⟨k0, k1, k2, k3, k4, k5, k6, k7, r0, r1, r2, r3, r4, r5, r6, r7⟩⟩ := hd2.facts
    have ht2 := ((T1.out.keep hk1).below hp1 hb2).more (B' := Grow P (w.heap.size + 2) w2.heap.size) (fun b hb => grow_grow hs2 (by have := hb2.size; simpa using this) b (.inl hb))
    have hl2 := hL2.more (B' := Grow P (w.heap.size + 2) w2.heap.size) (fun b hb => grow_grow hs2 (by have := hb2.size; simpa using this) b (by simpa using hb))
    have HD2 := Lib.hid hd2; have T2 := Lib.hid ht2; have L2 := Lib.hid hl2
    clear hd2 ht2 hl2 hL2 hb2 hp1 hk1
    go_wp2
    refine bodyPost_ret (v := .tuple #[dskV sec a1 tp.length c1 aL2 (dropF LL s).length cL2 F (calls + 1), .int .i64 0]) (by simp [results, Tryz.results118, go_sem, k0, k1, k2, k3, k4, k5, k6, k7]) rfl ?_
    refine retDE_end (n1 := w.heap.size + 2) (D := ⟨sec, tp, dropF LL s, F, calls + 1⟩) hP HD2.out.1 ?_ (Nat.le_refl _) T2.out L2.out hz1 rfl rfl
    iterate 9 refine Apart.setCell ?_ (.inl (by simp)) _
    exact .refl _ _
  · rw [then_no _ _ _ hv]
    have t1 : (v == 0) = false := beq_eq_false_iff_ne.2 hv
    go_enter Tryz.func118, Tryz.ntmps118
    go_wp2_with fail
    refine (CI.out _ HW.out.1).mono ?_
    rintro e wf ⟨rfl, hbf⟩
    have hdf := HW.out.on hbf
    obtain ⟨⟨lt0, lt1⟩, ⟨b0, b1, b2, b3, b4, b5, b6, b7, q0, q1, q2, q3, q4, q5, q6, q7⟩, ⟨k0, k1, k2, k3, k4, k5, k6, k7, r0, r1, r2, r3, r4, r5, r6, r7⟩⟩ := hdf.facts
    have HDF := Lib.hid hdf
    clear hdf hbf
    go_wp2_with fail
    refine (CA.out _ HDF.out.1).mono ?_
    rintro e w1 ⟨a1, c1, aL1, cL1, rfl, hT1, hL1, hz1, hb1⟩
    have hd1 := HDF.out.on hb1
    clear lt0 lt1 b0 b1 b2 b3 b4 b5 b6 b7 q0 q1 q2 q3 q4 q5 q6 q7 k0 k1 k2 k3 k4 k5 k6 k7 r0 r1 r2 r3 r4 r5 r6 r7
    obtain ⟨⟨lt0, lt1⟩, ⟨b0, b1, b2, b3, b4, b5, b6, b7, q0, q1, q2, q3, q4, q5, q6, q7⟩, ⟨k0, k1, k2, k3, k4, k5, k6, k7, r0, r1, r2, r3, r4, r5, r6, r7⟩⟩ := hd1.facts
    have HD1 := Lib.hid hd1
    have T1 := Lib.hid (hT1.more (grow_low HDF.out.lt.2)); have L1 := Lib.hid (hL1.more (grow_low HDF.out.lt.2))
    have HB1 := Lib.hid hb1
    clear hd1 hT1 hL1 hb1
    go_wp2
    refine bodyPost_ret (v := .tuple #[dskV sec a1 tp.length c1 aL1 LL.length cL1 F (calls + 1), .int .i64 v]) (by simp [results, Tryz.results118, go_sem, k0, k1, k2, k3, k4, k5, k6, k7]) rfl ?_
    refine retDE_end (D := ⟨sec, tp, LL, F, calls + 1⟩) hP HD1.out.1 ?_ (Nat.le_refl _) T1.out L1.out hz1 rfl rfl
    iterate 16 refine Apart.setCell ?_ (.inl (by simp)) _
    exact .refl _ _

set_option maxRecDepth 100000 in
set_option maxHeartbeats 1600000 in
theorem rdrename_any {M : Nat} {D : Dsk} (hD : D.ok M) (hM : M ≤ 199) (a : Option Addr) (c : Nat) (aL : Option Addr) (cL : Nat) (s d : ByteArray) (hd : d.size ≤ maxLen) (P : Nat → Prop) (w : World) (hP : ∀ b, P b → b < w.heap.size) (hT : Tps w P a D.tp) (hL : LLs w P aL D.L) (hz : a = none → c = 0) :
    Calls Tryz.prog 117 #[dskV D.sec a D.tp.length c aL D.L.length cL D.fu D.calls, .string s, .string d] w (RetDE w P (D.rename s d)) := by
  by_cases ho : D.fu.off = true
  · have e : D.rename s d = (D, 14) := by unfold Dsk.rename; rw [if_pos ho]
    rw [e]
    clear e
    obtain ⟨sec, tp, LL, ⟨p, s0, d0, off⟩, calls⟩ := D
    obtain rfl : off = true := ho
    go_enter Tryz.func117, Tryz.ntmps117
    go_wp2
    refine bodyPost_ret (v := .tuple #[dskV sec a tp.length c aL LL.length cL ⟨p, s0, d0, true⟩ calls, .int .i64 14]) (by simp [results, Tryz.results117, go_sem]) rfl ?_
    exact retDE_mk (D := ⟨sec, tp, LL, ⟨p, s0, d0, true⟩, calls⟩) hP hT hL rfl rfl hz (by exact ((Below.refl _ _).alloc (Nat.le_refl _) _).alloc (by simp) _)
  have ho : D.fu.off = false := by simpa using ho
  have ci := fun (W : World) (h : Below w.heap.size w W) => rdfind_any hD (by omega) a D.tp.length c aL cL s P W (fun b hb => Nat.lt_of_lt_of_le (hP b hb) h.size) (hL.below hP h)
  have hid := D.id_is hD s
  obtain ⟨i, hi⟩ : ∃ i, D.id s = i := ⟨_, rfl⟩
  rw [hi] at ci hid
  have cm := rmay_any d hd
  obtain ⟨m, hm⟩ : ∃ m, mayB d.data.toList = m := ⟨_, rfl⟩
  rw [hm] at cm
  have e : D.rename s d = if i = 0 then (D, 8) else if m = false then (D, 7) else Dsk.then (D.ask false) fun E => { E with L := moveF E.L s d } := by unfold Dsk.rename; rw [if_neg (by rw [ho]; simp), hi, hm]
  obtain ⟨⟨F, v⟩, hF⟩ : ∃ r, D.fu.call false = r := ⟨_, rfl⟩
  have ca := rdask_f hD (by omega) a c aL cL false P w hP hT hL hz F v hF
  rw [e, ask_eq hF]
  have hLL := hD.2.2.1
  have hw := Dk.start w (dskC D.sec a D.tp.length c aL D.L.length cL D.fu D.calls)
  have T := Lib.hid hT; have L := Lib.hid hL
  obtain ⟨sec, tp, LL, ⟨p, s0, d0, off⟩, calls⟩ := D
  obtain rfl : off = false := ho
  simp only at ca hLL hw ci
  have CA := Lib.hid ca; have HW := Lib.hid hw; have HLL := Lib.hid hLL
  have CI := Lib.hid ci; have CM := Lib.hid cm
  clear e ca hLL hw hF hD hT hL ci hi cm hm
  by_cases hi0 : i = 0
  · subst hi0
    rw [if_pos rfl]
    go_enter Tryz.func117, Tryz.ntmps117
    go_wp2_with fail
    refine (CI.out _ HW.out.1).mono ?_
    rintro e wf ⟨rfl, hbf⟩
    have hdf := HW.out.on hbf
    obtain ⟨⟨lt0, lt1⟩, ⟨b0, b1, b2, b3, b4, b5, b6, b7, q0, q1, q2, q3, q4, q5, q6, q7⟩, ⟨k0, k1, k2, k3, k4, k5, k6, k7, r0, r1, r2, r3, r4, r5, r6, r7⟩⟩ := hdf.facts
    have HDF := Lib.hid hdf
    clear hdf hbf
    go_wp2
    refine bodyPost_ret (v := .tuple #[dskV sec a tp.length c aL LL.length cL ⟨p, s0, d0, false⟩ calls, .int .i64 8]) (by simp [results, Tryz.results117, go_sem, k0, k1, k2, k3, k4, k5, k6, k7]) rfl ?_
    refine retDE_end (n1 := w.heap.size + 2) (D := ⟨sec, tp, LL, ⟨p, s0, d0, false⟩, calls⟩) hP HDF.out.1 ?_ (Nat.le_refl _) ((T.out.below hP HDF.out.1).more fun b hb => .inl hb) ((L.out.below hP HDF.out.1).more fun b hb => .inl hb) hz rfl rfl
    iterate 8 refine Apart.setCell ?_ (.inl (by simp)) _
    exact .refl _ _
  rw [if_neg hi0]
  have t0 : (i == 0) = false := beq_eq_false_iff_ne.2 hi0
  cases m with
  | false =>
    rw [if_pos rfl]
    go_enter Tryz.func117, Tryz.ntmps117
    go_wp2_with fail
    refine (CI.out _ HW.out.1).mono ?_
    rintro e wf ⟨rfl, hbf⟩
    have hdf := HW.out.on hbf
    obtain ⟨⟨lt0, lt1⟩, ⟨b0, b1, b2, b3, b4, b5, b6, b7, q0, q1, q2, q3, q4, q5, q6, q7⟩, ⟨k0, k1, k2, k3, k4, k5, k6, k7, r0, r1, r2, r3, r4, r5, r6, r7⟩⟩ := hdf.facts
    have HDF := Lib.hid hdf
    clear hdf hbf
    go_wp2_with fail
    refine (CM.out _).mono ?_
    rintro e w' ⟨rfl, rfl⟩
    go_wp2
    refine bodyPost_ret (v := .tuple #[dskV sec a tp.length c aL LL.length cL ⟨p, s0, d0, false⟩ calls, .int .i64 7]) (by simp [results, Tryz.results117, go_sem, k0, k1, k2, k3, k4, k5, k6, k7]) rfl ?_
    refine retDE_end (n1 := w.heap.size + 2) (D := ⟨sec, tp, LL, ⟨p, s0, d0, false⟩, calls⟩) hP HDF.out.1 ?_ (Nat.le_refl _) ((T.out.below hP HDF.out.1).more fun b hb => .inl hb) ((L.out.below hP HDF.out.1).more fun b hb => .inl hb) hz rfl rfl
    iterate 8 refine Apart.setCell ?_ (.inl (by simp)) _
    exact .refl _ _
  | true =>
  rw [if_neg (by simp)]
  by_cases hv : v = 0
  · subst hv
    rw [then_ok]
    go_enter Tryz.func117, Tryz.ntmps117
    go_wp2_with fail
    refine (CI.out _ HW.out.1).mono ?_
    rintro e wf ⟨rfl, hbf⟩
    have hdf := HW.out.on hbf
    obtain ⟨⟨lt0, lt1⟩, ⟨b0, b1, b2, b3, b4, b5, b6, b7, q0, q1, q2, q3, q4, q5, q6, q7⟩, ⟨k0, k1, k2, k3, k4, k5, k6, k7, r0, r1, r2, r3, r4, r5, r6, r7⟩⟩ := hdf.facts
    have HDF := Lib.hid hdf
    clear hdf hbf
    go_wp2_with fail
    refine (CM.out _).mono ?_
    rintro e w' ⟨rfl, rfl⟩
    go_wp2_with fail
    refine (CA.out _ HDF.out.1).mono ?_
    rintro e w1 ⟨a1, c1, aL1, cL1, rfl, hT1, hL1, hz1, hb1⟩
    have hd1 := HDF.out.on hb1
    clear lt0 lt1 b0 b1 b2 b3 b4 b5 b6 b7 q0 q1 q2 q3 q4 q5 q6 q7 k0 k1 k2 k3 k4 k5 k6 k7 r0 r1 r2 r3 r4 r5 r6 r7
    obtain ⟨⟨lt0, lt1⟩, ⟨b0, b1, b2, b3, b4, b5, b6, b7, q0, q1, q2, q3, q4, q5, q6, q7⟩, ⟨k0, k1, k2, k3, k4, k5, k6, k7, r0, r1, r2, r3, r4, r5, r6, r7⟩⟩ := hd1.facts
    have HD1 := Lib.hid hd1
    have T1 := Lib.hid (hT1.more (grow_low HDF.out.lt.2)); have L1 := Lib.hid (hL1.more (grow_low HDF.out.lt.2))
    have HB1 := Lib.hid hb1
    clear hd1 hT1 hL1 hb1
    go_wp2_with fail
    clear lt0 lt1 b0 b1 b2 b3 b4 b5 b6 b7 q0 q1 q2 q3 q4 q5 q6 q7 k0 k1 k2 k3 k4 k5 k6 k7 r0 r1 r2 r3 r4 r5 r6 r7
    have hp1 : ∀ b, Grow P (w.heap.size + 2) w1.heap.size b → b < (put8 w1 w.heap.size sec a1 tp.length c1 aL1 LL.length cL1 F (calls + 1)).heap.size := fun b hb => by simpa using grow_lt hP HD1.out.1.size b hb
    have hk1 := keep2 hP HD1.out.1.size (put8_apart [w.heap.size, w.heap.size + 1] w1 w.heap.size (by simp) sec a1 tp.length c1 aL1 LL.length cL1 F (calls + 1)) (Nat.le_refl _)
    refine (rmove9_any aL1 LL cL1 s d _ (put8 w1 w.heap.size sec a1 tp.length c1 aL1 LL.length cL1 F (calls + 1)) hp1 (L1.out.keep hk1) HLL.out.1 (by have := HLL.out.2.1; omega) (by have := HLL.out.2.2 _ (nowL_mem HLL.out.1); omega)).mono ?_
    rintro e w2 ⟨aL2, cL2, rfl, hL2, hb2⟩
    have hd2 := (HD1.out.put sec a1 tp.length c1 aL1 LL.length cL1 F (calls + 1)).on hb2
    have hs2 := HD1.out.lt.2
    obtain ⟨⟨lt0, lt1⟩, ⟨b0, b1, b2, b3, b4, b5, b6, b7, q0, q1, q2, q3, q4, q5, q6, q7⟩, ⟨k0, k1, k2, k3, k4, k5, k6, k7, r0, r1, r2, r3, r4, r5, r6, r7⟩⟩ := hd2.facts
    have ht2 := ((T1.out.keep hk1).below hp1 hb2).more (B' := Grow P (w.heap.size + 2) w2.heap.size) (fun b hb => grow_grow hs2 (by have := hb2.size; simpa using this) b (.inl hb))
    have hl2 := hL2.more (B' := Grow P (w.heap.size + 2) w2.heap.size) (fun b hb => grow_grow hs2 (by have := hb2.size; simpa using this) b (by simpa using hb))
    have HD2 := Lib.hid hd2; have T2 := Lib.hid ht2; have L2 := Lib.hid hl2
    clear hd2 ht2 hl2 hL2 hb2 hp1 hk1
    go_wp2
    refine bodyPost_ret (v := .tuple #[dskV sec a1 tp.length c1 aL2 (moveF LL s d).length cL2 F (calls + 1), .int .i64 0]) (by simp [results, Tryz.results117, go_sem, k0, k1, k2, k3, k4, k5, k6, k7]) rfl ?_
    refine retDE_end (n1 := w.heap.size + 2) (D := ⟨sec, tp, moveF LL s d, F, calls + 1⟩) hP HD2.out.1 ?_ (Nat.le_refl _) T2.out L2.out hz1 rfl rfl
    iterate 9 refine Apart.setCell ?_ (.inl (by simp)) _
    exact .refl _ _
  · rw [then_no _ _ _ hv]
    have t1 : (v == 0) = false := beq_eq_false_iff_ne.2 hv
    go_enter Tryz.func117, Tryz.ntmps117
    go_wp2_with fail
    refine (CI.out _ HW.out.1).mono ?_
    rintro e wf ⟨rfl, hbf⟩
    have hdf := HW.out.on hbf
    obtain ⟨⟨lt0, lt1⟩, ⟨b0, b1, b2, b3, b4, b5, b6, b7, q0, q1, q2, q3, q4, q5, q6, q7⟩, ⟨k0, k1, k2, k3, k4, k5, k6, k7, r0, r1, r2, r3, r4, r5, r6, r7⟩⟩ := hdf.facts
    have HDF := Lib.hid hdf
    clear hdf hbf
    go_wp2_with fail
    refine (CM.out _).mono ?_
    rintro e w' ⟨rfl, rfl⟩
    go_wp2_with fail
    refine (CA.out _ HDF.out.1).mono ?_
    rintro e w1 ⟨a1, c1, aL1, cL1, rfl, hT1, hL1, hz1, hb1⟩
    have hd1 := HDF.out.on hb1
    clear lt0 lt1 b0 b1 b2 b3 b4 b5 b6 b7 q0 q1 q2 q3 q4 q5 q6 q7 k0 k1 k2 k3 k4 k5 k6 k7 r0 r1 r2 r3 r4 r5 r6 r7
    obtain ⟨⟨lt0, lt1⟩, ⟨b0, b1, b2, b3, b4, b5, b6, b7, q0, q1, q2, q3, q4, q5, q6, q7⟩, ⟨k0, k1, k2, k3, k4, k5, k6, k7, r0, r1, r2, r3, r4, r5, r6, r7⟩⟩ := hd1.facts
    have HD1 := Lib.hid hd1
    have T1 := Lib.hid (hT1.more (grow_low HDF.out.lt.2)); have L1 := Lib.hid (hL1.more (grow_low HDF.out.lt.2))
    have HB1 := Lib.hid hb1
    clear hd1 hT1 hL1 hb1
    go_wp2
    refine bodyPost_ret (v := .tuple #[dskV sec a1 tp.length c1 aL1 LL.length cL1 F (calls + 1), .int .i64 v]) (by simp [results, Tryz.results117, go_sem, k0, k1, k2, k3, k4, k5, k6, k7]) rfl ?_
    refine retDE_end (D := ⟨sec, tp, LL, F, calls + 1⟩) hP HD1.out.1 ?_ (Nat.le_refl _) T1.out L1.out hz1 rfl rfl
    iterate 16 refine Apart.setCell ?_ (.inl (by simp)) _
    exact .refl _ _
end Go.Proofs.YtfgecjlccngddaaGreat
