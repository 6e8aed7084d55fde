/-
  Joined: StaRight, StaRight2, StaRef2, StaRef3, StaCopy, StaCopy2, StaFew, StaSame3.
-/
import Derived.Test.YtfiobemeogaaiaaGreatJStaSize
import Derived.Test.YtfiobemeogaaiaaGreatJStkRef2
import Derived.Test.YtfiobemeogaaiaaGreatJMarkDev
import Derived.Defers
import Derived.Test.YtfiobemeogaaiaaGreatJStaSame
import Derived.Test.YtfiobemeogaaiaaGreatMarkRef
import Derived.Deep.RegionHeld3
import Derived.Test.YtfiobemeogaaiaaGreatStaIter
import Derived.Test.YtfiobemeogaaiaaGreatJKnotRef
import Derived.Test.YtfiobemeogaaiaaGreatJEditCat
import Derived.Test.YtfiobemeogaaiaaGreatJStepRef2
import Derived.Test.YtfiobemeogaaiaaGreatJBlk
namespace Go.Proofs.YtfiobemeogaaiaaGreat
open Lib (hid)
open Go.RowKit
set_option linter.unusedVariables false
set_option linter.unusedSimpArgs false
def mayT (t : ByteArray) : Bool := decide (t.size ≤ 4096) && vldB t.data.toList
theorem maytext_any (t : ByteArray) (ht : t.size ≤ maxLen) (w : World) : Calls Tryz.prog 85 #[.string t] w fun e w' => e = .returned (.bool (mayT t)) ∧ Below w.heap.size w w' := by
  have cv := valid_any t ht
  unfold mayT
  obtain ⟨v, hv⟩ : ∃ v, vldB t.data.toList = v := ⟨_, rfl⟩
  rw [hv] at cv ⊢
  have CV := hid cv
  clear cv hv ht
  by_cases h : t.size ≤ 4096
  · have g : (t.size : Int) ≤ 4096 := by omega
    rw [decide_eq_true h, Bool.true_and]
    go_enter Tryz.func85, Tryz.ntmps85
    go_wp2_with (first | (go_at_call 123; refine (CV.out _).mono ?_; rintro e w1 ⟨rfl, hb1⟩))
    go_ret
    exact ⟨rfl, hb1⟩
  · have g : (4096 : Int) < (t.size : Int) := by omega
    rw [decide_eq_false h, Bool.false_and]
    go_enter Tryz.func85, Tryz.ntmps85
    go_wp2
    go_ret
    exact ⟨rfl, by first | exact Below.refl _ _ | exact (Below.refl _ _).drew⟩
def lastB (s : Sta) (below : ByteArray) : Bool := goes16 invL below (lsP s.u.l) && s.edits.all okE5
set_option maxRecDepth 100000 in
set_option maxHeartbeats 1600000 in
theorem right1_any (s : Sta) (below : ByteArray) (r0 : Bool) (b N : Nat) (u : FrameMode) (w : World) (hin : StaIn w s) (hN : N ≤ b) (h0 : Boxed w (b + 1) 4 (.bool r0)) (h1 : Boxed w (b + 2) 9 (.string below))
    (h2 : Box6 b (.string s.t) (.slice s.m.a s.m.l.length s.m.c) (.slice s.u.a s.u.l.length s.u.c) (.slice s.r.a s.r.l.length s.r.c) (.bool s.o) (.slice s.g.a s.g.l.length s.g.c) w)
    (ht : below.size ≤ 4294967296) (hu : s.u.l.length ≤ 100) (hr : s.r.l.length ≤ 100) (hz : ∀ x ∈ s.rows, x.l.length ≤ 100000 ∧ Edtz x.l 4294967296) :
    CallsD Tryz.prog 82 #[.pointer (some ⟨b + 1, 0, none⟩), .pointer (some ⟨b + 2, 0, none⟩), .pointer (some ⟨b, 0, none⟩)] u w fun e u' w' => u' = u ∧ e = .returned (.tuple #[]) ∧ Boxed w' (b + 1) 4 (.bool (r0 && lastB s below)) ∧ Below N w w' := by
  have cu := undoes_any below s.u.a s.u.l s.u.c w hin.u ht (by omega) (fun x hx => hz x (by unfold Sta.rows; simp [hx]))
  have ce := fun W (hW : Below w.heap.size w W) => mayedits_any s W (hin.later hW) hu hr (fun x hx => Nat.le_trans (hz x hx).1 (by decide))
  have hNz : N ≤ w.heap.size := Nat.le_trans hN (Nat.le_of_lt h2.lt)
  have f0 := h0.cell
  have f1 := h1.cell
  have f2 := h2.x2
  have fz := h0.frozen
  unfold lastB
  obtain ⟨R1, hR1⟩ : ∃ R, goes16 invL below (lsP s.u.l) = R := ⟨_, rfl⟩
  obtain ⟨R2, hR2⟩ : ∃ R, s.edits.all okE5 = R := ⟨_, rfl⟩
  rw [hR1] at cu ⊢
  rw [hR2] at ce ⊢
  have H0 := hid h0; have H2 := hid h2; have CU := hid cu; have CE := hid ce; have HNZ := hid hNz; have HN := hid hN
  clear h0 h1 h2 cu ce hR1 hR2 hin ht hu hr hz hNz hN
  cases r0 with
  | false =>
    rw [Bool.false_and]
    go_enter_d Tryz.func82, Tryz.ntmps82
    go_wp2
    go_end0
    exact ⟨rfl, H0.out.set _, (Below.refl _ _).setCell (p := ⟨b + 1, 0, none⟩) (by have := HN.out; show N ≤ b + 1; omega) _⟩
  | true =>
    rw [Bool.true_and]
    cases R1 with
    | false =>
      rw [Bool.false_and]
      go_enter_d Tryz.func82, Tryz.ntmps82
      go_wp2_with (first | (go_at_call 83; (with_reducible refine CU.out.mono ?_); rintro e w1 ⟨rfl, hb1⟩; have g0 := (hb1.block _ H0.out.lt).trans H0.out; have HG := hid (And.intro g0 hb1); have f0 := Boxed.cell (show Boxed w1 (b + 1) 4 _ from g0); have fz := Boxed.frozen (show Boxed w1 (b + 1) 4 _ from g0); clear g0 hb1))
      go_end0
      exact ⟨rfl, Boxed.set (t := 4) (v := .bool true) _ HG.out.1, (HG.out.2.mono HNZ.out).setCell (p := ⟨b + 1, 0, none⟩) (by have := HN.out; show N ≤ b + 1; omega) _⟩
    | true =>
      rw [Bool.true_and]
      go_enter_d Tryz.func82, Tryz.ntmps82
      go_wp2_with (first
        | (go_at_call 83; (with_reducible refine CU.out.mono ?_); rintro e w1 ⟨rfl, hb1⟩; have B1 := hid hb1; have g2 := H2.out.on hb1 H2.out.lt; have y0 := g2.x0; have y1 := g2.x1; have y2 := g2.x2; have y3 := g2.x3; have y4 := g2.x4; have y5 := g2.x5; clear g2 hb1 f0 f1 f2 fz)
        | (go_at_call 84; (with_reducible refine (CE.out _ B1.out).mono ?_); rintro e w2 ⟨rfl, hb2⟩; have g0 := (hb2.block _ (Nat.lt_of_lt_of_le H0.out.lt B1.out.size)).trans ((B1.out.block _ H0.out.lt).trans H0.out); have HG := hid (And.intro g0 (B1.out.trans (hb2.mono B1.out.size))); have f0 := Boxed.cell (show Boxed w2 (b + 1) 4 _ from g0); have fz := Boxed.frozen (show Boxed w2 (b + 1) 4 _ from g0); clear g0 hb2))
      go_end0
      exact ⟨rfl, Boxed.set (t := 4) (v := .bool true) _ HG.out.1, (HG.out.2.mono HNZ.out).setCell (p := ⟨b + 1, 0, none⟩) (by have := HN.out; show N ≤ b + 1; omega) _⟩
end Go.Proofs.YtfiobemeogaaiaaGreat
namespace Go.Proofs.YtfiobemeogaaiaaGreat
open Lib (hid)
open Go.RowKit
set_option linter.unusedVariables false
set_option linter.unusedSimpArgs false
structure RtI (w : World) (s : Sta) (r0 : Bool) (below : ByteArray) (W : World) : Prop where
  b0 : Box6 w.heap.size (.string s.t) (.slice s.m.a s.m.l.length s.m.c) (.slice s.u.a s.u.l.length s.u.c) (.slice s.r.a s.r.l.length s.r.c) (.bool s.o) (.slice s.g.a s.g.l.length s.g.c) W
  b1 : Boxed W (w.heap.size + 1) 4 (.bool r0)
  b2 : Boxed W (w.heap.size + 1 + 1) 9 (.string below)
  bel : Below w.heap.size w W
theorem RtI.on {w W W2 : World} {s : Sta} {r0 : Bool} {below : ByteArray} (h : RtI w s r0 below W) (hb : Below W.heap.size W W2) : RtI w s r0 below W2 :=
  ⟨h.b0.on hb h.b0.lt, (hb.block _ h.b1.lt).trans h.b1, (hb.block _ h.b2.lt).trans h.b2, h.bel.trans (hb.mono h.bel.size)⟩
theorem RtI.setr {w W : World} {s : Sta} {r0 : Bool} {below : ByteArray} (h : RtI w s r0 below W) (r : Bool) : RtI w s r below (W.setCell ⟨w.heap.size + 1, 0, none⟩ (.bool r)) :=
  ⟨h.b0.on ((Below.refl (w.heap.size + 1) W).setCell (p := ⟨w.heap.size + 1, 0, none⟩) (Nat.le_refl _) _) (Nat.lt_succ_self _), h.b1.set _, h.b2.other (by omega) _, h.bel.setCell (p := ⟨w.heap.size + 1, 0, none⟩) (by show w.heap.size ≤ w.heap.size + 1; omega) _⟩
theorem RtI.setb {w W : World} {s : Sta} {r0 : Bool} {below : ByteArray} (h : RtI w s r0 below W) (b : ByteArray) : RtI w s r0 b (W.setCell ⟨w.heap.size + 1 + 1, 0, none⟩ (.string b)) :=
  ⟨h.b0.on ((Below.refl (w.heap.size + 1) W).setCell (p := ⟨w.heap.size + 1 + 1, 0, none⟩) (by show w.heap.size + 1 ≤ w.heap.size + 1 + 1; omega) _) (Nat.lt_succ_self _), h.b1.other (by omega) _, h.b2.set _, h.bel.setCell (p := ⟨w.heap.size + 1 + 1, 0, none⟩) (by show w.heap.size ≤ w.heap.size + 1 + 1; omega) _⟩
theorem RtI.new (w : World) (s : Sta) : RtI w s false s.t (((w.alloc (.cells #[.string s.t, .slice s.m.a s.m.l.length s.m.c, .slice s.u.a s.u.l.length s.u.c, .slice s.r.a s.r.l.length s.r.c, .bool s.o, .slice s.g.a s.g.l.length s.g.c] 31)).alloc (.cells #[.bool false] 4)).alloc (.cells #[.string s.t] 9)) := by
  have e1 : (w.alloc (.cells #[.string s.t, .slice s.m.a s.m.l.length s.m.c, .slice s.u.a s.u.l.length s.u.c, .slice s.r.a s.r.l.length s.r.c, .bool s.o, .slice s.g.a s.g.l.length s.g.c] 31)).heap.size = w.heap.size + 1 := by simp
  refine ⟨((Box6.new w _ _ _ _ _ _ _).on (below1 _ _) (by simp)).on (below1 _ _) (by simp; omega), ?_, ?_, (below2 _ _ _).trans ((below1 _ _).mono (by simp; omega))⟩
  · have := Boxed.new (w.alloc (.cells #[.string s.t, .slice s.m.a s.m.l.length s.m.c, .slice s.u.a s.u.l.length s.u.c, .slice s.r.a s.r.l.length s.r.c, .bool s.o, .slice s.g.a s.g.l.length s.g.c] 31)) 4 (.bool false)
    rw [World.size_alloc] at this
    exact this.alloc _
  · have := Boxed.new ((w.alloc (.cells #[.string s.t, .slice s.m.a s.m.l.length s.m.c, .slice s.u.a s.u.l.length s.u.c, .slice s.r.a s.r.l.length s.r.c, .bool s.o, .slice s.g.a s.g.l.length s.g.c] 31)).alloc (.cells #[.bool false] 4)) 9 (.string s.t)
    rw [World.size_alloc, World.size_alloc] at this
    exact this
structure StaZ (s : Sta) : Prop where
  t : s.t.size ≤ 1000000000
  m : s.m.l.length ≤ 1000000
  mz : ∀ x ∈ s.m.l, x.name.size ≤ maxLen
  u : s.u.l.length ≤ 100
  r : s.r.l.length ≤ 100
  z : ∀ x ∈ s.rows, x.l.length ≤ 100000 ∧ Edtz x.l 4294967296
theorem StaZ.g {s : Sta} (h : StaZ s) : s.g.l.length ≤ 100000 ∧ Edtz s.g.l 4294967296 := h.z _ (by unfold Sta.rows; simp)
theorem right_door {s : Sta} {w W : World} {below : ByteArray} {r0 R : Bool} {tmps : Array Value} (hi : RtI w s r0 below W) (hR : (r0 && lastB s below) = R) (ht0 : tmps.getD 2 undef = .pointer (some ⟨w.heap.size + 1, 0, none⟩)) (hin : StaIn w s) (hbz : below.size ≤ 4294967296) (hz : StaZ s) :
    bodyPostD Tryz.prog Tryz.f42 (RetB R w) .ret { tmps := tmps, defers := [{ target := .fn (.func 82) #[.pointer (some ⟨w.heap.size + 1, 0, none⟩), .pointer (some ⟨w.heap.size + 1 + 1, 0, none⟩), .pointer (some ⟨w.heap.size, 0, none⟩)], args := #[] }] } W := by
  refine leaves_cons (f := 82) (args := #[.pointer (some ⟨w.heap.size + 1, 0, none⟩), .pointer (some ⟨w.heap.size + 1 + 1, 0, none⟩), .pointer (some ⟨w.heap.size, 0, none⟩)]) (by simp) (by simp [go_sem]) ?_
  refine (right1_any s below r0 w.heap.size w.heap.size .returning W (hin.later hi.bel) (Nat.le_refl _) hi.b1 hi.b2 hi.b0 hbz hz.u hz.r hz.z).mono ?_
  rintro e u' w'' ⟨rfl, rfl, hbox, hbel⟩
  exact ⟨_, result_bool rfl Tryz.underlying4 (by intro w; kernel_rfl) _ _ ⟨w.heap.size + 1, 0, none⟩ R ht0 (by rw [← hR]; exact hbox.cell), rfl, hi.bel.trans hbel⟩
def rightP (s : Sta) : Bool := mayT s.t && (rightM s.m.l s.t && (goes16 id s.t (lsP s.r.l) && (if s.g.l.length = 0 then lastB s s.t else (s.o && (decide (s.r.l.length = 0) && (rightS s.t (invL s.g.l) && lastB s (runE s.t (invL s.g.l)).1))))))
set_option maxRecDepth 100000 in
set_option maxHeartbeats 3200000 in
theorem stright_any (s : Sta) (w : World) (hin : StaIn w s) (hz : StaZ s) : Calls Tryz.prog 42 #[s.v] w (RetB (rightP s) w) := by
  have hmf : ∀ (fn : Fn) (first cap : Array Value) (w : World), (Instr.makeFunc fn first cap).run Tryz.prog w = .ok (.func fn first cap) w := fun _ _ _ _ => rfl
  have cT := fun W => maytext_any s.t (by have := hz.t; unfold maxLen; omega) W
  have cM := fun W (hW : Below w.heap.size w W) => mright_any s.m.a s.m.l s.m.c s.t _ W (hin.later hW).m.row (fun _ h => h) hz.mz (by have := hz.t; unfold maxLen; omega) hz.m
  have cD := fun W (hW : Below w.heap.size w W) => redoes_any s.t s.r.a s.r.l s.r.c W (hin.later hW).r (by have := hz.t; omega) (by have := hz.r; omega) (fun x hx => hz.z x (by unfold Sta.rows; simp [hx]))
  have cI := fun W (hW : Below w.heap.size w W) => sinv_any s.g.a s.g.l s.g.c W (hin.later hW).g.row hz.g.1
  have cR := fun W (hW : Below w.heap.size w W) ba bc (hr : EPcs W ⟨ba, invL s.g.l, bc⟩) => by
    have h := sright_any s.t ba (invL s.g.l) bc W hr.row (by have := hz.t; omega) (by rw [invL_len]; have := hz.g.1; omega) hz.g.2.inv
    rw [invL_len] at h
    exact h
  have cX := fun W (hW : Below w.heap.size w W) ba bc (hr : EPcs W ⟨ba, invL s.g.l, bc⟩) => by
    have h := srun_any s.t ba (invL s.g.l) bc W hr.row (by have := hz.t; omega) (by rw [invL_len]; have := hz.g.1; omega) hz.g.2.inv
    rw [invL_len] at h
    exact h
  have hi := RtI.new w s
  have htz : s.t.size ≤ 4294967296 := by have := hz.t; omega
  have hsz : rightS s.t (invL s.g.l) = true → (runE s.t (invL s.g.l)).1.size ≤ 4294967296 := fun h => by have := rightS_size h; have := hz.t; omega
  unfold rightP
  obtain ⟨T, hT⟩ : ∃ T, mayT s.t = T := ⟨_, rfl⟩
  obtain ⟨M, hM⟩ : ∃ M, rightM s.m.l s.t = M := ⟨_, rfl⟩
  obtain ⟨Q, hQ⟩ : ∃ Q, goes16 id s.t (lsP s.r.l) = Q := ⟨_, rfl⟩
  obtain ⟨V, hV⟩ : ∃ V, rightS s.t (invL s.g.l) = V := ⟨_, rfl⟩
  obtain ⟨⟨B, E⟩, hB⟩ : ∃ B, runE s.t (invL s.g.l) = B := ⟨_, rfl⟩
  obtain ⟨L0, hL0⟩ : ∃ L, lastB s s.t = L := ⟨_, rfl⟩
  rw [hB] at cX hsz
  rw [hT] at cT; rw [hM] at cM; rw [hQ] at cD; rw [hV] at cR hsz
  rw [hT, hM, hQ, hV, hB, hL0]
  dsimp only
  obtain ⟨L1, hL1⟩ : ∃ L, lastB s B = L := ⟨_, rfl⟩
  rw [hL1]
  obtain ⟨wX, hwX⟩ : ∃ wX, ((w.alloc (.cells #[.string s.t, .slice s.m.a s.m.l.length s.m.c, .slice s.u.a s.u.l.length s.u.c, .slice s.r.a s.r.l.length s.r.c, .bool s.o, .slice s.g.a s.g.l.length s.g.c] 31)).alloc (.cells #[.bool false] 4)).alloc (.cells #[.string s.t] 9) = wX := ⟨_, rfl⟩
  rw [hwX] at hi
  have hrl : s.r.l.length ≤ 100 := hz.r
  have hgl : s.g.l.length ≤ 100000 := hz.g.1
  have HI0 := hid hi; have CT := hid cT; have CM := hid cM; have CD := hid cD; have CI := hid cI; have CR := hid cR; have CX := hid cX; have HIN := hid hin; have HZ := hid hz; have HL0 := hid hL0; have HL1 := hid hL1; have HTZ := hid htz; have HSZ := hid hsz
  have p0 := HI0.out.b0.x0
  have p1 := HI0.out.b0.x1
  have p3 := HI0.out.b0.x3
  have p4 := HI0.out.b0.x4
  have p5 := HI0.out.b0.x5
  have c1 := HI0.out.b1.cell
  have z1 := HI0.out.b1.frozen
  have c2 := HI0.out.b2.cell
  have z2 := HI0.out.b2.frozen
  clear hi cT cM cD cI cR cX hin hz hT hM hQ hV hB hL0 hL1 htz hsz
  cases T with
  | false =>
    rw [Bool.false_and]
    go_enter_defers Tryz.func42, Tryz.ntmps42
    go_wp2_with (first
      | (go_at_call 85; (with_reducible refine (CT.out _).mono ?_); rintro e w1 ⟨rfl, hb1⟩; have HI1 := hid (HI0.out.on hb1); clear hb1; clear p0 p1 p3 p4 p5 c1 z1 c2 z2; have p0 := HI1.out.b0.x0; have p1 := HI1.out.b0.x1; have p3 := HI1.out.b0.x3; have p4 := HI1.out.b0.x4; have p5 := HI1.out.b0.x5; have c1 := HI1.out.b1.cell; have z1 := HI1.out.b1.frozen; have c2 := HI1.out.b2.cell; have z2 := HI1.out.b2.frozen))
    exact right_door (HI1.out.setr false) (by rfl) rfl HIN.out HTZ.out HZ.out
  | true =>
    rw [Bool.true_and]
    cases M with
    | false =>
      rw [Bool.false_and]
      go_enter_defers Tryz.func42, Tryz.ntmps42
      go_wp2_with (first
        | (go_at_call 85; (with_reducible refine (CT.out _).mono ?_); rintro e w1 ⟨rfl, hb1⟩; have HI1 := hid (HI0.out.on hb1); clear hb1; clear p0 p1 p3 p4 p5 c1 z1 c2 z2; have p0 := HI1.out.b0.x0; have p1 := HI1.out.b0.x1; have p3 := HI1.out.b0.x3; have p4 := HI1.out.b0.x4; have p5 := HI1.out.b0.x5; have c1 := HI1.out.b1.cell; have z1 := HI1.out.b1.frozen; have c2 := HI1.out.b2.cell; have z2 := HI1.out.b2.frozen)
        | (go_at_call 86; (with_reducible refine (CM.out _ HI1.out.bel).mono ?_); rintro e w2 ⟨rfl, hb2⟩; have HI2 := hid (HI1.out.on hb2); clear hb2; clear p0 p1 p3 p4 p5 c1 z1 c2 z2; have p0 := HI2.out.b0.x0; have p1 := HI2.out.b0.x1; have p3 := HI2.out.b0.x3; have p4 := HI2.out.b0.x4; have p5 := HI2.out.b0.x5; have c1 := HI2.out.b1.cell; have z1 := HI2.out.b1.frozen; have c2 := HI2.out.b2.cell; have z2 := HI2.out.b2.frozen))
      exact right_door (HI2.out.setr false) (by rfl) rfl HIN.out HTZ.out HZ.out
    | true =>
      rw [Bool.true_and]
      cases Q with
      | false =>
        rw [Bool.false_and]
        go_enter_defers Tryz.func42, Tryz.ntmps42
        go_wp2_with (first
          | (go_at_call 85; (with_reducible refine (CT.out _).mono ?_); rintro e w1 ⟨rfl, hb1⟩; have HI1 := hid (HI0.out.on hb1); clear hb1; clear p0 p1 p3 p4 p5 c1 z1 c2 z2; have p0 := HI1.out.b0.x0; have p1 := HI1.out.b0.x1; have p3 := HI1.out.b0.x3; have p4 := HI1.out.b0.x4; have p5 := HI1.out.b0.x5; have c1 := HI1.out.b1.cell; have z1 := HI1.out.b1.frozen; have c2 := HI1.out.b2.cell; have z2 := HI1.out.b2.frozen)
          | (go_at_call 86; (with_reducible refine (CM.out _ HI1.out.bel).mono ?_); rintro e w2 ⟨rfl, hb2⟩; have HI2 := hid (HI1.out.on hb2); clear hb2; clear p0 p1 p3 p4 p5 c1 z1 c2 z2; have p0 := HI2.out.b0.x0; have p1 := HI2.out.b0.x1; have p3 := HI2.out.b0.x3; have p4 := HI2.out.b0.x4; have p5 := HI2.out.b0.x5; have c1 := HI2.out.b1.cell; have z1 := HI2.out.b1.frozen; have c2 := HI2.out.b2.cell; have z2 := HI2.out.b2.frozen)
          | (go_at_call 87; (with_reducible refine (CD.out _ HI2.out.bel).mono ?_); rintro e w3 ⟨rfl, hb3⟩; have HI3 := hid (HI2.out.on hb3); clear hb3; clear p0 p1 p3 p4 p5 c1 z1 c2 z2; have p0 := HI3.out.b0.x0; have p1 := HI3.out.b0.x1; have p3 := HI3.out.b0.x3; have p4 := HI3.out.b0.x4; have p5 := HI3.out.b0.x5; have c1 := HI3.out.b1.cell; have z1 := HI3.out.b1.frozen; have c2 := HI3.out.b2.cell; have z2 := HI3.out.b2.frozen))
        exact right_door (HI3.out.setr false) (by rfl) rfl HIN.out HTZ.out HZ.out
      | true =>
        rw [Bool.true_and]
        by_cases hg : s.g.l.length = 0
        · rw [if_pos hg]
          have hg2 : (s.g.l.length : Int) ≤ 0 := by omega
          clear hg
          go_enter_defers Tryz.func42, Tryz.ntmps42
          go_wp2_with (first
            | (go_at_call 85; (with_reducible refine (CT.out _).mono ?_); rintro e w1 ⟨rfl, hb1⟩; have HI1 := hid (HI0.out.on hb1); clear hb1; clear p0 p1 p3 p4 p5 c1 z1 c2 z2; have p0 := HI1.out.b0.x0; have p1 := HI1.out.b0.x1; have p3 := HI1.out.b0.x3; have p4 := HI1.out.b0.x4; have p5 := HI1.out.b0.x5; have c1 := HI1.out.b1.cell; have z1 := HI1.out.b1.frozen; have c2 := HI1.out.b2.cell; have z2 := HI1.out.b2.frozen)
            | (go_at_call 86; (with_reducible refine (CM.out _ HI1.out.bel).mono ?_); rintro e w2 ⟨rfl, hb2⟩; have HI2 := hid (HI1.out.on hb2); clear hb2; clear p0 p1 p3 p4 p5 c1 z1 c2 z2; have p0 := HI2.out.b0.x0; have p1 := HI2.out.b0.x1; have p3 := HI2.out.b0.x3; have p4 := HI2.out.b0.x4; have p5 := HI2.out.b0.x5; have c1 := HI2.out.b1.cell; have z1 := HI2.out.b1.frozen; have c2 := HI2.out.b2.cell; have z2 := HI2.out.b2.frozen)
            | (go_at_call 87; (with_reducible refine (CD.out _ HI2.out.bel).mono ?_); rintro e w3 ⟨rfl, hb3⟩; have HI3 := hid (HI2.out.on hb3); clear hb3; clear p0 p1 p3 p4 p5 c1 z1 c2 z2; have p0 := HI3.out.b0.x0; have p1 := HI3.out.b0.x1; have p3 := HI3.out.b0.x3; have p4 := HI3.out.b0.x4; have p5 := HI3.out.b0.x5; have c1 := HI3.out.b1.cell; have z1 := HI3.out.b1.frozen; have c2 := HI3.out.b2.cell; have z2 := HI3.out.b2.frozen))
          exact right_door (HI3.out.setr true) (by rw [HL0.out]; rfl) rfl HIN.out HTZ.out HZ.out
        · rw [if_neg hg]
          have hg2 : (0 : Int) < (s.g.l.length : Int) := by omega
          have hor : s.o = true ∨ s.o = false := by cases s.o <;> simp
          rcases hor with ho | ho
          · rw [ho, Bool.true_and]
            by_cases hr : s.r.l.length = 0
            · rw [decide_eq_true hr, Bool.true_and]
              have hr2 : (s.r.l.length : Int) ≤ 0 := by omega
              have hr3 : ¬ 0 < s.r.l.length := by omega
              clear hr
              cases V with
              | false =>
                rw [Bool.false_and]
                go_enter_defers Tryz.func42, Tryz.ntmps42
                go_upto_region 7 with (first
                  | (go_at_call 85; (with_reducible refine (CT.out _).mono ?_); rintro e w1 ⟨rfl, hb1⟩; have HI1 := hid (HI0.out.on hb1); clear hb1; clear p0 p1 p3 p4 p5 c1 z1 c2 z2; have p0 := HI1.out.b0.x0; have p1 := HI1.out.b0.x1; have p3 := HI1.out.b0.x3; have p4 := HI1.out.b0.x4; have p5 := HI1.out.b0.x5; have c1 := HI1.out.b1.cell; have z1 := HI1.out.b1.frozen; have c2 := HI1.out.b2.cell; have z2 := HI1.out.b2.frozen)
                  | (go_at_call 86; (with_reducible refine (CM.out _ HI1.out.bel).mono ?_); rintro e w2 ⟨rfl, hb2⟩; have HI2 := hid (HI1.out.on hb2); clear hb2; clear p0 p1 p3 p4 p5 c1 z1 c2 z2; have p0 := HI2.out.b0.x0; have p1 := HI2.out.b0.x1; have p3 := HI2.out.b0.x3; have p4 := HI2.out.b0.x4; have p5 := HI2.out.b0.x5; have c1 := HI2.out.b1.cell; have z1 := HI2.out.b1.frozen; have c2 := HI2.out.b2.cell; have z2 := HI2.out.b2.frozen)
                  | (go_at_call 87; (with_reducible refine (CD.out _ HI2.out.bel).mono ?_); rintro e w3 ⟨rfl, hb3⟩; have HI3 := hid (HI2.out.on hb3); clear hb3; clear p0 p1 p3 p4 p5 c1 z1 c2 z2; have p0 := HI3.out.b0.x0; have p1 := HI3.out.b0.x1; have p3 := HI3.out.b0.x3; have p4 := HI3.out.b0.x4; have p5 := HI3.out.b0.x5; have c1 := HI3.out.b1.cell; have z1 := HI3.out.b1.frozen; have c2 := HI3.out.b2.cell; have z2 := HI3.out.b2.frozen)
                  | (go_at_call 88; refine (CI.out _ HI3.out.bel).mono ?_; rintro e w4 ⟨ba, bc, rfl, hrow, hb4⟩; have HI4 := hid (HI3.out.on hb4); have HROW := hid hrow; clear hb4 hrow; clear p0 p1 p3 p4 p5 c1 z1 c2 z2))
                rw [invL_len]
                obtain ⟨w5, hw5⟩ : ∃ w5, w4.alloc (.cells #[.slice ba s.g.l.length bc] 69) = w5 := ⟨_, rfl⟩
                rw [hw5]
                have hb5 : Below w4.heap.size w4 w5 := by rw [← hw5]; exact below1 _ _
                have HI5 := hid (HI4.out.on hb5); have HE5 := hid (HROW.out.in.later hb5); have HW5 := hid (show w4.heap.size < w5.heap.size by rw [← hw5]; simp)
                have k0 : w5.cell? ⟨w4.heap.size, 0, none⟩ = some (.slice ba s.g.l.length bc) := by rw [← hw5]; simp [World.cell?_alloc_new]
                have HK5 := hid k0
                clear hw5 hb5
                have p0 := HI5.out.b0.x0
                have p1 := HI5.out.b0.x1
                have p3 := HI5.out.b0.x3
                have p4 := HI5.out.b0.x4
                have p5 := HI5.out.b0.x5
                have c1 := HI5.out.b1.cell
                have z1 := HI5.out.b1.frozen
                have c2 := HI5.out.b2.cell
                have z2 := HI5.out.b2.frozen
                rw [ho] at p4
                go_wp2_with (first
                  | (go_at_call 89; (with_reducible refine (CR.out _ HI5.out.bel _ _ HE5.out).mono ?_); rintro e w6 ⟨rfl, hb6⟩; have HI6 := hid (HI5.out.on hb6); have HE6 := hid (HE5.out.later hb6); have HK6 := hid ((hb6.cell (p := ⟨w4.heap.size, 0, none⟩) HW5.out).trans HK5.out); clear hb6 k0; clear p0 p1 p3 p4 p5 c1 z1 c2 z2; have p0 := HI6.out.b0.x0; have p1 := HI6.out.b0.x1; have p3 := HI6.out.b0.x3; have p4 := HI6.out.b0.x4; have p5 := HI6.out.b0.x5; have c1 := HI6.out.b1.cell; have z1 := HI6.out.b1.frozen; have c2 := HI6.out.b2.cell; have z2 := HI6.out.b2.frozen; have k0 := HK6.out))
                exact right_door (HI6.out.setr false) (by rfl) rfl HIN.out HTZ.out HZ.out
              | true =>
                rw [Bool.true_and]
                go_enter_defers Tryz.func42, Tryz.ntmps42
                go_upto_region 7 with (first
                  | (go_at_call 85; (with_reducible refine (CT.out _).mono ?_); rintro e w1 ⟨rfl, hb1⟩; have HI1 := hid (HI0.out.on hb1); clear hb1; clear p0 p1 p3 p4 p5 c1 z1 c2 z2; have p0 := HI1.out.b0.x0; have p1 := HI1.out.b0.x1; have p3 := HI1.out.b0.x3; have p4 := HI1.out.b0.x4; have p5 := HI1.out.b0.x5; have c1 := HI1.out.b1.cell; have z1 := HI1.out.b1.frozen; have c2 := HI1.out.b2.cell; have z2 := HI1.out.b2.frozen)
                  | (go_at_call 86; (with_reducible refine (CM.out _ HI1.out.bel).mono ?_); rintro e w2 ⟨rfl, hb2⟩; have HI2 := hid (HI1.out.on hb2); clear hb2; clear p0 p1 p3 p4 p5 c1 z1 c2 z2; have p0 := HI2.out.b0.x0; have p1 := HI2.out.b0.x1; have p3 := HI2.out.b0.x3; have p4 := HI2.out.b0.x4; have p5 := HI2.out.b0.x5; have c1 := HI2.out.b1.cell; have z1 := HI2.out.b1.frozen; have c2 := HI2.out.b2.cell; have z2 := HI2.out.b2.frozen)
                  | (go_at_call 87; (with_reducible refine (CD.out _ HI2.out.bel).mono ?_); rintro e w3 ⟨rfl, hb3⟩; have HI3 := hid (HI2.out.on hb3); clear hb3; clear p0 p1 p3 p4 p5 c1 z1 c2 z2; have p0 := HI3.out.b0.x0; have p1 := HI3.out.b0.x1; have p3 := HI3.out.b0.x3; have p4 := HI3.out.b0.x4; have p5 := HI3.out.b0.x5; have c1 := HI3.out.b1.cell; have z1 := HI3.out.b1.frozen; have c2 := HI3.out.b2.cell; have z2 := HI3.out.b2.frozen)
                  | (go_at_call 88; refine (CI.out _ HI3.out.bel).mono ?_; rintro e w4 ⟨ba, bc, rfl, hrow, hb4⟩; have HI4 := hid (HI3.out.on hb4); have HROW := hid hrow; clear hb4 hrow; clear p0 p1 p3 p4 p5 c1 z1 c2 z2))
                rw [invL_len]
                obtain ⟨w5, hw5⟩ : ∃ w5, w4.alloc (.cells #[.slice ba s.g.l.length bc] 69) = w5 := ⟨_, rfl⟩
                rw [hw5]
                have hb5 : Below w4.heap.size w4 w5 := by rw [← hw5]; exact below1 _ _
                have HI5 := hid (HI4.out.on hb5); have HE5 := hid (HROW.out.in.later hb5); have HW5 := hid (show w4.heap.size < w5.heap.size by rw [← hw5]; simp)
                have k0 : w5.cell? ⟨w4.heap.size, 0, none⟩ = some (.slice ba s.g.l.length bc) := by rw [← hw5]; simp [World.cell?_alloc_new]
                have HK5 := hid k0
                clear hw5 hb5
                have p0 := HI5.out.b0.x0
                have p1 := HI5.out.b0.x1
                have p3 := HI5.out.b0.x3
                have p4 := HI5.out.b0.x4
                have p5 := HI5.out.b0.x5
                have c1 := HI5.out.b1.cell
                have z1 := HI5.out.b1.frozen
                have c2 := HI5.out.b2.cell
                have z2 := HI5.out.b2.frozen
                rw [ho] at p4
                go_wp2_with (first
                  | (go_at_call 89; (with_reducible refine (CR.out _ HI5.out.bel _ _ HE5.out).mono ?_); rintro e w6 ⟨rfl, hb6⟩; have HI6 := hid (HI5.out.on hb6); have HE6 := hid (HE5.out.later hb6); have HK6 := hid ((hb6.cell (p := ⟨w4.heap.size, 0, none⟩) HW5.out).trans HK5.out); clear hb6 k0; clear p0 p1 p3 p4 p5 c1 z1 c2 z2; have p0 := HI6.out.b0.x0; have p1 := HI6.out.b0.x1; have p3 := HI6.out.b0.x3; have p4 := HI6.out.b0.x4; have p5 := HI6.out.b0.x5; have c1 := HI6.out.b1.cell; have z1 := HI6.out.b1.frozen; have c2 := HI6.out.b2.cell; have z2 := HI6.out.b2.frozen; have k0 := HK6.out)
                  | (go_at_call 90; (with_reducible refine (CX.out _ HI6.out.bel _ _ HE6.out).mono ?_); rintro e w7 ⟨rfl, hb7⟩; have HI7 := hid (HI6.out.on hb7); clear hb7 k0; clear p0 p1 p3 p4 p5 c1 z1 c2 z2; have p0 := HI7.out.b0.x0; have p1 := HI7.out.b0.x1; have p3 := HI7.out.b0.x3; have p4 := HI7.out.b0.x4; have p5 := HI7.out.b0.x5; have c1 := HI7.out.b1.cell; have z1 := HI7.out.b1.frozen; have c2 := HI7.out.b2.cell; have z2 := HI7.out.b2.frozen; have z1b := (HI7.out.setb B).b1.frozen; have c1b := (HI7.out.setb B).b1.cell))
                exact right_door ((HI7.out.setb B).setr true) (by rw [HL1.out]; rfl) rfl HIN.out (HSZ.out (by trivial)) HZ.out
            · rw [decide_eq_false hr, Bool.false_and]
              have hr2 : (0 : Int) < (s.r.l.length : Int) := by omega
              go_enter_defers Tryz.func42, Tryz.ntmps42
              go_upto_region 7 with (first
                | (go_at_call 85; (with_reducible refine (CT.out _).mono ?_); rintro e w1 ⟨rfl, hb1⟩; have HI1 := hid (HI0.out.on hb1); clear hb1; clear p0 p1 p3 p4 p5 c1 z1 c2 z2; have p0 := HI1.out.b0.x0; have p1 := HI1.out.b0.x1; have p3 := HI1.out.b0.x3; have p4 := HI1.out.b0.x4; have p5 := HI1.out.b0.x5; have c1 := HI1.out.b1.cell; have z1 := HI1.out.b1.frozen; have c2 := HI1.out.b2.cell; have z2 := HI1.out.b2.frozen)
                | (go_at_call 86; (with_reducible refine (CM.out _ HI1.out.bel).mono ?_); rintro e w2 ⟨rfl, hb2⟩; have HI2 := hid (HI1.out.on hb2); clear hb2; clear p0 p1 p3 p4 p5 c1 z1 c2 z2; have p0 := HI2.out.b0.x0; have p1 := HI2.out.b0.x1; have p3 := HI2.out.b0.x3; have p4 := HI2.out.b0.x4; have p5 := HI2.out.b0.x5; have c1 := HI2.out.b1.cell; have z1 := HI2.out.b1.frozen; have c2 := HI2.out.b2.cell; have z2 := HI2.out.b2.frozen)
                | (go_at_call 87; (with_reducible refine (CD.out _ HI2.out.bel).mono ?_); rintro e w3 ⟨rfl, hb3⟩; have HI3 := hid (HI2.out.on hb3); clear hb3; clear p0 p1 p3 p4 p5 c1 z1 c2 z2; have p0 := HI3.out.b0.x0; have p1 := HI3.out.b0.x1; have p3 := HI3.out.b0.x3; have p4 := HI3.out.b0.x4; have p5 := HI3.out.b0.x5; have c1 := HI3.out.b1.cell; have z1 := HI3.out.b1.frozen; have c2 := HI3.out.b2.cell; have z2 := HI3.out.b2.frozen)
                | (go_at_call 88; refine (CI.out _ HI3.out.bel).mono ?_; rintro e w4 ⟨ba, bc, rfl, hrow, hb4⟩; have HI4 := hid (HI3.out.on hb4); have HROW := hid hrow; clear hb4 hrow; clear p0 p1 p3 p4 p5 c1 z1 c2 z2))
              rw [invL_len]
              obtain ⟨w5, hw5⟩ : ∃ w5, w4.alloc (.cells #[.slice ba s.g.l.length bc] 69) = w5 := ⟨_, rfl⟩
              rw [hw5]
              have hb5 : Below w4.heap.size w4 w5 := by rw [← hw5]; exact below1 _ _
              have HI5 := hid (HI4.out.on hb5); have HE5 := hid (HROW.out.in.later hb5); have HW5 := hid (show w4.heap.size < w5.heap.size by rw [← hw5]; simp)
              have k0 : w5.cell? ⟨w4.heap.size, 0, none⟩ = some (.slice ba s.g.l.length bc) := by rw [← hw5]; simp [World.cell?_alloc_new]
              have HK5 := hid k0
              clear hw5 hb5
              have p0 := HI5.out.b0.x0
              have p1 := HI5.out.b0.x1
              have p3 := HI5.out.b0.x3
              have p4 := HI5.out.b0.x4
              have p5 := HI5.out.b0.x5
              have c1 := HI5.out.b1.cell
              have z1 := HI5.out.b1.frozen
              have c2 := HI5.out.b2.cell
              have z2 := HI5.out.b2.frozen
              rw [ho] at p4
              go_wp2
              exact right_door (HI5.out.setr false) (by rfl) rfl HIN.out HTZ.out HZ.out
          · rw [ho, Bool.false_and]
            go_enter_defers Tryz.func42, Tryz.ntmps42
            go_upto_region 7 with (first
              | (go_at_call 85; (with_reducible refine (CT.out _).mono ?_); rintro e w1 ⟨rfl, hb1⟩; have HI1 := hid (HI0.out.on hb1); clear hb1; clear p0 p1 p3 p4 p5 c1 z1 c2 z2; have p0 := HI1.out.b0.x0; have p1 := HI1.out.b0.x1; have p3 := HI1.out.b0.x3; have p4 := HI1.out.b0.x4; have p5 := HI1.out.b0.x5; have c1 := HI1.out.b1.cell; have z1 := HI1.out.b1.frozen; have c2 := HI1.out.b2.cell; have z2 := HI1.out.b2.frozen)
              | (go_at_call 86; (with_reducible refine (CM.out _ HI1.out.bel).mono ?_); rintro e w2 ⟨rfl, hb2⟩; have HI2 := hid (HI1.out.on hb2); clear hb2; clear p0 p1 p3 p4 p5 c1 z1 c2 z2; have p0 := HI2.out.b0.x0; have p1 := HI2.out.b0.x1; have p3 := HI2.out.b0.x3; have p4 := HI2.out.b0.x4; have p5 := HI2.out.b0.x5; have c1 := HI2.out.b1.cell; have z1 := HI2.out.b1.frozen; have c2 := HI2.out.b2.cell; have z2 := HI2.out.b2.frozen)
              | (go_at_call 87; (with_reducible refine (CD.out _ HI2.out.bel).mono ?_); rintro e w3 ⟨rfl, hb3⟩; have HI3 := hid (HI2.out.on hb3); clear hb3; clear p0 p1 p3 p4 p5 c1 z1 c2 z2; have p0 := HI3.out.b0.x0; have p1 := HI3.out.b0.x1; have p3 := HI3.out.b0.x3; have p4 := HI3.out.b0.x4; have p5 := HI3.out.b0.x5; have c1 := HI3.out.b1.cell; have z1 := HI3.out.b1.frozen; have c2 := HI3.out.b2.cell; have z2 := HI3.out.b2.frozen)
              | (go_at_call 88; refine (CI.out _ HI3.out.bel).mono ?_; rintro e w4 ⟨ba, bc, rfl, hrow, hb4⟩; have HI4 := hid (HI3.out.on hb4); have HROW := hid hrow; clear hb4 hrow; clear p0 p1 p3 p4 p5 c1 z1 c2 z2))
            rw [invL_len]
            obtain ⟨w5, hw5⟩ : ∃ w5, w4.alloc (.cells #[.slice ba s.g.l.length bc] 69) = w5 := ⟨_, rfl⟩
            rw [hw5]
            have hb5 : Below w4.heap.size w4 w5 := by rw [← hw5]; exact below1 _ _
            have HI5 := hid (HI4.out.on hb5); have HE5 := hid (HROW.out.in.later hb5); have HW5 := hid (show w4.heap.size < w5.heap.size by rw [← hw5]; simp)
            have k0 : w5.cell? ⟨w4.heap.size, 0, none⟩ = some (.slice ba s.g.l.length bc) := by rw [← hw5]; simp [World.cell?_alloc_new]
            have HK5 := hid k0
            clear hw5 hb5
            have p0 := HI5.out.b0.x0
            have p1 := HI5.out.b0.x1
            have p3 := HI5.out.b0.x3
            have p4 := HI5.out.b0.x4
            have p5 := HI5.out.b0.x5
            have c1 := HI5.out.b1.cell
            have z1 := HI5.out.b1.frozen
            have c2 := HI5.out.b2.cell
            have z2 := HI5.out.b2.frozen
            rw [ho] at p4
            go_wp2
            exact right_door (HI5.out.setr false) (by rfl) rfl HIN.out HTZ.out HZ.out
end Go.Proofs.YtfiobemeogaaiaaGreat
namespace Go.Proofs.YtfiobemeogaaiaaGreat
open Lib (hid)
open Go.RowKit
set_option linter.unusedVariables false
set_option linter.unusedSimpArgs false
structure RdI (w : World) (s : Sta) (W : World) : Prop where
  b0 : Box6 w.heap.size (.string s.t) (.slice s.m.a s.m.l.length s.m.c) (.slice s.u.a s.u.l.length s.u.c) (.slice s.r.a s.r.l.length s.r.c) (.bool s.o) (.slice s.g.a s.g.l.length s.g.c) W
  bel : Below w.heap.size w W
theorem RdI.on {w W W2 : World} {s : Sta} (h : RdI w s W) (hb : Below W.heap.size W W2) : RdI w s W2 := ⟨h.b0.on hb h.b0.lt, h.bel.trans (hb.mono h.bel.size)⟩
theorem RdI.new (w : World) (s : Sta) : RdI w s (w.alloc (.cells #[.string s.t, .slice s.m.a s.m.l.length s.m.c, .slice s.u.a s.u.l.length s.u.c, .slice s.r.a s.r.l.length s.r.c, .bool s.o, .slice s.g.a s.g.l.length s.g.c] 31)) := ⟨Box6.new w _ _ _ _ _ _ _, below1 _ _⟩
theorem one_stk {W : World} {g : EPc} (h : EPcs W g) (t : TypeId) : SPcs (W.alloc (.cells #[.slice g.a g.l.length g.c] t)) ⟨some ⟨W.heap.size, 0, none⟩, [g], 1⟩ :=
  ⟨fun k hk => by
      have : k = 0 := by have h : k < 1 := hk; omega
      subst this
      exact ⟨_, rfl, by show W.heap.size < _; simp, by show World.cell? _ (Addr.add ⟨W.heap.size, 0, none⟩ 0) = _; simp [Addr.add, World.cell?_alloc_new, EPc.v]⟩, fun x hx => by
      obtain rfl := List.mem_singleton.1 hx
      exact h.later (below1 _ _), fun e => (by cases e), Nat.le_refl _, by show 1 ≤ maxLen; unfold maxLen; omega⟩
def rightD (s : Sta) : Bool := vldB s.t.data.toList && (decide (s.t.size ≤ 4096) && (rightM s.m.l s.t && (decide (s.u.l.length ≤ 16) && (decide (s.r.l.length ≤ 16) && (decide (s.g.l.length ≤ 32) && (smallE s.u.l && (smallE s.r.l && (smallE [s.g] &&
  (if s.g.l.length = 0 then goes16 invL s.t (lsP s.u.l) && goes16 id s.t (lsP s.r.l) else (s.o && (decide (s.r.l.length = 0) && (rightS s.t (invL s.g.l) && (goes16 invL (runE s.t (invL s.g.l)).1 (lsP s.u.l) && goes16 id s.t (lsP s.r.l))))))))))))))
theorem goes16_len {f : List Edt → List Edt} {t : ByteArray} {l : List EPc} (h : goes16 f t (lsP l) = true) : l.length ≤ 16 := by
  unfold goes16 at h
  rw [Bool.and_eq_true, decide_eq_true_eq, lsP_len] at h
  exact h.2
theorem rightS_len {t : ByteArray} {l : List Edt} (h : rightS t l = true) : l.length ≤ 32 := by
  unfold rightS at h
  simp only [Bool.and_eq_true, decide_eq_true_eq] at h
  exact h.1.2
theorem right_eq (s : Sta) : rightD s = rightP s := by
  have e1 : ∀ b, goes16 invL b (lsP s.u.l) = true → decide (s.u.l.length ≤ 16) = true := fun b h => decide_eq_true (goes16_len h)
  have e2 : goes16 id s.t (lsP s.r.l) = true → decide (s.r.l.length ≤ 16) = true := fun h => decide_eq_true (goes16_len h)
  have e3 : rightS s.t (invL s.g.l) = true → decide (s.g.l.length ≤ 32) = true := fun h => decide_eq_true (by have := rightS_len h; rwa [invL_len] at this)
  have e4 : s.g.l.length = 0 → decide (s.g.l.length ≤ 32) = true := fun h => decide_eq_true (by omega)
  unfold rightD rightP mayT lastB
  rw [small_rows]
  by_cases hg : s.g.l.length = 0
  · rw [if_pos hg, if_pos hg]
    have e5 := e1 s.t
    have e4 := e4 hg
    clear hg e1 e3
    revert e5 e2 e4
    generalize goes16 invL s.t (lsP s.u.l) = a1
    generalize goes16 id s.t (lsP s.r.l) = a2
    generalize decide (s.u.l.length ≤ 16) = a3
    generalize decide (s.r.l.length ≤ 16) = a4
    generalize decide (s.g.l.length ≤ 32) = a5
    generalize smallE s.u.l = a6
    generalize smallE s.r.l = a7
    generalize smallE [s.g] = a8
    generalize vldB s.t.data.toList = a9
    generalize decide (s.t.size ≤ 4096) = a10
    generalize rightM s.m.l s.t = a11
    cases a1 <;> cases a2 <;> cases a3 <;> cases a4 <;> cases a5 <;> simp [Bool.and_comm, Bool.and_left_comm, Bool.and_assoc]
  · rw [if_neg hg, if_neg hg]
    have e5 := e1 (runE s.t (invL s.g.l)).1
    clear hg e1 e4
    revert e5 e2 e3
    generalize goes16 invL (runE s.t (invL s.g.l)).1 (lsP s.u.l) = a1
    generalize goes16 id s.t (lsP s.r.l) = a2
    generalize decide (s.u.l.length ≤ 16) = a3
    generalize decide (s.r.l.length ≤ 16) = a4
    generalize decide (s.g.l.length ≤ 32) = a5
    generalize smallE s.u.l = a6
    generalize smallE s.r.l = a7
    generalize smallE [s.g] = a8
    generalize vldB s.t.data.toList = a9
    generalize decide (s.t.size ≤ 4096) = a10
    generalize rightM s.m.l s.t = a11
    generalize rightS s.t (invL s.g.l) = a12
    generalize decide (s.r.l.length = 0) = a13
    generalize s.o = a14
    cases a1 <;> cases a2 <;> cases a3 <;> cases a4 <;> cases a5 <;> cases a12 <;> simp [Bool.and_comm, Bool.and_left_comm, Bool.and_assoc]
set_option maxRecDepth 100000 in
set_option maxHeartbeats 16000000 in
theorem rrightD_any (s : Sta) (w : World) (hin : StaIn w s) (hz : StaZ s) : Calls Tryz.prog 23 #[s.v] w (RetB (rightD s) w) := by
  have cV := fun W => rvalid_any s.t (by have := hz.t; omega) W
  have cM := fun W (hW : Below w.heap.size w W) => rright22_any s.m.a s.m.l s.m.c s.t _ W (hin.later hW).m.row (fun _ h => h) hz.m hz.mz (by have := hz.t; omega)
  have cA := fun W (hW : Below w.heap.size w W) => rsmall_any s.u.a s.u.l s.u.c W (hin.later hW).u (by have := hz.u; omega) (fun x hx => Nat.le_trans (hz.z x (by unfold Sta.rows; simp [hx])).1 (by decide))
  have cB := fun W (hW : Below w.heap.size w W) => rsmall_any s.r.a s.r.l s.r.c W (hin.later hW).r (by have := hz.r; omega) (fun x hx => Nat.le_trans (hz.z x (by unfold Sta.rows; simp [hx])).1 (by decide))
  have cC := fun W (hW : Below w.heap.size w W) => rsmall_any (some ⟨W.heap.size, 0, none⟩) [s.g] 1 _ (one_stk (hin.later hW).g 69) (by simp) (fun x hx => by obtain rfl := List.mem_singleton.1 hx; exact Nat.le_trans hz.g.1 (by decide))
  have cI := fun W (hW : Below w.heap.size w W) => rinv23_any s.g.a s.g.l s.g.c W (hin.later hW).g.row hz.g.1
  have cR := fun W (hW : Below w.heap.size w W) ba bc (hr : EPcs W ⟨ba, invL s.g.l, bc⟩) => by
    have h := rright23_any s.t ba (invL s.g.l) bc W hr.row (by have := hz.t; omega) (by rw [invL_len]; have := hz.g.1; omega) hz.g.2.inv
    rw [invL_len] at h
    exact h
  have cX := fun W (hW : Below w.heap.size w W) ba bc (hr : EPcs W ⟨ba, invL s.g.l, bc⟩) => by
    have h := rrun23_any s.t ba (invL s.g.l) bc W hr.row (by have := hz.t; omega) (by rw [invL_len]; have := hz.g.1; omega) hz.g.2.inv
    rw [invL_len] at h
    exact h
  have cU := fun t (ht : t.size ≤ 4294967296) W (hW : Below w.heap.size w W) => rundoes_any t s.u.a s.u.l s.u.c W (hin.later hW).u ht (by have := hz.u; omega) (fun x hx => hz.z x (by unfold Sta.rows; simp [hx]))
  have cD := fun W (hW : Below w.heap.size w W) => rredoes_any s.t s.r.a s.r.l s.r.c W (hin.later hW).r (by have := hz.t; omega) (by have := hz.r; omega) (fun x hx => hz.z x (by unfold Sta.rows; simp [hx]))
  have hi := RdI.new w s
  have htz : s.t.size ≤ 4294967296 := by have := hz.t; omega
  have hsz : rightS s.t (invL s.g.l) = true → (runE s.t (invL s.g.l)).1.size ≤ 4294967296 := fun h => by have := rightS_size h; have := hz.t; omega
  have cU0 := cU s.t htz
  unfold rightD
  obtain ⟨vV, hV⟩ : ∃ T, vldB s.t.data.toList = T := ⟨_, rfl⟩
  obtain ⟨vM, hM⟩ : ∃ M, rightM s.m.l s.t = M := ⟨_, rfl⟩
  obtain ⟨vA, hA⟩ : ∃ M, smallE s.u.l = M := ⟨_, rfl⟩
  obtain ⟨vB, hB⟩ : ∃ M, smallE s.r.l = M := ⟨_, rfl⟩
  obtain ⟨vC, hC⟩ : ∃ M, smallE [s.g] = M := ⟨_, rfl⟩
  obtain ⟨vD, hD⟩ : ∃ Q, goes16 id s.t (lsP s.r.l) = Q := ⟨_, rfl⟩
  obtain ⟨vU, hU⟩ : ∃ Q, goes16 invL s.t (lsP s.u.l) = Q := ⟨_, rfl⟩
  obtain ⟨vR, hR⟩ : ∃ V, rightS s.t (invL s.g.l) = V := ⟨_, rfl⟩
  obtain ⟨⟨B, E⟩, hX⟩ : ∃ B, runE s.t (invL s.g.l) = B := ⟨_, rfl⟩
  rw [hX] at cX hsz
  rw [hV] at cV; rw [hM] at cM; rw [hA] at cA; rw [hB] at cB; rw [hC] at cC; rw [hD] at cD; rw [hU] at cU0; rw [hR] at cR hsz
  rw [hV, hM, hA, hB, hC, hD, hU, hR, hX]
  dsimp only
  have cU1 := fun h => cU B (hsz h)
  obtain ⟨vW, hW1⟩ : ∃ Q, goes16 invL B (lsP s.u.l) = Q := ⟨_, rfl⟩
  rw [hW1] at cU1
  rw [hW1]
  obtain ⟨wX, hwX⟩ : ∃ wX, w.alloc (.cells #[.string s.t, .slice s.m.a s.m.l.length s.m.c, .slice s.u.a s.u.l.length s.u.c, .slice s.r.a s.r.l.length s.r.c, .bool s.o, .slice s.g.a s.g.l.length s.g.c] 31) = wX := ⟨_, rfl⟩
  rw [hwX] at hi
  have hul : s.u.l.length ≤ 100 := hz.u
  have hrl : s.r.l.length ≤ 100 := hz.r
  have hgl : s.g.l.length ≤ 100000 := hz.g.1
  have HI0 := hid hi; have CV := hid cV; have CM := hid cM; have CA := hid cA; have CB := hid cB; have CC := hid cC; have CI := hid cI; have CR := hid cR; have CX := hid cX; have CU0 := hid cU0; have CU1 := hid cU1; have CD := hid cD; have HIN := hid hin
  have p0 := HI0.out.b0.x0
  have p1 := HI0.out.b0.x1
  have p2 := HI0.out.b0.x2
  have p3 := HI0.out.b0.x3
  have p4 := HI0.out.b0.x4
  have p5 := HI0.out.b0.x5
  clear hi cV cM cA cB cC cI cR cX cU cU0 cU1 cD hin hz hV hM hA hB hC hD hU hR hX hW1 htz hsz
  cases vV
  · rw [Bool.false_and]
    go_enter Tryz.func23, Tryz.ntmps23
    go_wp2_with (first
      | (go_at_call 44; (with_reducible refine (CV.out _).mono ?_); rintro e w1 ⟨rfl, hb1⟩; have HI1 := hid (HI0.out.on hb1); clear hb1; clear p0 p1 p2 p3 p4 p5; have p0 := HI1.out.b0.x0; have p1 := HI1.out.b0.x1; have p2 := HI1.out.b0.x2; have p3 := HI1.out.b0.x3; have p4 := HI1.out.b0.x4; have p5 := HI1.out.b0.x5))
    go_ret
    exact ⟨rfl, HI1.out.bel⟩
  rw [Bool.true_and]
  by_cases k1 : s.t.size ≤ 4096
  case neg =>
    rw [decide_eq_false k1, Bool.false_and]
    have k12 : (4096 : Int) < (s.t.size : Int) := by omega
    go_enter Tryz.func23, Tryz.ntmps23
    go_wp2_with (first
      | (go_at_call 44; (with_reducible refine (CV.out _).mono ?_); rintro e w1 ⟨rfl, hb1⟩; have HI1 := hid (HI0.out.on hb1); clear hb1; clear p0 p1 p2 p3 p4 p5; have p0 := HI1.out.b0.x0; have p1 := HI1.out.b0.x1; have p2 := HI1.out.b0.x2; have p3 := HI1.out.b0.x3; have p4 := HI1.out.b0.x4; have p5 := HI1.out.b0.x5))
    go_ret
    exact ⟨rfl, HI1.out.bel⟩
  rw [decide_eq_true k1, Bool.true_and]
  have k12 : (s.t.size : Int) ≤ 4096 := by omega
  cases vM
  · rw [Bool.false_and]
    go_enter Tryz.func23, Tryz.ntmps23
    go_wp2_with (first
      | (go_at_call 44; (with_reducible refine (CV.out _).mono ?_); rintro e w1 ⟨rfl, hb1⟩; have HI1 := hid (HI0.out.on hb1); clear hb1; clear p0 p1 p2 p3 p4 p5; have p0 := HI1.out.b0.x0; have p1 := HI1.out.b0.x1; have p2 := HI1.out.b0.x2; have p3 := HI1.out.b0.x3; have p4 := HI1.out.b0.x4; have p5 := HI1.out.b0.x5)
      | (go_at_call 45; (with_reducible refine (CM.out _ HI1.out.bel).mono ?_); rintro e w2 ⟨rfl, hb1⟩; have HI2 := hid (HI1.out.on hb1); clear hb1; clear p0 p1 p2 p3 p4 p5; have p0 := HI2.out.b0.x0; have p1 := HI2.out.b0.x1; have p2 := HI2.out.b0.x2; have p3 := HI2.out.b0.x3; have p4 := HI2.out.b0.x4; have p5 := HI2.out.b0.x5))
    go_ret
    exact ⟨rfl, HI2.out.bel⟩
  rw [Bool.true_and]
  by_cases k2 : s.u.l.length ≤ 16
  case neg =>
    rw [decide_eq_false k2, Bool.false_and]
    have k22 : (16 : Int) < (s.u.l.length : Int) := by omega
    go_enter Tryz.func23, Tryz.ntmps23
    go_wp2_with (first
      | (go_at_call 44; (with_reducible refine (CV.out _).mono ?_); rintro e w1 ⟨rfl, hb1⟩; have HI1 := hid (HI0.out.on hb1); clear hb1; clear p0 p1 p2 p3 p4 p5; have p0 := HI1.out.b0.x0; have p1 := HI1.out.b0.x1; have p2 := HI1.out.b0.x2; have p3 := HI1.out.b0.x3; have p4 := HI1.out.b0.x4; have p5 := HI1.out.b0.x5)
      | (go_at_call 45; (with_reducible refine (CM.out _ HI1.out.bel).mono ?_); rintro e w2 ⟨rfl, hb1⟩; have HI2 := hid (HI1.out.on hb1); clear hb1; clear p0 p1 p2 p3 p4 p5; have p0 := HI2.out.b0.x0; have p1 := HI2.out.b0.x1; have p2 := HI2.out.b0.x2; have p3 := HI2.out.b0.x3; have p4 := HI2.out.b0.x4; have p5 := HI2.out.b0.x5))
    go_ret
    exact ⟨rfl, HI2.out.bel⟩
  rw [decide_eq_true k2, Bool.true_and]
  have k22 : (s.u.l.length : Int) ≤ 16 := by omega
  by_cases k3 : s.r.l.length ≤ 16
  case neg =>
    rw [decide_eq_false k3, Bool.false_and]
    have k32 : (16 : Int) < (s.r.l.length : Int) := by omega
    go_enter Tryz.func23, Tryz.ntmps23
    go_wp2_with (first
      | (go_at_call 44; (with_reducible refine (CV.out _).mono ?_); rintro e w1 ⟨rfl, hb1⟩; have HI1 := hid (HI0.out.on hb1); clear hb1; clear p0 p1 p2 p3 p4 p5; have p0 := HI1.out.b0.x0; have p1 := HI1.out.b0.x1; have p2 := HI1.out.b0.x2; have p3 := HI1.out.b0.x3; have p4 := HI1.out.b0.x4; have p5 := HI1.out.b0.x5)
      | (go_at_call 45; (with_reducible refine (CM.out _ HI1.out.bel).mono ?_); rintro e w2 ⟨rfl, hb1⟩; have HI2 := hid (HI1.out.on hb1); clear hb1; clear p0 p1 p2 p3 p4 p5; have p0 := HI2.out.b0.x0; have p1 := HI2.out.b0.x1; have p2 := HI2.out.b0.x2; have p3 := HI2.out.b0.x3; have p4 := HI2.out.b0.x4; have p5 := HI2.out.b0.x5))
    go_ret
    exact ⟨rfl, HI2.out.bel⟩
  rw [decide_eq_true k3, Bool.true_and]
  have k32 : (s.r.l.length : Int) ≤ 16 := by omega
  by_cases k4 : s.g.l.length ≤ 32
  case neg =>
    rw [decide_eq_false k4, Bool.false_and]
    have k42 : (32 : Int) < (s.g.l.length : Int) := by omega
    go_enter Tryz.func23, Tryz.ntmps23
    go_wp2_with (first
      | (go_at_call 44; (with_reducible refine (CV.out _).mono ?_); rintro e w1 ⟨rfl, hb1⟩; have HI1 := hid (HI0.out.on hb1); clear hb1; clear p0 p1 p2 p3 p4 p5; have p0 := HI1.out.b0.x0; have p1 := HI1.out.b0.x1; have p2 := HI1.out.b0.x2; have p3 := HI1.out.b0.x3; have p4 := HI1.out.b0.x4; have p5 := HI1.out.b0.x5)
      | (go_at_call 45; (with_reducible refine (CM.out _ HI1.out.bel).mono ?_); rintro e w2 ⟨rfl, hb1⟩; have HI2 := hid (HI1.out.on hb1); clear hb1; clear p0 p1 p2 p3 p4 p5; have p0 := HI2.out.b0.x0; have p1 := HI2.out.b0.x1; have p2 := HI2.out.b0.x2; have p3 := HI2.out.b0.x3; have p4 := HI2.out.b0.x4; have p5 := HI2.out.b0.x5))
    go_ret
    exact ⟨rfl, HI2.out.bel⟩
  rw [decide_eq_true k4, Bool.true_and]
  have k42 : (s.g.l.length : Int) ≤ 32 := by omega
  cases vA
  · rw [Bool.false_and]
    go_enter Tryz.func23, Tryz.ntmps23
    go_wp2_with (first
      | (go_at_call 44; (with_reducible refine (CV.out _).mono ?_); rintro e w1 ⟨rfl, hb1⟩; have HI1 := hid (HI0.out.on hb1); clear hb1; clear p0 p1 p2 p3 p4 p5; have p0 := HI1.out.b0.x0; have p1 := HI1.out.b0.x1; have p2 := HI1.out.b0.x2; have p3 := HI1.out.b0.x3; have p4 := HI1.out.b0.x4; have p5 := HI1.out.b0.x5)
      | (go_at_call 45; (with_reducible refine (CM.out _ HI1.out.bel).mono ?_); rintro e w2 ⟨rfl, hb1⟩; have HI2 := hid (HI1.out.on hb1); clear hb1; clear p0 p1 p2 p3 p4 p5; have p0 := HI2.out.b0.x0; have p1 := HI2.out.b0.x1; have p2 := HI2.out.b0.x2; have p3 := HI2.out.b0.x3; have p4 := HI2.out.b0.x4; have p5 := HI2.out.b0.x5)
      | (go_at_call 46; (with_reducible refine (CA.out _ HI2.out.bel).mono ?_); rintro e w3 ⟨rfl, hb1⟩; have HI3 := hid (HI2.out.on hb1); clear hb1; clear p0 p1 p2 p3 p4 p5; have p0 := HI3.out.b0.x0; have p1 := HI3.out.b0.x1; have p2 := HI3.out.b0.x2; have p3 := HI3.out.b0.x3; have p4 := HI3.out.b0.x4; have p5 := HI3.out.b0.x5))
    go_ret
    exact ⟨rfl, HI3.out.bel⟩
  rw [Bool.true_and]
  cases vB
  · rw [Bool.false_and]
    go_enter Tryz.func23, Tryz.ntmps23
    go_wp2_with (first
      | (go_at_call 44; (with_reducible refine (CV.out _).mono ?_); rintro e w1 ⟨rfl, hb1⟩; have HI1 := hid (HI0.out.on hb1); clear hb1; clear p0 p1 p2 p3 p4 p5; have p0 := HI1.out.b0.x0; have p1 := HI1.out.b0.x1; have p2 := HI1.out.b0.x2; have p3 := HI1.out.b0.x3; have p4 := HI1.out.b0.x4; have p5 := HI1.out.b0.x5)
      | (go_at_call 45; (with_reducible refine (CM.out _ HI1.out.bel).mono ?_); rintro e w2 ⟨rfl, hb1⟩; have HI2 := hid (HI1.out.on hb1); clear hb1; clear p0 p1 p2 p3 p4 p5; have p0 := HI2.out.b0.x0; have p1 := HI2.out.b0.x1; have p2 := HI2.out.b0.x2; have p3 := HI2.out.b0.x3; have p4 := HI2.out.b0.x4; have p5 := HI2.out.b0.x5)
      | (go_at_call 46; (with_reducible refine (CA.out _ HI2.out.bel).mono ?_); rintro e w3 ⟨rfl, hb1⟩; have HI3 := hid (HI2.out.on hb1); clear hb1; clear p0 p1 p2 p3 p4 p5; have p0 := HI3.out.b0.x0; have p1 := HI3.out.b0.x1; have p2 := HI3.out.b0.x2; have p3 := HI3.out.b0.x3; have p4 := HI3.out.b0.x4; have p5 := HI3.out.b0.x5)
      | (go_at_call 46; (with_reducible refine (CB.out _ HI3.out.bel).mono ?_); rintro e w4 ⟨rfl, hb1⟩; have HI4 := hid (HI3.out.on hb1); clear hb1; clear p0 p1 p2 p3 p4 p5; have p0 := HI4.out.b0.x0; have p1 := HI4.out.b0.x1; have p2 := HI4.out.b0.x2; have p3 := HI4.out.b0.x3; have p4 := HI4.out.b0.x4; have p5 := HI4.out.b0.x5))
    go_ret
    exact ⟨rfl, HI4.out.bel⟩
  rw [Bool.true_and]
  cases vC
  · rw [Bool.false_and]
    go_enter Tryz.func23, Tryz.ntmps23
    go_wp2_with (first
      | (go_at_call 44; (with_reducible refine (CV.out _).mono ?_); rintro e w1 ⟨rfl, hb1⟩; have HI1 := hid (HI0.out.on hb1); clear hb1; clear p0 p1 p2 p3 p4 p5; have p0 := HI1.out.b0.x0; have p1 := HI1.out.b0.x1; have p2 := HI1.out.b0.x2; have p3 := HI1.out.b0.x3; have p4 := HI1.out.b0.x4; have p5 := HI1.out.b0.x5)
      | (go_at_call 45; (with_reducible refine (CM.out _ HI1.out.bel).mono ?_); rintro e w2 ⟨rfl, hb1⟩; have HI2 := hid (HI1.out.on hb1); clear hb1; clear p0 p1 p2 p3 p4 p5; have p0 := HI2.out.b0.x0; have p1 := HI2.out.b0.x1; have p2 := HI2.out.b0.x2; have p3 := HI2.out.b0.x3; have p4 := HI2.out.b0.x4; have p5 := HI2.out.b0.x5)
      | (go_at_call 46; (with_reducible refine (CA.out _ HI2.out.bel).mono ?_); rintro e w3 ⟨rfl, hb1⟩; have HI3 := hid (HI2.out.on hb1); clear hb1; clear p0 p1 p2 p3 p4 p5; have p0 := HI3.out.b0.x0; have p1 := HI3.out.b0.x1; have p2 := HI3.out.b0.x2; have p3 := HI3.out.b0.x3; have p4 := HI3.out.b0.x4; have p5 := HI3.out.b0.x5)
      | (go_at_call 46; (with_reducible refine (CB.out _ HI3.out.bel).mono ?_); rintro e w4 ⟨rfl, hb1⟩; have HI4 := hid (HI3.out.on hb1); clear hb1; clear p0 p1 p2 p3 p4 p5; have p0 := HI4.out.b0.x0; have p1 := HI4.out.b0.x1; have p2 := HI4.out.b0.x2; have p3 := HI4.out.b0.x3; have p4 := HI4.out.b0.x4; have p5 := HI4.out.b0.x5)
      | (go_at_call 46; refine (CC.out _ HI4.out.bel).mono ?_; rintro e w5 ⟨rfl, hb1⟩; have HI5 := hid (HI4.out.on (below_after1 hb1)); clear hb1; clear p0 p1 p2 p3 p4 p5; have p0 := HI5.out.b0.x0; have p1 := HI5.out.b0.x1; have p2 := HI5.out.b0.x2; have p3 := HI5.out.b0.x3; have p4 := HI5.out.b0.x4; have p5 := HI5.out.b0.x5))
    go_ret
    exact ⟨rfl, HI5.out.bel⟩
  rw [Bool.true_and]
  by_cases hg : s.g.l.length = 0
  · rw [if_pos hg]
    have hg2 : (s.g.l.length : Int) ≤ 0 := by omega
    have hg3 : ¬ 0 < s.g.l.length := by omega
    clear hg k4
    cases vU
    · rw [Bool.false_and]
      go_enter Tryz.func23, Tryz.ntmps23
      go_wp2_with (first
        | (go_at_call 44; (with_reducible refine (CV.out _).mono ?_); rintro e w1 ⟨rfl, hb1⟩; have HI1 := hid (HI0.out.on hb1); clear hb1; clear p0 p1 p2 p3 p4 p5; have p0 := HI1.out.b0.x0; have p1 := HI1.out.b0.x1; have p2 := HI1.out.b0.x2; have p3 := HI1.out.b0.x3; have p4 := HI1.out.b0.x4; have p5 := HI1.out.b0.x5)
        | (go_at_call 45; (with_reducible refine (CM.out _ HI1.out.bel).mono ?_); rintro e w2 ⟨rfl, hb1⟩; have HI2 := hid (HI1.out.on hb1); clear hb1; clear p0 p1 p2 p3 p4 p5; have p0 := HI2.out.b0.x0; have p1 := HI2.out.b0.x1; have p2 := HI2.out.b0.x2; have p3 := HI2.out.b0.x3; have p4 := HI2.out.b0.x4; have p5 := HI2.out.b0.x5)
        | (go_at_call 46; (with_reducible refine (CA.out _ HI2.out.bel).mono ?_); rintro e w3 ⟨rfl, hb1⟩; have HI3 := hid (HI2.out.on hb1); clear hb1; clear p0 p1 p2 p3 p4 p5; have p0 := HI3.out.b0.x0; have p1 := HI3.out.b0.x1; have p2 := HI3.out.b0.x2; have p3 := HI3.out.b0.x3; have p4 := HI3.out.b0.x4; have p5 := HI3.out.b0.x5)
        | (go_at_call 46; (with_reducible refine (CB.out _ HI3.out.bel).mono ?_); rintro e w4 ⟨rfl, hb1⟩; have HI4 := hid (HI3.out.on hb1); clear hb1; clear p0 p1 p2 p3 p4 p5; have p0 := HI4.out.b0.x0; have p1 := HI4.out.b0.x1; have p2 := HI4.out.b0.x2; have p3 := HI4.out.b0.x3; have p4 := HI4.out.b0.x4; have p5 := HI4.out.b0.x5)
        | (go_at_call 46; refine (CC.out _ HI4.out.bel).mono ?_; rintro e w5 ⟨rfl, hb1⟩; have HI5 := hid (HI4.out.on (below_after1 hb1)); clear hb1; clear p0 p1 p2 p3 p4 p5; have p0 := HI5.out.b0.x0; have p1 := HI5.out.b0.x1; have p2 := HI5.out.b0.x2; have p3 := HI5.out.b0.x3; have p4 := HI5.out.b0.x4; have p5 := HI5.out.b0.x5)
        | (go_at_call 50; (with_reducible refine (CU0.out _ HI5.out.bel).mono ?_); rintro e w6 ⟨rfl, hb1⟩; have HI6 := hid (HI5.out.on hb1); clear hb1; clear p0 p1 p2 p3 p4 p5; have p0 := HI6.out.b0.x0; have p1 := HI6.out.b0.x1; have p2 := HI6.out.b0.x2; have p3 := HI6.out.b0.x3; have p4 := HI6.out.b0.x4; have p5 := HI6.out.b0.x5))
      go_ret
      exact ⟨rfl, HI6.out.bel⟩
    · rw [Bool.true_and]
      go_enter Tryz.func23, Tryz.ntmps23
      go_wp2_with (first
        | (go_at_call 44; (with_reducible refine (CV.out _).mono ?_); rintro e w1 ⟨rfl, hb1⟩; have HI1 := hid (HI0.out.on hb1); clear hb1; clear p0 p1 p2 p3 p4 p5; have p0 := HI1.out.b0.x0; have p1 := HI1.out.b0.x1; have p2 := HI1.out.b0.x2; have p3 := HI1.out.b0.x3; have p4 := HI1.out.b0.x4; have p5 := HI1.out.b0.x5)
        | (go_at_call 45; (with_reducible refine (CM.out _ HI1.out.bel).mono ?_); rintro e w2 ⟨rfl, hb1⟩; have HI2 := hid (HI1.out.on hb1); clear hb1; clear p0 p1 p2 p3 p4 p5; have p0 := HI2.out.b0.x0; have p1 := HI2.out.b0.x1; have p2 := HI2.out.b0.x2; have p3 := HI2.out.b0.x3; have p4 := HI2.out.b0.x4; have p5 := HI2.out.b0.x5)
        | (go_at_call 46; (with_reducible refine (CA.out _ HI2.out.bel).mono ?_); rintro e w3 ⟨rfl, hb1⟩; have HI3 := hid (HI2.out.on hb1); clear hb1; clear p0 p1 p2 p3 p4 p5; have p0 := HI3.out.b0.x0; have p1 := HI3.out.b0.x1; have p2 := HI3.out.b0.x2; have p3 := HI3.out.b0.x3; have p4 := HI3.out.b0.x4; have p5 := HI3.out.b0.x5)
        | (go_at_call 46; (with_reducible refine (CB.out _ HI3.out.bel).mono ?_); rintro e w4 ⟨rfl, hb1⟩; have HI4 := hid (HI3.out.on hb1); clear hb1; clear p0 p1 p2 p3 p4 p5; have p0 := HI4.out.b0.x0; have p1 := HI4.out.b0.x1; have p2 := HI4.out.b0.x2; have p3 := HI4.out.b0.x3; have p4 := HI4.out.b0.x4; have p5 := HI4.out.b0.x5)
        | (go_at_call 46; refine (CC.out _ HI4.out.bel).mono ?_; rintro e w5 ⟨rfl, hb1⟩; have HI5 := hid (HI4.out.on (below_after1 hb1)); clear hb1; clear p0 p1 p2 p3 p4 p5; have p0 := HI5.out.b0.x0; have p1 := HI5.out.b0.x1; have p2 := HI5.out.b0.x2; have p3 := HI5.out.b0.x3; have p4 := HI5.out.b0.x4; have p5 := HI5.out.b0.x5)
        | (go_at_call 50; (with_reducible refine (CU0.out _ HI5.out.bel).mono ?_); rintro e w6 ⟨rfl, hb1⟩; have HI6 := hid (HI5.out.on hb1); clear hb1; clear p0 p1 p2 p3 p4 p5; have p0 := HI6.out.b0.x0; have p1 := HI6.out.b0.x1; have p2 := HI6.out.b0.x2; have p3 := HI6.out.b0.x3; have p4 := HI6.out.b0.x4; have p5 := HI6.out.b0.x5)
        | (go_at_call 51; (with_reducible refine (CD.out _ HI6.out.bel).mono ?_); rintro e w7 ⟨rfl, hb1⟩; have HI7 := hid (HI6.out.on hb1); clear hb1; clear p0 p1 p2 p3 p4 p5; have p0 := HI7.out.b0.x0; have p1 := HI7.out.b0.x1; have p2 := HI7.out.b0.x2; have p3 := HI7.out.b0.x3; have p4 := HI7.out.b0.x4; have p5 := HI7.out.b0.x5))
      go_ret
      exact ⟨rfl, HI7.out.bel⟩
  · rw [if_neg hg]
    have hg2 : (0 : Int) < (s.g.l.length : Int) := by omega
    have hg3 : 0 < s.g.l.length := by omega
    have hor : s.o = true ∨ s.o = false := by cases s.o <;> simp
    rcases hor with ho | ho
    · rw [ho, Bool.true_and]
      by_cases hr : s.r.l.length = 0
      · rw [decide_eq_true hr, Bool.true_and]
        have hr2 : (s.r.l.length : Int) ≤ 0 := by omega
        have hr3 : ¬ 0 < s.r.l.length := by omega
        clear hr k3
        cases vR with
        | false =>
          rw [Bool.false_and]
          go_enter Tryz.func23, Tryz.ntmps23
          go_upto_region 8 with (first
            | (go_at_call 44; (with_reducible refine (CV.out _).mono ?_); rintro e w1 ⟨rfl, hb1⟩; have HI1 := hid (HI0.out.on hb1); clear hb1; clear p0 p1 p2 p3 p4 p5; have p0 := HI1.out.b0.x0; have p1 := HI1.out.b0.x1; have p2 := HI1.out.b0.x2; have p3 := HI1.out.b0.x3; have p4 := HI1.out.b0.x4; have p5 := HI1.out.b0.x5)
            | (go_at_call 45; (with_reducible refine (CM.out _ HI1.out.bel).mono ?_); rintro e w2 ⟨rfl, hb1⟩; have HI2 := hid (HI1.out.on hb1); clear hb1; clear p0 p1 p2 p3 p4 p5; have p0 := HI2.out.b0.x0; have p1 := HI2.out.b0.x1; have p2 := HI2.out.b0.x2; have p3 := HI2.out.b0.x3; have p4 := HI2.out.b0.x4; have p5 := HI2.out.b0.x5)
            | (go_at_call 46; (with_reducible refine (CA.out _ HI2.out.bel).mono ?_); rintro e w3 ⟨rfl, hb1⟩; have HI3 := hid (HI2.out.on hb1); clear hb1; clear p0 p1 p2 p3 p4 p5; have p0 := HI3.out.b0.x0; have p1 := HI3.out.b0.x1; have p2 := HI3.out.b0.x2; have p3 := HI3.out.b0.x3; have p4 := HI3.out.b0.x4; have p5 := HI3.out.b0.x5)
            | (go_at_call 46; (with_reducible refine (CB.out _ HI3.out.bel).mono ?_); rintro e w4 ⟨rfl, hb1⟩; have HI4 := hid (HI3.out.on hb1); clear hb1; clear p0 p1 p2 p3 p4 p5; have p0 := HI4.out.b0.x0; have p1 := HI4.out.b0.x1; have p2 := HI4.out.b0.x2; have p3 := HI4.out.b0.x3; have p4 := HI4.out.b0.x4; have p5 := HI4.out.b0.x5)
            | (go_at_call 46; refine (CC.out _ HI4.out.bel).mono ?_; rintro e w5 ⟨rfl, hb1⟩; have HI5 := hid (HI4.out.on (below_after1 hb1)); clear hb1; clear p0 p1 p2 p3 p4 p5; have p0 := HI5.out.b0.x0; have p1 := HI5.out.b0.x1; have p2 := HI5.out.b0.x2; have p3 := HI5.out.b0.x3; have p4 := HI5.out.b0.x4; have p5 := HI5.out.b0.x5)
            | (go_at_call 47; refine (CI.out _ HI5.out.bel).mono ?_; rintro e w6 ⟨ba, bc, rfl, hrow, hb4⟩; have HI6 := hid (HI5.out.on hb4); have HROW := hid hrow; clear hb4 hrow; clear p0 p1 p2 p3 p4 p5))
          rw [invL_len]
          obtain ⟨w7, hw5⟩ : ∃ w5, w6.alloc (.cells #[.slice ba s.g.l.length bc] 69) = w5 := ⟨_, rfl⟩
          rw [hw5]
          have hb5 : Below w6.heap.size w6 w7 := by rw [← hw5]; exact below1 _ _
          have HI7 := hid (HI6.out.on hb5); have HE7 := hid (HROW.out.in.later hb5); have HW7 := hid (show w6.heap.size < w7.heap.size by rw [← hw5]; simp)
          have k0 : w7.cell? ⟨w6.heap.size, 0, none⟩ = some (.slice ba s.g.l.length bc) := by rw [← hw5]; simp [World.cell?_alloc_new]
          have HK7 := hid k0
          clear hw5 hb5
          have p0 := HI7.out.b0.x0
          have p1 := HI7.out.b0.x1
          have p2 := HI7.out.b0.x2
          have p3 := HI7.out.b0.x3
          have p4 := HI7.out.b0.x4
          have p5 := HI7.out.b0.x5
          rw [ho] at p4
          go_wp2_with (first
            | (go_at_call 48; (with_reducible refine (CR.out _ HI7.out.bel _ _ HE7.out).mono ?_); rintro e w8 ⟨rfl, hb6⟩; have HI8 := hid (HI7.out.on hb6); have HE8 := hid (HE7.out.later hb6); have HK8 := hid ((hb6.cell (p := ⟨w6.heap.size, 0, none⟩) HW7.out).trans HK7.out); clear hb6 k0; clear p0 p1 p2 p3 p4 p5; have p0 := HI8.out.b0.x0; have p1 := HI8.out.b0.x1; have p2 := HI8.out.b0.x2; have p3 := HI8.out.b0.x3; have p4 := HI8.out.b0.x4; have p5 := HI8.out.b0.x5; have k0 := HK8.out))
          go_ret
          exact ⟨rfl, HI8.out.bel⟩
        | true =>
          rw [Bool.true_and]
          cases vW with
          | false =>
            rw [Bool.false_and]
            go_enter Tryz.func23, Tryz.ntmps23
            go_upto_region 8 with (first
              | (go_at_call 44; (with_reducible refine (CV.out _).mono ?_); rintro e w1 ⟨rfl, hb1⟩; have HI1 := hid (HI0.out.on hb1); clear hb1; clear p0 p1 p2 p3 p4 p5; have p0 := HI1.out.b0.x0; have p1 := HI1.out.b0.x1; have p2 := HI1.out.b0.x2; have p3 := HI1.out.b0.x3; have p4 := HI1.out.b0.x4; have p5 := HI1.out.b0.x5)
              | (go_at_call 45; (with_reducible refine (CM.out _ HI1.out.bel).mono ?_); rintro e w2 ⟨rfl, hb1⟩; have HI2 := hid (HI1.out.on hb1); clear hb1; clear p0 p1 p2 p3 p4 p5; have p0 := HI2.out.b0.x0; have p1 := HI2.out.b0.x1; have p2 := HI2.out.b0.x2; have p3 := HI2.out.b0.x3; have p4 := HI2.out.b0.x4; have p5 := HI2.out.b0.x5)
              | (go_at_call 46; (with_reducible refine (CA.out _ HI2.out.bel).mono ?_); rintro e w3 ⟨rfl, hb1⟩; have HI3 := hid (HI2.out.on hb1); clear hb1; clear p0 p1 p2 p3 p4 p5; have p0 := HI3.out.b0.x0; have p1 := HI3.out.b0.x1; have p2 := HI3.out.b0.x2; have p3 := HI3.out.b0.x3; have p4 := HI3.out.b0.x4; have p5 := HI3.out.b0.x5)
              | (go_at_call 46; (with_reducible refine (CB.out _ HI3.out.bel).mono ?_); rintro e w4 ⟨rfl, hb1⟩; have HI4 := hid (HI3.out.on hb1); clear hb1; clear p0 p1 p2 p3 p4 p5; have p0 := HI4.out.b0.x0; have p1 := HI4.out.b0.x1; have p2 := HI4.out.b0.x2; have p3 := HI4.out.b0.x3; have p4 := HI4.out.b0.x4; have p5 := HI4.out.b0.x5)
              | (go_at_call 46; refine (CC.out _ HI4.out.bel).mono ?_; rintro e w5 ⟨rfl, hb1⟩; have HI5 := hid (HI4.out.on (below_after1 hb1)); clear hb1; clear p0 p1 p2 p3 p4 p5; have p0 := HI5.out.b0.x0; have p1 := HI5.out.b0.x1; have p2 := HI5.out.b0.x2; have p3 := HI5.out.b0.x3; have p4 := HI5.out.b0.x4; have p5 := HI5.out.b0.x5)
              | (go_at_call 47; refine (CI.out _ HI5.out.bel).mono ?_; rintro e w6 ⟨ba, bc, rfl, hrow, hb4⟩; have HI6 := hid (HI5.out.on hb4); have HROW := hid hrow; clear hb4 hrow; clear p0 p1 p2 p3 p4 p5))
            rw [invL_len]
            obtain ⟨w7, hw5⟩ : ∃ w5, w6.alloc (.cells #[.slice ba s.g.l.length bc] 69) = w5 := ⟨_, rfl⟩
            rw [hw5]
            have hb5 : Below w6.heap.size w6 w7 := by rw [← hw5]; exact below1 _ _
            have HI7 := hid (HI6.out.on hb5); have HE7 := hid (HROW.out.in.later hb5); have HW7 := hid (show w6.heap.size < w7.heap.size by rw [← hw5]; simp)
            have k0 : w7.cell? ⟨w6.heap.size, 0, none⟩ = some (.slice ba s.g.l.length bc) := by rw [← hw5]; simp [World.cell?_alloc_new]
            have HK7 := hid k0
            clear hw5 hb5
            have p0 := HI7.out.b0.x0
            have p1 := HI7.out.b0.x1
            have p2 := HI7.out.b0.x2
            have p3 := HI7.out.b0.x3
            have p4 := HI7.out.b0.x4
            have p5 := HI7.out.b0.x5
            rw [ho] at p4
            go_wp2_with (first
              | (go_at_call 48; (with_reducible refine (CR.out _ HI7.out.bel _ _ HE7.out).mono ?_); rintro e w8 ⟨rfl, hb6⟩; have HI8 := hid (HI7.out.on hb6); have HE8 := hid (HE7.out.later hb6); have HK8 := hid ((hb6.cell (p := ⟨w6.heap.size, 0, none⟩) HW7.out).trans HK7.out); clear hb6 k0; clear p0 p1 p2 p3 p4 p5; have p0 := HI8.out.b0.x0; have p1 := HI8.out.b0.x1; have p2 := HI8.out.b0.x2; have p3 := HI8.out.b0.x3; have p4 := HI8.out.b0.x4; have p5 := HI8.out.b0.x5; have k0 := HK8.out)
              | (go_at_call 49; (with_reducible refine (CX.out _ HI8.out.bel _ _ HE8.out).mono ?_); rintro e w9 ⟨rfl, hb7⟩; have HI9 := hid (HI8.out.on hb7); clear hb7 k0; clear p0 p1 p2 p3 p4 p5; have p0 := HI9.out.b0.x0; have p1 := HI9.out.b0.x1; have p2 := HI9.out.b0.x2; have p3 := HI9.out.b0.x3; have p4 := HI9.out.b0.x4; have p5 := HI9.out.b0.x5)
              | (go_at_call 50; (with_reducible refine (CU1.out (by trivial) _ HI9.out.bel).mono ?_); rintro e w10 ⟨rfl, hb1⟩; have HI10 := hid (HI9.out.on hb1); clear hb1; clear p0 p1 p2 p3 p4 p5; have p0 := HI10.out.b0.x0; have p1 := HI10.out.b0.x1; have p2 := HI10.out.b0.x2; have p3 := HI10.out.b0.x3; have p4 := HI10.out.b0.x4; have p5 := HI10.out.b0.x5))
            go_ret
            exact ⟨rfl, HI10.out.bel⟩
          | true =>
            rw [Bool.true_and]
            go_enter Tryz.func23, Tryz.ntmps23
            go_upto_region 8 with (first
              | (go_at_call 44; (with_reducible refine (CV.out _).mono ?_); rintro e w1 ⟨rfl, hb1⟩; have HI1 := hid (HI0.out.on hb1); clear hb1; clear p0 p1 p2 p3 p4 p5; have p0 := HI1.out.b0.x0; have p1 := HI1.out.b0.x1; have p2 := HI1.out.b0.x2; have p3 := HI1.out.b0.x3; have p4 := HI1.out.b0.x4; have p5 := HI1.out.b0.x5)
              | (go_at_call 45; (with_reducible refine (CM.out _ HI1.out.bel).mono ?_); rintro e w2 ⟨rfl, hb1⟩; have HI2 := hid (HI1.out.on hb1); clear hb1; clear p0 p1 p2 p3 p4 p5; have p0 := HI2.out.b0.x0; have p1 := HI2.out.b0.x1; have p2 := HI2.out.b0.x2; have p3 := HI2.out.b0.x3; have p4 := HI2.out.b0.x4; have p5 := HI2.out.b0.x5)
              | (go_at_call 46; (with_reducible refine (CA.out _ HI2.out.bel).mono ?_); rintro e w3 ⟨rfl, hb1⟩; have HI3 := hid (HI2.out.on hb1); clear hb1; clear p0 p1 p2 p3 p4 p5; have p0 := HI3.out.b0.x0; have p1 := HI3.out.b0.x1; have p2 := HI3.out.b0.x2; have p3 := HI3.out.b0.x3; have p4 := HI3.out.b0.x4; have p5 := HI3.out.b0.x5)
              | (go_at_call 46; (with_reducible refine (CB.out _ HI3.out.bel).mono ?_); rintro e w4 ⟨rfl, hb1⟩; have HI4 := hid (HI3.out.on hb1); clear hb1; clear p0 p1 p2 p3 p4 p5; have p0 := HI4.out.b0.x0; have p1 := HI4.out.b0.x1; have p2 := HI4.out.b0.x2; have p3 := HI4.out.b0.x3; have p4 := HI4.out.b0.x4; have p5 := HI4.out.b0.x5)
              | (go_at_call 46; refine (CC.out _ HI4.out.bel).mono ?_; rintro e w5 ⟨rfl, hb1⟩; have HI5 := hid (HI4.out.on (below_after1 hb1)); clear hb1; clear p0 p1 p2 p3 p4 p5; have p0 := HI5.out.b0.x0; have p1 := HI5.out.b0.x1; have p2 := HI5.out.b0.x2; have p3 := HI5.out.b0.x3; have p4 := HI5.out.b0.x4; have p5 := HI5.out.b0.x5)
              | (go_at_call 47; refine (CI.out _ HI5.out.bel).mono ?_; rintro e w6 ⟨ba, bc, rfl, hrow, hb4⟩; have HI6 := hid (HI5.out.on hb4); have HROW := hid hrow; clear hb4 hrow; clear p0 p1 p2 p3 p4 p5))
            rw [invL_len]
            obtain ⟨w7, hw5⟩ : ∃ w5, w6.alloc (.cells #[.slice ba s.g.l.length bc] 69) = w5 := ⟨_, rfl⟩
            rw [hw5]
            have hb5 : Below w6.heap.size w6 w7 := by rw [← hw5]; exact below1 _ _
            have HI7 := hid (HI6.out.on hb5); have HE7 := hid (HROW.out.in.later hb5); have HW7 := hid (show w6.heap.size < w7.heap.size by rw [← hw5]; simp)
            have k0 : w7.cell? ⟨w6.heap.size, 0, none⟩ = some (.slice ba s.g.l.length bc) := by rw [← hw5]; simp [World.cell?_alloc_new]
            have HK7 := hid k0
            clear hw5 hb5
            have p0 := HI7.out.b0.x0
            have p1 := HI7.out.b0.x1
            have p2 := HI7.out.b0.x2
            have p3 := HI7.out.b0.x3
            have p4 := HI7.out.b0.x4
            have p5 := HI7.out.b0.x5
            rw [ho] at p4
            go_wp2_with (first
              | (go_at_call 48; (with_reducible refine (CR.out _ HI7.out.bel _ _ HE7.out).mono ?_); rintro e w8 ⟨rfl, hb6⟩; have HI8 := hid (HI7.out.on hb6); have HE8 := hid (HE7.out.later hb6); have HK8 := hid ((hb6.cell (p := ⟨w6.heap.size, 0, none⟩) HW7.out).trans HK7.out); clear hb6 k0; clear p0 p1 p2 p3 p4 p5; have p0 := HI8.out.b0.x0; have p1 := HI8.out.b0.x1; have p2 := HI8.out.b0.x2; have p3 := HI8.out.b0.x3; have p4 := HI8.out.b0.x4; have p5 := HI8.out.b0.x5; have k0 := HK8.out)
              | (go_at_call 49; (with_reducible refine (CX.out _ HI8.out.bel _ _ HE8.out).mono ?_); rintro e w9 ⟨rfl, hb7⟩; have HI9 := hid (HI8.out.on hb7); clear hb7 k0; clear p0 p1 p2 p3 p4 p5; have p0 := HI9.out.b0.x0; have p1 := HI9.out.b0.x1; have p2 := HI9.out.b0.x2; have p3 := HI9.out.b0.x3; have p4 := HI9.out.b0.x4; have p5 := HI9.out.b0.x5)
              | (go_at_call 50; (with_reducible refine (CU1.out (by trivial) _ HI9.out.bel).mono ?_); rintro e w10 ⟨rfl, hb1⟩; have HI10 := hid (HI9.out.on hb1); clear hb1; clear p0 p1 p2 p3 p4 p5; have p0 := HI10.out.b0.x0; have p1 := HI10.out.b0.x1; have p2 := HI10.out.b0.x2; have p3 := HI10.out.b0.x3; have p4 := HI10.out.b0.x4; have p5 := HI10.out.b0.x5)
              | (go_at_call 51; (with_reducible refine (CD.out _ HI10.out.bel).mono ?_); rintro e w11 ⟨rfl, hb1⟩; have HI11 := hid (HI10.out.on hb1); clear hb1; clear p0 p1 p2 p3 p4 p5; have p0 := HI11.out.b0.x0; have p1 := HI11.out.b0.x1; have p2 := HI11.out.b0.x2; have p3 := HI11.out.b0.x3; have p4 := HI11.out.b0.x4; have p5 := HI11.out.b0.x5))
            go_ret
            exact ⟨rfl, HI11.out.bel⟩
      · rw [decide_eq_false hr, Bool.false_and]
        have hr2 : (0 : Int) < (s.r.l.length : Int) := by omega
        have hr3 : 0 < s.r.l.length := by omega
        go_enter Tryz.func23, Tryz.ntmps23
        go_upto_region 8 with (first
          | (go_at_call 44; (with_reducible refine (CV.out _).mono ?_); rintro e w1 ⟨rfl, hb1⟩; have HI1 := hid (HI0.out.on hb1); clear hb1; clear p0 p1 p2 p3 p4 p5; have p0 := HI1.out.b0.x0; have p1 := HI1.out.b0.x1; have p2 := HI1.out.b0.x2; have p3 := HI1.out.b0.x3; have p4 := HI1.out.b0.x4; have p5 := HI1.out.b0.x5)
          | (go_at_call 45; (with_reducible refine (CM.out _ HI1.out.bel).mono ?_); rintro e w2 ⟨rfl, hb1⟩; have HI2 := hid (HI1.out.on hb1); clear hb1; clear p0 p1 p2 p3 p4 p5; have p0 := HI2.out.b0.x0; have p1 := HI2.out.b0.x1; have p2 := HI2.out.b0.x2; have p3 := HI2.out.b0.x3; have p4 := HI2.out.b0.x4; have p5 := HI2.out.b0.x5)
          | (go_at_call 46; (with_reducible refine (CA.out _ HI2.out.bel).mono ?_); rintro e w3 ⟨rfl, hb1⟩; have HI3 := hid (HI2.out.on hb1); clear hb1; clear p0 p1 p2 p3 p4 p5; have p0 := HI3.out.b0.x0; have p1 := HI3.out.b0.x1; have p2 := HI3.out.b0.x2; have p3 := HI3.out.b0.x3; have p4 := HI3.out.b0.x4; have p5 := HI3.out.b0.x5)
          | (go_at_call 46; (with_reducible refine (CB.out _ HI3.out.bel).mono ?_); rintro e w4 ⟨rfl, hb1⟩; have HI4 := hid (HI3.out.on hb1); clear hb1; clear p0 p1 p2 p3 p4 p5; have p0 := HI4.out.b0.x0; have p1 := HI4.out.b0.x1; have p2 := HI4.out.b0.x2; have p3 := HI4.out.b0.x3; have p4 := HI4.out.b0.x4; have p5 := HI4.out.b0.x5)
          | (go_at_call 46; refine (CC.out _ HI4.out.bel).mono ?_; rintro e w5 ⟨rfl, hb1⟩; have HI5 := hid (HI4.out.on (below_after1 hb1)); clear hb1; clear p0 p1 p2 p3 p4 p5; have p0 := HI5.out.b0.x0; have p1 := HI5.out.b0.x1; have p2 := HI5.out.b0.x2; have p3 := HI5.out.b0.x3; have p4 := HI5.out.b0.x4; have p5 := HI5.out.b0.x5)
          | (go_at_call 47; refine (CI.out _ HI5.out.bel).mono ?_; rintro e w6 ⟨ba, bc, rfl, hrow, hb4⟩; have HI6 := hid (HI5.out.on hb4); have HROW := hid hrow; clear hb4 hrow; clear p0 p1 p2 p3 p4 p5))
        rw [invL_len]
        obtain ⟨w7, hw5⟩ : ∃ w5, w6.alloc (.cells #[.slice ba s.g.l.length bc] 69) = w5 := ⟨_, rfl⟩
        rw [hw5]
        have hb5 : Below w6.heap.size w6 w7 := by rw [← hw5]; exact below1 _ _
        have HI7 := hid (HI6.out.on hb5); have HE7 := hid (HROW.out.in.later hb5); have HW7 := hid (show w6.heap.size < w7.heap.size by rw [← hw5]; simp)
        have k0 : w7.cell? ⟨w6.heap.size, 0, none⟩ = some (.slice ba s.g.l.length bc) := by rw [← hw5]; simp [World.cell?_alloc_new]
        have HK7 := hid k0
        clear hw5 hb5
        have p0 := HI7.out.b0.x0
        have p1 := HI7.out.b0.x1
        have p2 := HI7.out.b0.x2
        have p3 := HI7.out.b0.x3
        have p4 := HI7.out.b0.x4
        have p5 := HI7.out.b0.x5
        rw [ho] at p4
        go_wp2
        go_ret
        exact ⟨rfl, HI7.out.bel⟩
    · rw [ho, Bool.false_and]
      go_enter Tryz.func23, Tryz.ntmps23
      go_upto_region 8 with (first
        | (go_at_call 44; (with_reducible refine (CV.out _).mono ?_); rintro e w1 ⟨rfl, hb1⟩; have HI1 := hid (HI0.out.on hb1); clear hb1; clear p0 p1 p2 p3 p4 p5; have p0 := HI1.out.b0.x0; have p1 := HI1.out.b0.x1; have p2 := HI1.out.b0.x2; have p3 := HI1.out.b0.x3; have p4 := HI1.out.b0.x4; have p5 := HI1.out.b0.x5)
        | (go_at_call 45; (with_reducible refine (CM.out _ HI1.out.bel).mono ?_); rintro e w2 ⟨rfl, hb1⟩; have HI2 := hid (HI1.out.on hb1); clear hb1; clear p0 p1 p2 p3 p4 p5; have p0 := HI2.out.b0.x0; have p1 := HI2.out.b0.x1; have p2 := HI2.out.b0.x2; have p3 := HI2.out.b0.x3; have p4 := HI2.out.b0.x4; have p5 := HI2.out.b0.x5)
        | (go_at_call 46; (with_reducible refine (CA.out _ HI2.out.bel).mono ?_); rintro e w3 ⟨rfl, hb1⟩; have HI3 := hid (HI2.out.on hb1); clear hb1; clear p0 p1 p2 p3 p4 p5; have p0 := HI3.out.b0.x0; have p1 := HI3.out.b0.x1; have p2 := HI3.out.b0.x2; have p3 := HI3.out.b0.x3; have p4 := HI3.out.b0.x4; have p5 := HI3.out.b0.x5)
        | (go_at_call 46; (with_reducible refine (CB.out _ HI3.out.bel).mono ?_); rintro e w4 ⟨rfl, hb1⟩; have HI4 := hid (HI3.out.on hb1); clear hb1; clear p0 p1 p2 p3 p4 p5; have p0 := HI4.out.b0.x0; have p1 := HI4.out.b0.x1; have p2 := HI4.out.b0.x2; have p3 := HI4.out.b0.x3; have p4 := HI4.out.b0.x4; have p5 := HI4.out.b0.x5)
        | (go_at_call 46; refine (CC.out _ HI4.out.bel).mono ?_; rintro e w5 ⟨rfl, hb1⟩; have HI5 := hid (HI4.out.on (below_after1 hb1)); clear hb1; clear p0 p1 p2 p3 p4 p5; have p0 := HI5.out.b0.x0; have p1 := HI5.out.b0.x1; have p2 := HI5.out.b0.x2; have p3 := HI5.out.b0.x3; have p4 := HI5.out.b0.x4; have p5 := HI5.out.b0.x5)
        | (go_at_call 47; refine (CI.out _ HI5.out.bel).mono ?_; rintro e w6 ⟨ba, bc, rfl, hrow, hb4⟩; have HI6 := hid (HI5.out.on hb4); have HROW := hid hrow; clear hb4 hrow; clear p0 p1 p2 p3 p4 p5))
      rw [invL_len]
      obtain ⟨w7, hw5⟩ : ∃ w5, w6.alloc (.cells #[.slice ba s.g.l.length bc] 69) = w5 := ⟨_, rfl⟩
      rw [hw5]
      have hb5 : Below w6.heap.size w6 w7 := by rw [← hw5]; exact below1 _ _
      have HI7 := hid (HI6.out.on hb5); have HE7 := hid (HROW.out.in.later hb5); have HW7 := hid (show w6.heap.size < w7.heap.size by rw [← hw5]; simp)
      have k0 : w7.cell? ⟨w6.heap.size, 0, none⟩ = some (.slice ba s.g.l.length bc) := by rw [← hw5]; simp [World.cell?_alloc_new]
      have HK7 := hid k0
      clear hw5 hb5
      have p0 := HI7.out.b0.x0
      have p1 := HI7.out.b0.x1
      have p2 := HI7.out.b0.x2
      have p3 := HI7.out.b0.x3
      have p4 := HI7.out.b0.x4
      have p5 := HI7.out.b0.x5
      rw [ho] at p4
      go_wp2
      go_ret
      exact ⟨rfl, HI7.out.bel⟩
end Go.Proofs.YtfiobemeogaaiaaGreat
namespace Go.Proofs.YtfiobemeogaaiaaGreat
open Go.RowKit
set_option linter.unusedVariables false
set_option linter.unusedSimpArgs false
def RdS (w : World) (s : Sta) (w1 : World) : Prop :=
  Below w.heap.size w w1 ∧ w.heap.size + 1 ≤ w1.heap.size ∧ w1.cell? ⟨w.heap.size, 0, none⟩ = some (.string s.t) ∧ w1.cell? ⟨w.heap.size, 1, none⟩ = some (.slice s.m.a s.m.l.length s.m.c) ∧ w1.cell? ⟨w.heap.size, 2, none⟩ = some (.slice s.u.a s.u.l.length s.u.c) ∧ w1.cell? ⟨w.heap.size, 3, none⟩ = some (.slice s.r.a s.r.l.length s.r.c) ∧ w1.cell? ⟨w.heap.size, 4, none⟩ = some (.bool s.o) ∧ w1.cell? ⟨w.heap.size, 5, none⟩ = some (.slice s.g.a s.g.l.length s.g.c)
theorem RdI.rds {w w1 : World} {s : Sta} (h : RdI w s w1) : RdS w s w1 := ⟨h.bel, h.b0.lt, h.b0.x0, h.b0.x1, h.b0.x2, h.b0.x3, h.b0.x4, h.b0.x5⟩
theorem RdS.rdi {w w1 : World} {s : Sta} (h : RdS w s w1) : RdI w s w1 := by
  obtain ⟨a, b, c0, c1, c2, c3, c4, c5⟩ := h
  exact ⟨⟨b, c0, c1, c2, c3, c4, c5⟩, a⟩
theorem RdS.drew {w w1 : World} {s : Sta} (h : RdS w s w1) : RdS w s w1.drew := ⟨h.1.drew, h.2⟩
theorem RdS.drewN {w w1 : World} {s : Sta} (h : RdS w s w1) (n : Nat) : RdS w s (w1.drewN n) := ⟨drewN_below h.1 n, h.2⟩
theorem RdS.on {w w1 w2 : World} {s : Sta} (h : RdS w s w1) (hb : Below w1.heap.size w1 w2) : RdS w s w2 := (h.rdi.on hb).rds
end Go.Proofs.YtfiobemeogaaiaaGreat
namespace Go.Proofs.YtfiobemeogaaiaaGreat
open Lib (hid)
open Go.RowKit
set_option linter.unusedVariables false
set_option linter.unusedSimpArgs false
theorem eclone_any (a : Option Addr) (l : List Edt) (c : Nat) (w : World) (hp : EPcs w ⟨a, l, c⟩) (hl : l.length ≤ 1000000) :
    Calls Tryz.prog 73 #[.slice a l.length c] w fun e w' => ∃ a' c', e = .returned (.slice a' l.length c') ∧ w'.ownsRow w.heap.size 87 3 (.slice a' l.length c') l.length (Edt.flat l) ∧ Below w.heap.size w w' := by
  cases a with
  | none =>
    have e0 : l = [] := hp.len rfl
    have e1 : c = 0 := hp.nil rfl
    subst e0
    subst e1
    refine (eclone_nil w).mono ?_
    rintro e w' ⟨rfl, rfl⟩
    exact ⟨none, 0, rfl, World.ownsRow_nil _ _ _ _, Below.refl _ _⟩
  | some ad =>
    refine (eclone_some ad l c w hp.row hl).mono ?_
    rintro e w' ⟨v, rfl, ho, -, hb⟩
    obtain ⟨a', c', rfl, -⟩ := own_erow ho
    exact ⟨a', c', rfl, ho, hb⟩
theorem kclone_any (a : Option Addr) (l : List Mrk) (c : Nat) (w : World) (hp : KPcs w ⟨a, l, c⟩) (hl : l.length ≤ 1000000) :
    Calls Tryz.prog 71 #[.slice a l.length c] w fun e w' => ∃ a' c', e = .returned (.slice a' l.length c') ∧ w'.ownsRow w.heap.size 64 2 (.slice a' l.length c') l.length (Mrk.flat l) ∧ Below w.heap.size w w' := by
  cases a with
  | none =>
    have e0 : l = [] := hp.len rfl
    have e1 : c = 0 := hp.nil rfl
    subst e0
    subst e1
    refine (mkclone_nil w).mono ?_
    rintro e w' ⟨rfl, rfl⟩
    exact ⟨none, 0, rfl, World.ownsRow_nil _ _ _ _, Below.refl _ _⟩
  | some ad =>
    refine (kclone_some ad l c w hp.row hl).mono ?_
    rintro e w' ⟨v, rfl, ho, -, hb⟩
    obtain ⟨a', c', rfl, -⟩ := own_krow ho
    exact ⟨a', c', rfl, ho, hb⟩
abbrev OwnE (w : World) (base : Nat) (x : EPc) : Prop := w.ownsRow base 87 3 (.slice x.a x.l.length x.c) x.l.length (Edt.flat x.l)
abbrev OwnK (w : World) (base : Nat) (x : KPc) : Prop := w.ownsRow base 64 2 (.slice x.a x.l.length x.c) x.l.length (Mrk.flat x.l)
abbrev OwnS (w : World) (base : Nat) (x : SPc) : Prop := w.ownsRow base 69 1 (.slice x.a x.l.length x.c) x.l.length (sflat x.l)
def CopS (w : World) (base : Nat) (x : SPc) : Prop := x.l = [] ∨ ∃ g, x.a = some ⟨g, 0, none⟩ ∧ base ≤ g ∧ OwnS w base x ∧ ∀ y ∈ x.l, OwnE w (g + 1) y
def RetCop (w : World) (L : List (List Edt)) (e : Ending) (w' : World) : Prop := ∃ a c l, e = .returned (.slice a l.length c) ∧ lsP l = L ∧ SPcs w' ⟨a, l, c⟩ ∧ CopS w' w.heap.size ⟨a, l, c⟩ ∧ Below w.heap.size w w'
theorem OwnE.in {w : World} {base : Nat} {x : EPc} (h : OwnE w base x) : EPcs w x := by
  obtain ⟨a, c, ev, hr⟩ := own_erow h
  obtain ⟨xa, xl, xc⟩ := x
  injection ev with e1 e2 e3
  simp only at e1 e3
  subst e1
  subst e3
  exact hr.in
theorem OwnK.in {w : World} {base : Nat} {x : KPc} (h : OwnK w base x) : KPcs w x := by
  obtain ⟨a, c, ev, hr⟩ := own_krow h
  obtain ⟨xa, xl, xc⟩ := x
  injection ev with e1 e2 e3
  simp only at e1 e3
  subst e1
  subst e3
  exact hr.in
set_option maxRecDepth 100000 in
set_option maxHeartbeats 1600000 in
theorem copysteps_any (a : Option Addr) (l : List EPc) (c : Nat) (w : World) (hp : SPcs w ⟨a, l, c⟩) (hl : l.length ≤ 1000) (hb : ∀ x ∈ l, x.l.length ≤ 1000000) :
    Calls Tryz.prog 72 #[.slice a l.length c] w (RetCop w (lsP l)) := by
  cases a with
  | none =>
    have e0 : l = [] := hp.len rfl
    have e1 : c = 0 := hp.nil rfl
    subst e0
    subst e1
    have CN := hid (fun W => tclone_nil W)
    clear hp hl hb
    show Calls Tryz.prog 72 #[.slice none 0 0] w (RetCop w (lsP []))
    go_enter Tryz.func72, Tryz.ntmps72
    go_wp2_with fail
    refine (CN.out _).mono ?_; rintro e w1 ⟨rfl, hw1⟩
    have HB := hid (show Below w.heap.size w w1 by rw [hw1]; exact Below.refl _ _)
    clear hw1
    go_wp2
    go_loopw [9] (fun i wr => i = .int .i64 0 ∧ Below w.heap.size w wr) (fun i _ => 0)
    case atStart => exact ⟨rfl, HB.out⟩
    case round =>
      obtain ⟨rfl, hbel⟩ := hrel
      have HB2 := hid hbel
      clear hbel
      go_wp2
      go_ret
      exact ⟨none, 0, [], rfl, rfl, SPcs.empty _, .inl rfl, HB2.out⟩
  | some ad0 =>
    obtain ⟨n, hn⟩ : ∃ n, l.length = n := ⟨_, rfl⟩
    have cc := tclone_some ad0 l c w hp.row (by omega)
    have CC := hid cc; have HP := hid hp; have HN := hid hn; have HBB := hid hb
    rw [hn] at hl CC ⊢
    clear hn hp hb cc
    go_enter Tryz.func72, Tryz.ntmps72
    go_wp2_with fail
    refine CC.out.mono ?_; rintro e w1 ⟨v, rfl, hown, hne, hb1⟩
    have hown : w1.ownsRow w.heap.size 69 1 v n (sflat l) := hown
    obtain ⟨g, cp, hg, hwg⟩ : ∃ g cp, v = .slice (some ⟨g, 0, none⟩) n cp ∧ w.heap.size ≤ g := by
      rcases hown.2 with ⟨h, -⟩ | ⟨g, cap, cur, h, hb, -⟩
      · exact absurd h hne
      · exact ⟨g, cap, h, hb⟩
    subst hg
    have HOWN := hid hown; have HB1 := hid hb1; have HG := hid hwg
    clear hown hne hb1 CC hwg
    go_wp2
    go_loopw [9] (fun i wr => ∃ (k : Nat) (qs : List EPc), k ≤ n ∧ i = .int .i64 k ∧ qs.length = k ∧ wr.ownsRow w.heap.size 69 1 (.slice (some ⟨g, 0, none⟩) n cp) n (sflat (qs ++ l.drop k)) ∧ lsP qs = (lsP l).take k ∧ (∀ x ∈ qs, OwnE wr (g + 1) x) ∧ Below w.heap.size w wr) (fun i _ => n - (intOf i).toNat)
    case atStart => exact ⟨0, [], Nat.zero_le _, rfl, rfl, HOWN.out, rfl, fun x hx => absurd hx (by simp), HB1.out⟩
    case round =>
      obtain ⟨k, qs, hk, rfl, hqk, hown, hqs, hall, hbel⟩ := hrel
      by_cases hlt : k < n
      · have hkl : k < l.length := by rw [HN.out]; exact hlt
        have hx1 := (HP.out.later hbel).all.at k hkl
        have hx2 := HBB.out (l[k]!) (by rw [epget hkl]; exact List.getElem_mem hkl)
        have hx3 : lsP qs ++ [(l[k]!).l] = (lsP l).take (k + 1) := by rw [ltake (by rw [lsP_len]; exact hkl), hqs, lsP_get l k hkl]
        have hgl : g < wr.heap.size := (hown.lt _ rfl).2
        have hkq : k < (qs ++ l.drop k).length := by rw [List.length_append, List.length_drop, hqk]; omega
        have q0 := (hown.cellAt k (by omega)).trans (sflat_get _ k hkq)
        have hdr : (qs ++ l.drop k)[k]! = l[k]! := by
          rw [epget hkq, epget hkl, List.getElem_append_right (by rw [hqk]; exact Nat.le_refl _), List.getElem_drop]
          simp only [hqk, Nat.sub_self, Nat.add_zero]
        rw [hdr] at q0
        have hset : ∀ y, (qs ++ l.drop k).set k y = (qs ++ [y]) ++ l.drop (k + 1) := fun y => by
          rw [List.set_append_right _ _ (by rw [hqk]; exact Nat.le_refl _), hqk, Nat.sub_self, List.drop_eq_getElem_cons hkl, List.set_cons_zero, List.append_assoc]
          rfl
        obtain ⟨x, hx⟩ : ∃ x, l[k]! = x := ⟨_, rfl⟩
        rw [hx] at q0 hx1 hx2 hx3
        obtain ⟨xa, xl, xc⟩ := x
        simp only [EPc.v] at q0 hx2 hx3
        replace q0 : wr.cell? ⟨g, k, none⟩ = some (.slice xa xl.length xc) := q0
        have hbx := below1 wr (.cells #[.slice xa xl.length xc] 69)
        have co := eclone_any xa xl xc _ (hx1.later hbx) hx2
        obtain ⟨m, hm⟩ : ∃ m, xl.length = m := ⟨_, rfl⟩
        have CO := hid co; have HO := hid hown; have HM := hid hm; have HX3 := hid hx3; have HALL := hid hall; have HBX := hid hbx; have HGL := hid hgl; have HQ := hid hqk; have HSET := hid hset
        rw [hm] at q0 CO HBX
        have b0 : (0 : Int) ≤ (k : Int) := by omega
        have b1 : (k : Int) < (n : Int) := by omega
        clear co hown hm hx hx1 hx2 hx3 hall hbx hgl hqs hqk hset hdr hkq
        go_wp2_with fail
        refine CO.out.mono ?_
        rintro e w3 ⟨a3, c3, rfl, hr3, hb3⟩
        have hb4 : Below wr.heap.size wr w3 := HBX.out.trans (hb3.mono HBX.out.size)
        have HO3 := hid (own_onto HO.out hb4)
        have HB3 := hid (hbel.trans (hb4.mono hbel.size))
        have f0 := HO3.out.frozenAt k
        have q3 := (hb4.cell (p := ⟨g, k, none⟩) HGL.out).trans q0
        have HO4 := hid (HO3.out.stored k (.slice a3 xl.length c3)).1
        have HS := hid ((sflat_set (qs ++ l.drop k) k ⟨a3, xl, c3⟩).trans (congrArg sflat (HSET.out ⟨a3, xl, c3⟩)))
        have HB4 := hid (HB3.out.setCell (p := ⟨g, k, none⟩) HG.out (.slice a3 m c3))
        have hr3 : OwnE w3 (wr.alloc (.cells #[.slice xa m xc] 69)).heap.size ⟨a3, xl, c3⟩ := by show World.ownsRow _ _ _ _ (.slice a3 xl.length c3) _ _; rw [HM.out]; rw [← HM.out] at hr3 ⊢; exact hr3
        have HR3 := hid (own_set (own_mono (b2 := g + 1) hr3 (by have := HGL.out; simp; omega)) (p := ⟨g, k, none⟩) (Nat.lt_succ_self g) (.slice a3 m c3))
        have HAL := hid (fun x hx => own_set (own_onto (HALL.out x hx) hb4) (p := ⟨g, k, none⟩) (Nat.lt_succ_self g) (.slice a3 m c3))
        clear hr3 hb3 hb4 hbel q0
        go_wp2
        go_roundw
        case rel =>
          refine ⟨k + 1, qs ++ [⟨a3, xl, c3⟩], by omega, by go_num, by rw [List.length_append, HQ.out]; rfl, ?_, by rw [lsP_app]; exact HX3.out, ?_, HB4.out⟩
          · have h := HO4.out
            have hS := HS.out
            simp only [EPc.v] at hS
            rw [hS, HM.out] at h
            exact h
          · intro x hx
            rcases List.mem_append.1 hx with hx | hx
            · exact HAL.out x hx
            · obtain rfl := List.mem_singleton.1 hx
              exact HR3.out
        case measure => simp [intOf]; omega
      · obtain rfl : k = n := by omega
        rw [List.drop_eq_nil_of_le (by rw [HN.out]; exact Nat.le_refl _), List.append_nil] at hown
        have hown : wr.ownsRow w.heap.size 69 1 (.slice (some ⟨g, 0, none⟩) k cp) qs.length (sflat qs) := by rw [hqk]; exact hown
        obtain ⟨a4, c4, ev, hrow⟩ := own_srow hown (fun x hx => OwnE.in (hall x hx))
        rw [hqk] at ev
        injection ev with e1 e2 e3
        subst e1
        subst e3
        have hq2 : lsP qs = lsP l := by rw [hqs, List.take_of_length_le (by rw [lsP_len, HN.out]; exact Nat.le_refl _)]
        have HROW := hid hrow; have HQ := hid hqk; have HOO := hid (show wr.ownsRow w.heap.size 69 1 (.slice (some ⟨g, 0, none⟩) qs.length cp) qs.length (sflat qs) by have h := hown; rw [hqk] at h ⊢; exact h); have HQ2 := hid hq2; have HALL := hid hall
        clear hrow hown hqk hqs hall hq2
        go_wp2
        go_ret
        exact ⟨_, cp, qs, by rw [HQ.out]; rfl, HQ2.out, HROW.out.in, .inr ⟨g, rfl, HG.out, HOO.out, HALL.out⟩, hbel⟩
end Go.Proofs.YtfiobemeogaaiaaGreat
namespace Go.Proofs.YtfiobemeogaaiaaGreat
open Lib (hid)
open Go.RowKit
set_option linter.unusedVariables false
set_option linter.unusedSimpArgs false
structure CopI (w : World) (s s' : Sta) (b1 b2 b3 : Nat) (w' : World) : Prop where
  d : s'.d = s.d
  l1 : w.heap.size ≤ b1
  l2 : b1 ≤ b2
  l3 : b2 ≤ b3
  l4 : b3 ≤ w'.heap.size
  m : OwnK w' w.heap.size s'.m
  mh : ∀ k, (Value.slice s'.m.a s'.m.l.length s'.m.c).ownBlock = some k → k < b1
  u : CopS w' b1 s'.u
  uh : s'.u.l = [] ∨ ∀ k, (Value.slice s'.u.a s'.u.l.length s'.u.c).ownBlock = some k → k < b2
  ue : ∀ y ∈ s'.u.l, ∀ k, (Value.slice y.a y.l.length y.c).ownBlock = some k → k < b2
  us : SPcs w' s'.u
  r : CopS w' b2 s'.r
  rh : s'.r.l = [] ∨ ∀ k, (Value.slice s'.r.a s'.r.l.length s'.r.c).ownBlock = some k → k < b3
  re : ∀ y ∈ s'.r.l, ∀ k, (Value.slice y.a y.l.length y.c).ownBlock = some k → k < b3
  rs : SPcs w' s'.r
  g : OwnE w' b3 s'.g
  bel : Below w.heap.size w w'
theorem CopS.on {w w' : World} {base : Nat} {x : SPc} (h : CopS w base x) (hb : Below w.heap.size w w') : CopS w' base x := by
  rcases h with h | ⟨g, h1, h2, h3, h4⟩
  · exact .inl h
  · exact .inr ⟨g, h1, h2, own_onto h3 hb, fun y hy => own_onto (h4 y hy) hb⟩
theorem CopS.setCell {w : World} {base : Nat} {x : SPc} (h : CopS w base x) {p : Addr} (hp : p.block < base) (u : Value) : CopS (w.setCell p u) base x := by
  rcases h with h | ⟨g, h1, h2, h3, h4⟩
  · exact .inl h
  · exact .inr ⟨g, h1, h2, own_set h3 hp u, fun y hy => own_set (h4 y hy) (by omega) u⟩
theorem CopS.mono {w : World} {base b2 : Nat} {x : SPc} (h : CopS w base x) (hb : b2 ≤ base) : CopS w b2 x := by
  rcases h with h | ⟨g, h1, h2, h3, h4⟩
  · exact .inl h
  · exact .inr ⟨g, h1, Nat.le_trans hb h2, own_mono h3 hb, h4⟩
theorem SPcs.setLow {w : World} {base : Nat} {x : SPc} (h : SPcs w x) (hc : CopS w base x) {p : Addr} (hp : p.block < base) (u : Value) : SPcs (w.setCell p u) x := by
  have hsz : (w.setCell p u).heap.size = w.heap.size := World.size_setCell _ _ _
  rcases hc with hc | ⟨g, h1, h2, h3, h4⟩
  · exact ⟨fun k hk => absurd hk (by rw [hc]; simp), fun y hy => absurd hy (by rw [hc]; simp), h.nil, h.le, h.cap⟩
  · refine ⟨fun k hk => ?_, fun y hy => OwnE.in (own_set (h4 y hy) (by omega) u), h.nil, h.le, h.cap⟩
    obtain ⟨ad, e, hb, q⟩ := h.row k hk
    refine ⟨ad, e, by rw [hsz]; exact hb, (World.cell?_setCell_other _ _ _ _ (fun e2 => ?_)).trans q⟩
    rw [h1] at e
    cases e
    have := congrArg Addr.block e2
    rw [stk_block] at this
    have : p.block = g := this
    omega
theorem own_hi {w : World} {base size n : Nat} {e : TypeId} {v : Value} {xs : List Value} (h : w.ownsRow base e size v n xs) : ∀ k, v.ownBlock = some k → k < w.heap.size := fun k hk => (h.lt k hk).2
theorem CopS.hi {w : World} {base : Nat} {x : SPc} (h : CopS w base x) (hs : SPcs w x) : (x.l = [] ∨ ∀ k, (Value.slice x.a x.l.length x.c).ownBlock = some k → k < w.heap.size) ∧ ∀ y ∈ x.l, ∀ k, (Value.slice y.a y.l.length y.c).ownBlock = some k → k < w.heap.size := by
  rcases h with h | ⟨g, h1, h2, h3, h4⟩
  · exact ⟨.inl h, fun y hy => absurd hy (by rw [h]; simp)⟩
  · exact ⟨.inr (own_hi h3), fun y hy => own_hi (h4 y hy)⟩
set_option maxRecDepth 100000 in
set_option maxHeartbeats 3200000 in
theorem copy_any (s : Sta) (w : World) (hin : StaIn w s) (hm : s.m.l.length ≤ 1000) (hu : s.u.l.length ≤ 1000) (hr : s.r.l.length ≤ 1000) (hg : s.g.l.length ≤ 1000) (hz : ∀ x ∈ s.u.l ++ s.r.l, x.l.length ≤ 1000000) :
    Calls Tryz.prog 37 #[s.v] w fun e w' => ∃ s' b1 b2 b3, e = .returned s'.v ∧ CopI w s s' b1 b2 b3 w' := by
  have cM := fun W (hW : Below w.heap.size w W) => kclone_any s.m.a s.m.l s.m.c W (hin.later hW).m (by omega)
  have cU := fun W (hW : Below w.heap.size w W) => copysteps_any s.u.a s.u.l s.u.c W (hin.later hW).u hu (fun x hx => hz x (by simp [hx]))
  have cR := fun W (hW : Below w.heap.size w W) => copysteps_any s.r.a s.r.l s.r.c W (hin.later hW).r hr (fun x hx => hz x (by simp [hx]))
  have cG := fun W (hW : Below w.heap.size w W) => eclone_any s.g.a s.g.l s.g.c W (hin.later hW).g (by omega)
  have B0 : Blk ((w.alloc (.cells #[.string s.t, .slice s.m.a s.m.l.length s.m.c, .slice s.u.a s.u.l.length s.u.c, .slice s.r.a s.r.l.length s.r.c, .bool s.o, .slice s.g.a s.g.l.length s.g.c] 31)).alloc (.cells #[.string ⟨#[]⟩, .slice none 0 0, .slice none 0 0, .slice none 0 0, .bool false, .slice none 0 0] 31)) w.heap.size #[.string s.t, .slice s.m.a s.m.l.length s.m.c, .slice s.u.a s.u.l.length s.u.c, .slice s.r.a s.r.l.length s.r.c, .bool s.o, .slice s.g.a s.g.l.length s.g.c] 31 := (Blk.new _ _ _).alloc _
  have B1 : Blk ((w.alloc (.cells #[.string s.t, .slice s.m.a s.m.l.length s.m.c, .slice s.u.a s.u.l.length s.u.c, .slice s.r.a s.r.l.length s.r.c, .bool s.o, .slice s.g.a s.g.l.length s.g.c] 31)).alloc (.cells #[.string ⟨#[]⟩, .slice none 0 0, .slice none 0 0, .slice none 0 0, .bool false, .slice none 0 0] 31)) (w.heap.size + 1) #[.string ⟨#[]⟩, .slice none 0 0, .slice none 0 0, .slice none 0 0, .bool false, .slice none 0 0] 31 := by
    have := Blk.new (w.alloc (.cells #[.string s.t, .slice s.m.a s.m.l.length s.m.c, .slice s.u.a s.u.l.length s.u.c, .slice s.r.a s.r.l.length s.r.c, .bool s.o, .slice s.g.a s.g.l.length s.g.c] 31)) #[.string ⟨#[]⟩, .slice none 0 0, .slice none 0 0, .slice none 0 0, .bool false, .slice none 0 0] 31
    rwa [World.size_alloc] at this
  have hb0 := below2 w (.cells #[.string s.t, .slice s.m.a s.m.l.length s.m.c, .slice s.u.a s.u.l.length s.u.c, .slice s.r.a s.r.l.length s.r.c, .bool s.o, .slice s.g.a s.g.l.length s.g.c] 31) (.cells #[.string ⟨#[]⟩, .slice none 0 0, .slice none 0 0, .slice none 0 0, .bool false, .slice none 0 0] 31)
  obtain ⟨wX, hwX⟩ : ∃ wX, (w.alloc (.cells #[.string s.t, .slice s.m.a s.m.l.length s.m.c, .slice s.u.a s.u.l.length s.u.c, .slice s.r.a s.r.l.length s.r.c, .bool s.o, .slice s.g.a s.g.l.length s.g.c] 31)).alloc (.cells #[.string ⟨#[]⟩, .slice none 0 0, .slice none 0 0, .slice none 0 0, .bool false, .slice none 0 0] 31) = wX := ⟨_, rfl⟩
  rw [hwX] at B0 B1 hb0
  have x1 : wX.cell? ⟨w.heap.size, 1, none⟩ = some (.slice s.m.a s.m.l.length s.m.c) := B0.cell 1 _ rfl
  have HB0 := hid hb0; have K0 := hid B0; have R0 := hid B1; have CM := hid cM; have CU := hid cU; have CR := hid cR; have CG := hid cG
  clear hb0 B0 B1 cM cU cR cG hin hz
  go_enter Tryz.func37, Tryz.ntmps37
  go_wp2_with fail
  refine (CM.out _ HB0.out).mono ?_; rintro e w1 ⟨ma, mc, rfl, hom, hb⟩
  have hlt : w.heap.size < wX.heap.size := K0.out.lt
  have hbs : Below w.heap.size w w1 := HB0.out.trans (hb.mono HB0.out.size)
  have kb := K0.out.onto hb
  have rb := R0.out.onto hb
  have y1 : w1.cell? ⟨w.heap.size, 1, none⟩ = some (.slice s.m.a s.m.l.length s.m.c) := kb.cell 1 _ rfl
  have fz := kb.free 1
  have kv : Blk (w1.setCell ⟨w.heap.size, 1, none⟩ (.slice ma s.m.l.length mc)) w.heap.size #[.string s.t, .slice ma s.m.l.length mc, .slice s.u.a s.u.l.length s.u.c, .slice s.r.a s.r.l.length s.r.c, .bool s.o, .slice s.g.a s.g.l.length s.g.c] 31 := kb.set 1 _
  have rv : Blk (w1.setCell ⟨w.heap.size, 1, none⟩ (.slice ma s.m.l.length mc)) (w.heap.size + 1) #[.string ⟨#[]⟩, .slice none 0 0, .slice none 0 0, .slice none 0 0, .bool false, .slice none 0 0] 31 := rb.other _ (by show w.heap.size ≠ w.heap.size + 1; omega) _
  have bv : Below w.heap.size w (w1.setCell ⟨w.heap.size, 1, none⟩ (.slice ma s.m.l.length mc)) := hbs.setCell (p := ⟨w.heap.size, 1, none⟩) (Nat.le_refl _) _
  have row : OwnK (w1.setCell ⟨w.heap.size, 1, none⟩ (.slice ma s.m.l.length mc)) wX.heap.size ⟨ma, s.m.l, mc⟩ := own_set hom (p := ⟨w.heap.size, 1, none⟩) hlt _
  have sz : (w1.setCell ⟨w.heap.size, 1, none⟩ (.slice ma s.m.l.length mc)).heap.size = w1.heap.size := World.size_setCell _ _ _
  obtain ⟨v1, hv⟩ : ∃ V, w1.setCell ⟨w.heap.size, 1, none⟩ (.slice ma s.m.l.length mc) = V := ⟨_, rfl⟩
  rw [hv] at kv rv bv row sz
  have HV1 := hid hv
  have HB1 := hid bv; have K1 := hid kv; have R1 := hid rv; have HL0 := hid hlt; have HZ1 := hid (show wX.heap.size ≤ v1.heap.size by rw [sz]; exact hb.size)
  have OM := hid row
  have HH0 := hid (own_hi row)
  have z2 : v1.cell? ⟨w.heap.size, 2, none⟩ = some (.slice s.u.a s.u.l.length s.u.c) := kv.cell 2 _ rfl
  clear hlt hbs kb rb kv rv bv row sz hb hom x1
  go_wp2_with fail
  refine (CU.out _ HB1.out).mono ?_; rintro e w2 ⟨ua, uc, ul, rfl, hul, hus, huc, hb⟩
  have hlt : w.heap.size < v1.heap.size := K1.out.lt
  have hbs : Below w.heap.size w w2 := HB1.out.trans (hb.mono HB1.out.size)
  have kb := K1.out.onto hb
  have rb := R1.out.onto hb
  have y2 : w2.cell? ⟨w.heap.size, 2, none⟩ = some (.slice s.u.a s.u.l.length s.u.c) := kb.cell 2 _ rfl
  have fz := kb.free 2
  have kv : Blk (w2.setCell ⟨w.heap.size, 2, none⟩ (.slice ua ul.length uc)) w.heap.size #[.string s.t, .slice ma s.m.l.length mc, .slice ua ul.length uc, .slice s.r.a s.r.l.length s.r.c, .bool s.o, .slice s.g.a s.g.l.length s.g.c] 31 := kb.set 2 _
  have rv : Blk (w2.setCell ⟨w.heap.size, 2, none⟩ (.slice ua ul.length uc)) (w.heap.size + 1) #[.string ⟨#[]⟩, .slice none 0 0, .slice none 0 0, .slice none 0 0, .bool false, .slice none 0 0] 31 := rb.other _ (by show w.heap.size ≠ w.heap.size + 1; omega) _
  have bv : Below w.heap.size w (w2.setCell ⟨w.heap.size, 2, none⟩ (.slice ua ul.length uc)) := hbs.setCell (p := ⟨w.heap.size, 2, none⟩) (Nat.le_refl _) _
  have row : CopS (w2.setCell ⟨w.heap.size, 2, none⟩ (.slice ua ul.length uc)) v1.heap.size ⟨ua, ul, uc⟩ := huc.setCell (p := ⟨w.heap.size, 2, none⟩) hlt _
  have rows : SPcs (w2.setCell ⟨w.heap.size, 2, none⟩ (.slice ua ul.length uc)) ⟨ua, ul, uc⟩ := hus.setLow huc (p := ⟨w.heap.size, 2, none⟩) hlt _
  have sz : (w2.setCell ⟨w.heap.size, 2, none⟩ (.slice ua ul.length uc)).heap.size = w2.heap.size := World.size_setCell _ _ _
  have om := own_set (own_onto OM.out hb) (p := ⟨w.heap.size, 2, none⟩) HL0.out (.slice ua ul.length uc)
  obtain ⟨v2, hv⟩ : ∃ V, w2.setCell ⟨w.heap.size, 2, none⟩ (.slice ua ul.length uc) = V := ⟨_, rfl⟩
  rw [hv] at kv rv bv row sz rows om
  have HV2 := hid hv
  have HB2 := hid bv; have K2 := hid kv; have R2 := hid rv; have HL1 := hid hlt; have HZ2 := hid (show v1.heap.size ≤ v2.heap.size by rw [sz]; exact hb.size)
  have OU := hid row; have OUS := hid rows; have OM := hid om; have HUL := hid hul
  have HH1 := hid (CopS.hi row rows)
  have z3 : v2.cell? ⟨w.heap.size, 3, none⟩ = some (.slice s.r.a s.r.l.length s.r.c) := kv.cell 3 _ rfl
  clear hlt hbs kb rb kv rv bv row sz hb rows om hul hus huc z2
  go_wp2_with fail
  refine (CR.out _ HB2.out).mono ?_; rintro e w3 ⟨ra, rc, rl, rfl, hrl, hrs, hrc, hb⟩
  have hlt : w.heap.size < v2.heap.size := K2.out.lt
  have hbs : Below w.heap.size w w3 := HB2.out.trans (hb.mono HB2.out.size)
  have kb := K2.out.onto hb
  have rb := R2.out.onto hb
  have y3 : w3.cell? ⟨w.heap.size, 3, none⟩ = some (.slice s.r.a s.r.l.length s.r.c) := kb.cell 3 _ rfl
  have fz := kb.free 3
  have kv : Blk (w3.setCell ⟨w.heap.size, 3, none⟩ (.slice ra rl.length rc)) w.heap.size #[.string s.t, .slice ma s.m.l.length mc, .slice ua ul.length uc, .slice ra rl.length rc, .bool s.o, .slice s.g.a s.g.l.length s.g.c] 31 := kb.set 3 _
  have rv : Blk (w3.setCell ⟨w.heap.size, 3, none⟩ (.slice ra rl.length rc)) (w.heap.size + 1) #[.string ⟨#[]⟩, .slice none 0 0, .slice none 0 0, .slice none 0 0, .bool false, .slice none 0 0] 31 := rb.other _ (by show w.heap.size ≠ w.heap.size + 1; omega) _
  have bv : Below w.heap.size w (w3.setCell ⟨w.heap.size, 3, none⟩ (.slice ra rl.length rc)) := hbs.setCell (p := ⟨w.heap.size, 3, none⟩) (Nat.le_refl _) _
  have row : CopS (w3.setCell ⟨w.heap.size, 3, none⟩ (.slice ra rl.length rc)) v2.heap.size ⟨ra, rl, rc⟩ := hrc.setCell (p := ⟨w.heap.size, 3, none⟩) hlt _
  have rows : SPcs (w3.setCell ⟨w.heap.size, 3, none⟩ (.slice ra rl.length rc)) ⟨ra, rl, rc⟩ := hrs.setLow hrc (p := ⟨w.heap.size, 3, none⟩) hlt _
  have sz : (w3.setCell ⟨w.heap.size, 3, none⟩ (.slice ra rl.length rc)).heap.size = w3.heap.size := World.size_setCell _ _ _
  have om := own_set (own_onto OM.out hb) (p := ⟨w.heap.size, 3, none⟩) HL0.out (.slice ra rl.length rc)
  have ou := (OU.out.on hb).setCell (p := ⟨w.heap.size, 3, none⟩) HL1.out (.slice ra rl.length rc)
  have ous := (OUS.out.later hb).setLow (OU.out.on hb) (p := ⟨w.heap.size, 3, none⟩) HL1.out (.slice ra rl.length rc)
  obtain ⟨v3, hv⟩ : ∃ V, w3.setCell ⟨w.heap.size, 3, none⟩ (.slice ra rl.length rc) = V := ⟨_, rfl⟩
  rw [hv] at kv rv bv row sz rows om ou ous
  have HV3 := hid hv
  have HB3 := hid bv; have K3 := hid kv; have R3 := hid rv; have HL2 := hid hlt; have HZ3 := hid (show v2.heap.size ≤ v3.heap.size by rw [sz]; exact hb.size)
  have OR := hid row; have ORS := hid rows; have OM := hid om; have OU := hid ou; have OUS := hid ous; have HRL := hid hrl
  have HH2 := hid (CopS.hi row rows)
  have z5 : v3.cell? ⟨w.heap.size, 5, none⟩ = some (.slice s.g.a s.g.l.length s.g.c) := kv.cell 5 _ rfl
  clear hlt hbs kb rb kv rv bv row sz hb rows om ou ous hrl hrs hrc z3
  go_wp2_with fail
  refine (CG.out _ HB3.out).mono ?_; rintro e w4 ⟨ga, gc, rfl, hog, hb⟩
  have hlt : w.heap.size < v3.heap.size := K3.out.lt
  have hbs : Below w.heap.size w w4 := HB3.out.trans (hb.mono HB3.out.size)
  have kb := K3.out.onto hb
  have rb := R3.out.onto hb
  have y5 : w4.cell? ⟨w.heap.size, 5, none⟩ = some (.slice s.g.a s.g.l.length s.g.c) := kb.cell 5 _ rfl
  have fz := kb.free 5
  have kv : Blk (w4.setCell ⟨w.heap.size, 5, none⟩ (.slice ga s.g.l.length gc)) w.heap.size #[.string s.t, .slice ma s.m.l.length mc, .slice ua ul.length uc, .slice ra rl.length rc, .bool s.o, .slice ga s.g.l.length gc] 31 := kb.set 5 _
  have rv : Blk (w4.setCell ⟨w.heap.size, 5, none⟩ (.slice ga s.g.l.length gc)) (w.heap.size + 1) #[.string ⟨#[]⟩, .slice none 0 0, .slice none 0 0, .slice none 0 0, .bool false, .slice none 0 0] 31 := rb.other _ (by show w.heap.size ≠ w.heap.size + 1; omega) _
  have bv : Below w.heap.size w (w4.setCell ⟨w.heap.size, 5, none⟩ (.slice ga s.g.l.length gc)) := hbs.setCell (p := ⟨w.heap.size, 5, none⟩) (Nat.le_refl _) _
  have row : OwnE (w4.setCell ⟨w.heap.size, 5, none⟩ (.slice ga s.g.l.length gc)) v3.heap.size ⟨ga, s.g.l, gc⟩ := own_set hog (p := ⟨w.heap.size, 5, none⟩) hlt _
  have sz : (w4.setCell ⟨w.heap.size, 5, none⟩ (.slice ga s.g.l.length gc)).heap.size = w4.heap.size := World.size_setCell _ _ _
  have om := own_set (own_onto OM.out hb) (p := ⟨w.heap.size, 5, none⟩) HL0.out (.slice ga s.g.l.length gc)
  have ou := (OU.out.on hb).setCell (p := ⟨w.heap.size, 5, none⟩) HL1.out (.slice ga s.g.l.length gc)
  have ous := (OUS.out.later hb).setLow (OU.out.on hb) (p := ⟨w.heap.size, 5, none⟩) HL1.out (.slice ga s.g.l.length gc)
  have or := (OR.out.on hb).setCell (p := ⟨w.heap.size, 5, none⟩) HL2.out (.slice ga s.g.l.length gc)
  have ors := (ORS.out.later hb).setLow (OR.out.on hb) (p := ⟨w.heap.size, 5, none⟩) HL2.out (.slice ga s.g.l.length gc)
  obtain ⟨v4, hv⟩ : ∃ V, w4.setCell ⟨w.heap.size, 5, none⟩ (.slice ga s.g.l.length gc) = V := ⟨_, rfl⟩
  rw [hv] at kv rv bv row sz om ou ous or ors
  have HV4 := hid hv
  have HB4 := hid bv; have K4 := hid kv; have R4 := hid rv; have HL3 := hid hlt; have HZ4 := hid (show v3.heap.size ≤ v4.heap.size by rw [sz]; exact hb.size)
  have OG := hid row; have OM := hid om; have OU := hid ou; have OUS := hid ous; have OR := hid or; have ORS := hid ors
  have z0 : v4.cell? ⟨w.heap.size, 0, none⟩ = some (.string s.t) := kv.cell 0 _ rfl; have z1 : v4.cell? ⟨w.heap.size, 1, none⟩ = some (.slice ma s.m.l.length mc) := kv.cell 1 _ rfl; have z2 : v4.cell? ⟨w.heap.size, 2, none⟩ = some (.slice ua ul.length uc) := kv.cell 2 _ rfl; have z3 : v4.cell? ⟨w.heap.size, 3, none⟩ = some (.slice ra rl.length rc) := kv.cell 3 _ rfl; have z4 : v4.cell? ⟨w.heap.size, 4, none⟩ = some (.bool s.o) := kv.cell 4 _ rfl; have z5 : v4.cell? ⟨w.heap.size, 5, none⟩ = some (.slice ga s.g.l.length gc) := kv.cell 5 _ rfl
  have g0 := rv.free 0; have g1 := rv.free 1; have g2 := rv.free 2; have g3 := rv.free 3; have g4 := rv.free 4; have g5 := rv.free 5
  have u0 : v4.cell? ⟨w.heap.size + 1, 0, none⟩ = some (.string ⟨#[]⟩) := rv.cell 0 _ rfl; have u1 : v4.cell? ⟨w.heap.size + 1, 1, none⟩ = some (.slice none 0 0) := rv.cell 1 _ rfl; have u2 : v4.cell? ⟨w.heap.size + 1, 2, none⟩ = some (.slice none 0 0) := rv.cell 2 _ rfl; have u3 : v4.cell? ⟨w.heap.size + 1, 3, none⟩ = some (.slice none 0 0) := rv.cell 3 _ rfl; have u4 : v4.cell? ⟨w.heap.size + 1, 4, none⟩ = some (.bool false) := rv.cell 4 _ rfl; have u5 : v4.cell? ⟨w.heap.size + 1, 5, none⟩ = some (.slice none 0 0) := rv.cell 5 _ rfl
  clear hlt hbs kb rb kv rv bv row sz hb om ou ous or ors hog
  go_wp2_with fail
  clear g0 g1 g2 g3 g4 g5 u0 u1 u2 u3 u4 u5 z0 z1 z2 z3 z4 z5
  have lw : w.heap.size + 1 < wX.heap.size := R0.out.lt
  have lz1 := HZ1.out; have lz2 := HZ2.out; have lz3 := HZ3.out; have lz4 := HZ4.out
  have a0 := R4.out
  have m0 := OM.out; have c0 := OU.out; have s0 := OUS.out; have d0 := OR.out; have t0 := ORS.out; have e0 := OG.out; have b0 := HB4.out; have n0 : v4.heap.size = v4.heap.size := rfl
  have a1 : Blk (v4.setCell ⟨w.heap.size + 1, 0, none⟩ (.string s.t)) (w.heap.size + 1) #[.string s.t, .slice none 0 0, .slice none 0 0, .slice none 0 0, .bool false, .slice none 0 0] 31 := a0.set 0 _
  have m1 : OwnK (v4.setCell ⟨w.heap.size + 1, 0, none⟩ (.string s.t)) wX.heap.size ⟨ma, s.m.l, mc⟩ := own_set m0 (p := ⟨w.heap.size + 1, 0, none⟩) lw (.string s.t)
  have s1 := s0.setLow c0 (p := ⟨w.heap.size + 1, 0, none⟩) (by show w.heap.size + 1 < v1.heap.size; omega) (.string s.t)
  have c1 := c0.setCell (p := ⟨w.heap.size + 1, 0, none⟩) (by show w.heap.size + 1 < v1.heap.size; omega) (.string s.t)
  have t1 := t0.setLow d0 (p := ⟨w.heap.size + 1, 0, none⟩) (by show w.heap.size + 1 < v2.heap.size; omega) (.string s.t)
  have d1 := d0.setCell (p := ⟨w.heap.size + 1, 0, none⟩) (by show w.heap.size + 1 < v2.heap.size; omega) (.string s.t)
  have e1 : OwnE (v4.setCell ⟨w.heap.size + 1, 0, none⟩ (.string s.t)) v3.heap.size ⟨ga, s.g.l, gc⟩ := own_set e0 (p := ⟨w.heap.size + 1, 0, none⟩) (by show w.heap.size + 1 < v3.heap.size; omega) (.string s.t)
  have b1 := b0.setCell (p := ⟨w.heap.size + 1, 0, none⟩) (by show w.heap.size ≤ w.heap.size + 1; omega) (.string s.t)
  have n1 : (v4.setCell ⟨w.heap.size + 1, 0, none⟩ (.string s.t)).heap.size = v4.heap.size := (World.size_setCell _ _ _).trans n0
  have a2 : Blk ((v4.setCell ⟨w.heap.size + 1, 0, none⟩ (.string s.t)).setCell ⟨w.heap.size + 1, 1, none⟩ (.slice ma s.m.l.length mc)) (w.heap.size + 1) #[.string s.t, .slice ma s.m.l.length mc, .slice none 0 0, .slice none 0 0, .bool false, .slice none 0 0] 31 := a1.set 1 _
  have m2 : OwnK ((v4.setCell ⟨w.heap.size + 1, 0, none⟩ (.string s.t)).setCell ⟨w.heap.size + 1, 1, none⟩ (.slice ma s.m.l.length mc)) wX.heap.size ⟨ma, s.m.l, mc⟩ := own_set m1 (p := ⟨w.heap.size + 1, 1, none⟩) lw (.slice ma s.m.l.length mc)
  have s2 := s1.setLow c1 (p := ⟨w.heap.size + 1, 1, none⟩) (by show w.heap.size + 1 < v1.heap.size; omega) (.slice ma s.m.l.length mc)
  have c2 := c1.setCell (p := ⟨w.heap.size + 1, 1, none⟩) (by show w.heap.size + 1 < v1.heap.size; omega) (.slice ma s.m.l.length mc)
  have t2 := t1.setLow d1 (p := ⟨w.heap.size + 1, 1, none⟩) (by show w.heap.size + 1 < v2.heap.size; omega) (.slice ma s.m.l.length mc)
  have d2 := d1.setCell (p := ⟨w.heap.size + 1, 1, none⟩) (by show w.heap.size + 1 < v2.heap.size; omega) (.slice ma s.m.l.length mc)
  have e2 : OwnE ((v4.setCell ⟨w.heap.size + 1, 0, none⟩ (.string s.t)).setCell ⟨w.heap.size + 1, 1, none⟩ (.slice ma s.m.l.length mc)) v3.heap.size ⟨ga, s.g.l, gc⟩ := own_set e1 (p := ⟨w.heap.size + 1, 1, none⟩) (by show w.heap.size + 1 < v3.heap.size; omega) (.slice ma s.m.l.length mc)
  have b2 := b1.setCell (p := ⟨w.heap.size + 1, 1, none⟩) (by show w.heap.size ≤ w.heap.size + 1; omega) (.slice ma s.m.l.length mc)
  have n2 : ((v4.setCell ⟨w.heap.size + 1, 0, none⟩ (.string s.t)).setCell ⟨w.heap.size + 1, 1, none⟩ (.slice ma s.m.l.length mc)).heap.size = v4.heap.size := (World.size_setCell _ _ _).trans n1
  have a3 : Blk (((v4.setCell ⟨w.heap.size + 1, 0, none⟩ (.string s.t)).setCell ⟨w.heap.size + 1, 1, none⟩ (.slice ma s.m.l.length mc)).setCell ⟨w.heap.size + 1, 2, none⟩ (.slice ua ul.length uc)) (w.heap.size + 1) #[.string s.t, .slice ma s.m.l.length mc, .slice ua ul.length uc, .slice none 0 0, .bool false, .slice none 0 0] 31 := a2.set 2 _
  have m3 : OwnK (((v4.setCell ⟨w.heap.size + 1, 0, none⟩ (.string s.t)).setCell ⟨w.heap.size + 1, 1, none⟩ (.slice ma s.m.l.length mc)).setCell ⟨w.heap.size + 1, 2, none⟩ (.slice ua ul.length uc)) wX.heap.size ⟨ma, s.m.l, mc⟩ := own_set m2 (p := ⟨w.heap.size + 1, 2, none⟩) lw (.slice ua ul.length uc)
  have s3 := s2.setLow c2 (p := ⟨w.heap.size + 1, 2, none⟩) (by show w.heap.size + 1 < v1.heap.size; omega) (.slice ua ul.length uc)
  have c3 := c2.setCell (p := ⟨w.heap.size + 1, 2, none⟩) (by show w.heap.size + 1 < v1.heap.size; omega) (.slice ua ul.length uc)
  have t3 := t2.setLow d2 (p := ⟨w.heap.size + 1, 2, none⟩) (by show w.heap.size + 1 < v2.heap.size; omega) (.slice ua ul.length uc)
  have d3 := d2.setCell (p := ⟨w.heap.size + 1, 2, none⟩) (by show w.heap.size + 1 < v2.heap.size; omega) (.slice ua ul.length uc)
  have e3 : OwnE (((v4.setCell ⟨w.heap.size + 1, 0, none⟩ (.string s.t)).setCell ⟨w.heap.size + 1, 1, none⟩ (.slice ma s.m.l.length mc)).setCell ⟨w.heap.size + 1, 2, none⟩ (.slice ua ul.length uc)) v3.heap.size ⟨ga, s.g.l, gc⟩ := own_set e2 (p := ⟨w.heap.size + 1, 2, none⟩) (by show w.heap.size + 1 < v3.heap.size; omega) (.slice ua ul.length uc)
  have b3 := b2.setCell (p := ⟨w.heap.size + 1, 2, none⟩) (by show w.heap.size ≤ w.heap.size + 1; omega) (.slice ua ul.length uc)
  have n3 : (((v4.setCell ⟨w.heap.size + 1, 0, none⟩ (.string s.t)).setCell ⟨w.heap.size + 1, 1, none⟩ (.slice ma s.m.l.length mc)).setCell ⟨w.heap.size + 1, 2, none⟩ (.slice ua ul.length uc)).heap.size = v4.heap.size := (World.size_setCell _ _ _).trans n2
  have a4 : Blk ((((v4.setCell ⟨w.heap.size + 1, 0, none⟩ (.string s.t)).setCell ⟨w.heap.size + 1, 1, none⟩ (.slice ma s.m.l.length mc)).setCell ⟨w.heap.size + 1, 2, none⟩ (.slice ua ul.length uc)).setCell ⟨w.heap.size + 1, 3, none⟩ (.slice ra rl.length rc)) (w.heap.size + 1) #[.string s.t, .slice ma s.m.l.length mc, .slice ua ul.length uc, .slice ra rl.length rc, .bool false, .slice none 0 0] 31 := a3.set 3 _
  have m4 : OwnK ((((v4.setCell ⟨w.heap.size + 1, 0, none⟩ (.string s.t)).setCell ⟨w.heap.size + 1, 1, none⟩ (.slice ma s.m.l.length mc)).setCell ⟨w.heap.size + 1, 2, none⟩ (.slice ua ul.length uc)).setCell ⟨w.heap.size + 1, 3, none⟩ (.slice ra rl.length rc)) wX.heap.size ⟨ma, s.m.l, mc⟩ := own_set m3 (p := ⟨w.heap.size + 1, 3, none⟩) lw (.slice ra rl.length rc)
  have s4 := s3.setLow c3 (p := ⟨w.heap.size + 1, 3, none⟩) (by show w.heap.size + 1 < v1.heap.size; omega) (.slice ra rl.length rc)
  have c4 := c3.setCell (p := ⟨w.heap.size + 1, 3, none⟩) (by show w.heap.size + 1 < v1.heap.size; omega) (.slice ra rl.length rc)
  have t4 := t3.setLow d3 (p := ⟨w.heap.size + 1, 3, none⟩) (by show w.heap.size + 1 < v2.heap.size; omega) (.slice ra rl.length rc)
  have d4 := d3.setCell (p := ⟨w.heap.size + 1, 3, none⟩) (by show w.heap.size + 1 < v2.heap.size; omega) (.slice ra rl.length rc)
  have e4 : OwnE ((((v4.setCell ⟨w.heap.size + 1, 0, none⟩ (.string s.t)).setCell ⟨w.heap.size + 1, 1, none⟩ (.slice ma s.m.l.length mc)).setCell ⟨w.heap.size + 1, 2, none⟩ (.slice ua ul.length uc)).setCell ⟨w.heap.size + 1, 3, none⟩ (.slice ra rl.length rc)) v3.heap.size ⟨ga, s.g.l, gc⟩ := own_set e3 (p := ⟨w.heap.size + 1, 3, none⟩) (by show w.heap.size + 1 < v3.heap.size; omega) (.slice ra rl.length rc)
  have b4 := b3.setCell (p := ⟨w.heap.size + 1, 3, none⟩) (by show w.heap.size ≤ w.heap.size + 1; omega) (.slice ra rl.length rc)
  have n4 : ((((v4.setCell ⟨w.heap.size + 1, 0, none⟩ (.string s.t)).setCell ⟨w.heap.size + 1, 1, none⟩ (.slice ma s.m.l.length mc)).setCell ⟨w.heap.size + 1, 2, none⟩ (.slice ua ul.length uc)).setCell ⟨w.heap.size + 1, 3, none⟩ (.slice ra rl.length rc)).heap.size = v4.heap.size := (World.size_setCell _ _ _).trans n3
  have a5 : Blk (((((v4.setCell ⟨w.heap.size + 1, 0, none⟩ (.string s.t)).setCell ⟨w.heap.size + 1, 1, none⟩ (.slice ma s.m.l.length mc)).setCell ⟨w.heap.size + 1, 2, none⟩ (.slice ua ul.length uc)).setCell ⟨w.heap.size + 1, 3, none⟩ (.slice ra rl.length rc)).setCell ⟨w.heap.size + 1, 4, none⟩ (.bool s.o)) (w.heap.size + 1) #[.string s.t, .slice ma s.m.l.length mc, .slice ua ul.length uc, .slice ra rl.length rc, .bool s.o, .slice none 0 0] 31 := a4.set 4 _
  have m5 : OwnK (((((v4.setCell ⟨w.heap.size + 1, 0, none⟩ (.string s.t)).setCell ⟨w.heap.size + 1, 1, none⟩ (.slice ma s.m.l.length mc)).setCell ⟨w.heap.size + 1, 2, none⟩ (.slice ua ul.length uc)).setCell ⟨w.heap.size + 1, 3, none⟩ (.slice ra rl.length rc)).setCell ⟨w.heap.size + 1, 4, none⟩ (.bool s.o)) wX.heap.size ⟨ma, s.m.l, mc⟩ := own_set m4 (p := ⟨w.heap.size + 1, 4, none⟩) lw (.bool s.o)
  have s5 := s4.setLow c4 (p := ⟨w.heap.size + 1, 4, none⟩) (by show w.heap.size + 1 < v1.heap.size; omega) (.bool s.o)
  have c5 := c4.setCell (p := ⟨w.heap.size + 1, 4, none⟩) (by show w.heap.size + 1 < v1.heap.size; omega) (.bool s.o)
  have t5 := t4.setLow d4 (p := ⟨w.heap.size + 1, 4, none⟩) (by show w.heap.size + 1 < v2.heap.size; omega) (.bool s.o)
  have d5 := d4.setCell (p := ⟨w.heap.size + 1, 4, none⟩) (by show w.heap.size + 1 < v2.heap.size; omega) (.bool s.o)
  have e5 : OwnE (((((v4.setCell ⟨w.heap.size + 1, 0, none⟩ (.string s.t)).setCell ⟨w.heap.size + 1, 1, none⟩ (.slice ma s.m.l.length mc)).setCell ⟨w.heap.size + 1, 2, none⟩ (.slice ua ul.length uc)).setCell ⟨w.heap.size + 1, 3, none⟩ (.slice ra rl.length rc)).setCell ⟨w.heap.size + 1, 4, none⟩ (.bool s.o)) v3.heap.size ⟨ga, s.g.l, gc⟩ := own_set e4 (p := ⟨w.heap.size + 1, 4, none⟩) (by show w.heap.size + 1 < v3.heap.size; omega) (.bool s.o)
  have b5 := b4.setCell (p := ⟨w.heap.size + 1, 4, none⟩) (by show w.heap.size ≤ w.heap.size + 1; omega) (.bool s.o)
  have n5 : (((((v4.setCell ⟨w.heap.size + 1, 0, none⟩ (.string s.t)).setCell ⟨w.heap.size + 1, 1, none⟩ (.slice ma s.m.l.length mc)).setCell ⟨w.heap.size + 1, 2, none⟩ (.slice ua ul.length uc)).setCell ⟨w.heap.size + 1, 3, none⟩ (.slice ra rl.length rc)).setCell ⟨w.heap.size + 1, 4, none⟩ (.bool s.o)).heap.size = v4.heap.size := (World.size_setCell _ _ _).trans n4
  have a6 : Blk ((((((v4.setCell ⟨w.heap.size + 1, 0, none⟩ (.string s.t)).setCell ⟨w.heap.size + 1, 1, none⟩ (.slice ma s.m.l.length mc)).setCell ⟨w.heap.size + 1, 2, none⟩ (.slice ua ul.length uc)).setCell ⟨w.heap.size + 1, 3, none⟩ (.slice ra rl.length rc)).setCell ⟨w.heap.size + 1, 4, none⟩ (.bool s.o)).setCell ⟨w.heap.size + 1, 5, none⟩ (.slice ga s.g.l.length gc)) (w.heap.size + 1) #[.string s.t, .slice ma s.m.l.length mc, .slice ua ul.length uc, .slice ra rl.length rc, .bool s.o, .slice ga s.g.l.length gc] 31 := a5.set 5 _
  have m6 : OwnK ((((((v4.setCell ⟨w.heap.size + 1, 0, none⟩ (.string s.t)).setCell ⟨w.heap.size + 1, 1, none⟩ (.slice ma s.m.l.length mc)).setCell ⟨w.heap.size + 1, 2, none⟩ (.slice ua ul.length uc)).setCell ⟨w.heap.size + 1, 3, none⟩ (.slice ra rl.length rc)).setCell ⟨w.heap.size + 1, 4, none⟩ (.bool s.o)).setCell ⟨w.heap.size + 1, 5, none⟩ (.slice ga s.g.l.length gc)) wX.heap.size ⟨ma, s.m.l, mc⟩ := own_set m5 (p := ⟨w.heap.size + 1, 5, none⟩) lw (.slice ga s.g.l.length gc)
  have s6 := s5.setLow c5 (p := ⟨w.heap.size + 1, 5, none⟩) (by show w.heap.size + 1 < v1.heap.size; omega) (.slice ga s.g.l.length gc)
  have c6 := c5.setCell (p := ⟨w.heap.size + 1, 5, none⟩) (by show w.heap.size + 1 < v1.heap.size; omega) (.slice ga s.g.l.length gc)
  have t6 := t5.setLow d5 (p := ⟨w.heap.size + 1, 5, none⟩) (by show w.heap.size + 1 < v2.heap.size; omega) (.slice ga s.g.l.length gc)
  have d6 := d5.setCell (p := ⟨w.heap.size + 1, 5, none⟩) (by show w.heap.size + 1 < v2.heap.size; omega) (.slice ga s.g.l.length gc)
  have e6 : OwnE ((((((v4.setCell ⟨w.heap.size + 1, 0, none⟩ (.string s.t)).setCell ⟨w.heap.size + 1, 1, none⟩ (.slice ma s.m.l.length mc)).setCell ⟨w.heap.size + 1, 2, none⟩ (.slice ua ul.length uc)).setCell ⟨w.heap.size + 1, 3, none⟩ (.slice ra rl.length rc)).setCell ⟨w.heap.size + 1, 4, none⟩ (.bool s.o)).setCell ⟨w.heap.size + 1, 5, none⟩ (.slice ga s.g.l.length gc)) v3.heap.size ⟨ga, s.g.l, gc⟩ := own_set e5 (p := ⟨w.heap.size + 1, 5, none⟩) (by show w.heap.size + 1 < v3.heap.size; omega) (.slice ga s.g.l.length gc)
  have b6 := b5.setCell (p := ⟨w.heap.size + 1, 5, none⟩) (by show w.heap.size ≤ w.heap.size + 1; omega) (.slice ga s.g.l.length gc)
  have n6 : ((((((v4.setCell ⟨w.heap.size + 1, 0, none⟩ (.string s.t)).setCell ⟨w.heap.size + 1, 1, none⟩ (.slice ma s.m.l.length mc)).setCell ⟨w.heap.size + 1, 2, none⟩ (.slice ua ul.length uc)).setCell ⟨w.heap.size + 1, 3, none⟩ (.slice ra rl.length rc)).setCell ⟨w.heap.size + 1, 4, none⟩ (.bool s.o)).setCell ⟨w.heap.size + 1, 5, none⟩ (.slice ga s.g.l.length gc)).heap.size = v4.heap.size := (World.size_setCell _ _ _).trans n5
  refine bodyPost_ret (results_cell_row (P := Tryz.prog) (fn := Tryz.f37) (p := 2) (ty := 31) rfl _ _ (w.heap.size + 1) 31 _ (0, 0) _ rfl a6 Tryz.underlying31 rfl (by kernel_rfl)) rfl ?_
  refine ⟨⟨s.t, ⟨ma, s.m.l, mc⟩, ⟨ua, ul, uc⟩, ⟨ra, rl, rc⟩, s.o, ⟨ga, s.g.l, gc⟩⟩, v1.heap.size, v2.heap.size, v3.heap.size, rfl, ?_⟩
  exact ⟨by unfold Sta.d; simp only [HUL.out, HRL.out], by have := HB0.out.size; omega, by omega, by omega, by rw [n6]; omega, own_mono m6 HB0.out.size, HH0.out, c6, HH1.out.1, HH1.out.2, s6, d6, HH2.out.1, HH2.out.2, t6, e6, b6⟩
end Go.Proofs.YtfiobemeogaaiaaGreat
namespace Go.Proofs.YtfiobemeogaaiaaGreat
open Go.RowKit
set_option linter.unusedVariables false
set_option linter.unusedSimpArgs false
def depN (l : List EPc) : Nat := (l.map fun x => x.l.length).sum
def Sta.few (s : Sta) : Bool := decide (s.t.size ≤ 5000 ∧ s.m.l.length ≤ 20 ∧ s.u.l.length ≤ 20 ∧ s.r.l.length ≤ 20 ∧ s.g.l.length ≤ 40 ∧ depN s.u.l + depN s.r.l ≤ 200)
end Go.Proofs.YtfiobemeogaaiaaGreat
namespace Go.Proofs.YtfiobemeogaaiaaGreat
open Go.RowKit
set_option linter.unusedVariables false
end Go.Proofs.YtfiobemeogaaiaaGreat
