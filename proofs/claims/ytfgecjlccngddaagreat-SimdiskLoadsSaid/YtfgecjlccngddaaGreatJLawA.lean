/-
  Joined: DiskDev, LawDisk1, LawDisk2.
-/
import Derived.Test.YtfgecjlccngddaaGreatJDiskRefC
import Derived.Test.YtfgecjlccngddaaGreatJDiskRefD
import Derived.Test.YtfgecjlccngddaaGreatJDiskRefE
import Derived.Test.YtfgecjlccngddaaGreatJBase
import Derived.Test.YtfgecjlccngddaaGreatJDkDevBB
import Derived.Test.YtfgecjlccngddaaGreatJDkDevC
import Derived.Test.YtfgecjlccngddaaGreatJDkDevE
import Derived.Test.YtfgecjlccngddaaGreatJDkDevF
import Derived.Test.YtfgecjlccngddaaGreatJDkDevG
import Derived.Test.YtfgecjlccngddaaGreatJDkDevH
import Derived.Test.YtfgecjlccngddaaGreatJDkDevI
import Derived.Deep.RegionHeld3
import Derived.Deep.RegionWith
namespace Go.Proofs.YtfgecjlccngddaaGreat
set_option linter.unusedSimpArgs false
set_option linter.unusedVariables false
end Go.Proofs.YtfgecjlccngddaaGreat
namespace Go.Proofs.YtfgecjlccngddaaGreat
set_option linter.unusedSimpArgs false
set_option linter.unusedVariables false
open Go.RowKit
set_option linter.unusedVariables false

def fewD (s : ByteArray) : ByteArray := if 200 < s.size then s.extract 0 200 else s
theorem fewD_size (s : ByteArray) : (fewD s).size ≤ 200 := by
  unfold fewD; split
  · rw [ByteArray.size_extract]; omega
  · omega
set_option maxRecDepth 100000 in
set_option maxHeartbeats 400000 in
theorem few11_any (s : ByteArray) (w : World) : Calls Tryz.prog 18 #[.string s] w fun e w' => e = .returned (.string (fewD s)) ∧ w = w' := by
  unfold fewD
  by_cases h : 200 < s.size
  · rw [if_pos h]
    go_enter Tryz.func18, Tryz.ntmps18
    go_wp2
    go_ret
    exact ⟨rfl, rfl⟩
  · rw [if_neg h]
    have h' : s.size ≤ 200 := by omega
    clear h
    go_enter Tryz.func18, Tryz.ntmps18
    go_wp2
    go_ret
    exact ⟨rfl, rfl⟩
set_option maxRecDepth 100000 in
set_option maxHeartbeats 800000 in
theorem files11_same (a a2 : Option Addr) (l : List Fil) (c c2 : Nat) (P P2 : Nat → Prop) (w : World) (h1 : Fils w P a l) (h2 : Fils w P2 a2 l) (hl : l.length ≤ 1000000) :
    Calls Tryz.prog 60 #[.slice a l.length c, .slice a2 l.length c2] w fun e w' => e = .returned (.bool true) ∧ Below w.heap.size w w' := by
  obtain ⟨n, hn⟩ : ∃ n, l.length = n := ⟨_, rfl⟩
  rw [hn] at hl ⊢
  have HN := Lib.hid hn; have H1 := Lib.hid h1; have H2 := Lib.hid h2
  clear hn h1 h2
  go_enter Tryz.func60, Tryz.ntmps60
  go_wp2
  go_loopw [5] (fun i wr => ∃ k d : Nat, k ≤ n ∧ i = .int .i64 k ∧ wr = w.drewN d) (fun i _ => n - (intOf i).toNat)
  case atStart => exact ⟨0, 0, Nat.zero_le _, rfl, rfl⟩
  case round =>
    obtain ⟨k, d, hk, rfl, rfl⟩ := hrel
    by_cases hlt : k < n
    · have hkl : k < l.length := by rw [HN.out]; exact hlt
      obtain ⟨ad, rfl, hab, q0, q1⟩ := H1.out k hkl
      obtain ⟨ae, rfl, hae, r0, r1⟩ := H2.out k hkl
      obtain ⟨x, hx⟩ : ∃ x, l[k]'hkl = x := ⟨_, rfl⟩
      rw [hx] at q0 q1 r0 r1
      obtain ⟨nm, da⟩ := x
      simp only at q0 q1 r0 r1
      clear hx hab hae
      have b0 : (0 : Int) ≤ (k : Int) := by omega
      have b1 : (k : Int) < (n : Int) := by omega
      go_wp2
      go_quiet (fail)
      go_wp2
      go_roundw
      case rel => exact ⟨k + 1, _, by omega, by go_num, rfl⟩
      case measure => simp [intOf]; omega
    · obtain rfl : k = n := by omega
      go_wp2
      go_ret
      exact ⟨rfl, drewN_below (Below.refl _ _) _⟩

/-- The box of the document's disk stands. -/
def Bx11 (w : World) (sec : Int) (a : Option Addr) (nt c : Nat) (aL : Option Addr) (nL cL : Nat) (p s0 d0 : Int) (off : Bool) (calls : Int) (w' : World) : Prop :=
  Below w.heap.size w w' ∧ w'.cell? ⟨w.heap.size, 0, none⟩ = some (.int .i64 sec) ∧ w'.cell? ⟨w.heap.size, 1, none⟩ = some (.slice a nt c) ∧ w'.cell? ⟨w.heap.size, 2, none⟩ = some (.slice aL nL cL) ∧ w'.cell? ⟨w.heap.size, 3, none⟩ = some (.int .i64 p) ∧ w'.cell? ⟨w.heap.size, 4, none⟩ = some (.int .i64 s0) ∧ w'.cell? ⟨w.heap.size, 5, none⟩ = some (.int .i64 d0) ∧ w'.cell? ⟨w.heap.size, 6, none⟩ = some (.bool off) ∧ w'.cell? ⟨w.heap.size, 7, none⟩ = some (.int .i64 calls)
theorem bx11_of {w w' : World} {sec : Int} {a : Option Addr} {nt c : Nat} {aL : Option Addr} {nL cL : Nat} {p s0 d0 : Int} {off : Bool} {calls : Int} (hb : Below w.heap.size w w') (h : Blk w' w.heap.size (dskC sec a nt c aL nL cL ⟨p, s0, d0, off⟩ calls) 34) : Bx11 w sec a nt c aL nL cL p s0 d0 off calls w' :=
  ⟨hb, h.cell 0 _ rfl, h.cell 1 _ rfl, h.cell 2 _ rfl, h.cell 3 _ rfl, h.cell 4 _ rfl, h.cell 5 _ rfl, h.cell 6 _ rfl, h.cell 7 _ rfl⟩
theorem bx11_on {w w' w1 : World} {sec : Int} {a : Option Addr} {nt c : Nat} {aL : Option Addr} {nL cL : Nat} {p s0 d0 : Int} {off : Bool} {calls : Int} (h : Bx11 w sec a nt c aL nL cL p s0 d0 off calls w') (hlt : w.heap.size < w'.heap.size) (hb : Below w'.heap.size w' w1) : Bx11 w sec a nt c aL nL cL p s0 d0 off calls w1 := by
  obtain ⟨h0, h1, h2, h3, h4, h5, h6, h7, h8⟩ := h
  have e : ∀ i, w1.cell? ⟨w.heap.size, i, none⟩ = w'.cell? ⟨w.heap.size, i, none⟩ := fun i => hb.cell (p := ⟨w.heap.size, i, none⟩) hlt
  exact ⟨h0.trans (hb.mono h0.size), (e 0).trans h1, (e 1).trans h2, (e 2).trans h3, (e 3).trans h4, (e 4).trans h5, (e 5).trans h6, (e 6).trans h7, (e 7).trans h8⟩
theorem bx11_lt {w w' : World} {sec : Int} {a : Option Addr} {nt c : Nat} {aL : Option Addr} {nL cL : Nat} {p s0 d0 : Int} {off : Bool} {calls : Int} (h : Bx11 w sec a nt c aL nL cL p s0 d0 off calls w') : w.heap.size < w'.heap.size := cell_lt h.2.1
set_option maxRecDepth 100000 in
set_option maxHeartbeats 3200000 in
theorem stands11_off {w : World} {S : List Nat} {f : Addr} {sec : Int} {tp : List Tp} {LL : List (List Ent)} {p s0 d0 calls : Int} {M : Nat} (h : IsDk w S f ⟨sec, tp, LL, ⟨p, s0, d0, true⟩, calls⟩) (hD : Dsk.ok M ⟨sec, tp, LL, ⟨p, s0, d0, true⟩, calls⟩) (hM : M ≤ 199) (a : Option Addr) (c : Nat) (aL : Option Addr) (cL : Nat) (P : Nat → Prop) (hP : ∀ b, P b → b < w.heap.size) (hT : Tps w P a tp) (hL : LLs w P aL LL) :
    Calls Tryz.prog 14 #[.pointer (some f), dskV sec a tp.length c aL LL.length cL ⟨p, s0, d0, true⟩ calls] w fun e w' => e = .returned (.bool true) ∧ Below w.heap.size w w' := by
  have hD9 := Dsk.ok_more hD hM
  have c1 := fun (W : World) (S : List Nat) (h : IsDk W S f ⟨sec, tp, LL, ⟨p, s0, d0, true⟩, calls⟩) => dklist_any h hD9
  have c2 := fun (W : World) (hP : ∀ b, P b → b < W.heap.size) (h : LLs W P aL LL) => rdnames_any hD hM a tp.length c aL cL P W hP h
  have c3 := fun (W : World) (S : List Nat) (h : IsDk W S f ⟨sec, tp, LL, ⟨p, s0, d0, true⟩, calls⟩) => dkfiles_any h hD9
  have c4 := fun (W : World) (hP : ∀ b, P b → b < W.heap.size) (g : Tps W P a tp) (h : LLs W P aL LL) => rdfiles_any hD hM a c aL cL P W hP g h
  have c5 := fun (W : World) (S : List Nat) (h : IsDk W S f ⟨sec, tp, LL, ⟨p, s0, d0, true⟩, calls⟩) => dkfree_any h hD9
  have c6 := fun (W : World) (hP : ∀ b, P b → b < W.heap.size) (g : Tps W P a tp) (h : LLs W P aL LL) => rdfree_any hD (by omega) a c aL cL P W hP g h
  have c7 := fun (W : World) (S : List Nat) (h : IsDk W S f ⟨sec, tp, LL, ⟨p, s0, d0, true⟩, calls⟩) => dkup_any h hD9
  have c8 := fun (W : World) (S : List Nat) (h : IsDk W S f ⟨sec, tp, LL, ⟨p, s0, d0, true⟩, calls⟩) => dkcalls_any h hD9
  have hfl : (Dsk.fils ⟨sec, tp, LL, ⟨p, s0, d0, true⟩, calls⟩).length ≤ 1000000 := by
    have := hD.2.2.1.2.2 _ (nowL_mem hD.2.2.1.1)
    unfold Dsk.fils
    rw [List.length_map]
    simp only at this ⊢
    omega
  obtain ⟨fl, hfe⟩ : ∃ x, Dsk.fils ⟨sec, tp, LL, ⟨p, s0, d0, true⟩, calls⟩ = x := ⟨_, rfl⟩
  obtain ⟨fr, hfre⟩ : ∃ x, Dsk.free ⟨sec, tp, LL, ⟨p, s0, d0, true⟩, calls⟩ = x := ⟨_, rfl⟩
  obtain ⟨nm, hnm⟩ : ∃ x, Dsk.names ⟨sec, tp, LL, ⟨p, s0, d0, true⟩, calls⟩ = x := ⟨_, rfl⟩
  obtain ⟨nt, hnt⟩ : ∃ x, tp.length = x := ⟨_, rfl⟩
  obtain ⟨nL, hnL⟩ : ∃ x, LL.length = x := ⟨_, rfl⟩
  simp only [hfe, hfre, hnm] at c1 c2 c3 c4 c5 c6
  rw [hfe] at hfl
  simp only [hnt, hnL] at c2 c4 c6 ⊢
  have hb0 : Below w.heap.size w (w.alloc (.cells (dskC sec a nt c aL nL cL ⟨p, s0, d0, true⟩ calls) 34)) := (Below.refl _ _).alloc (Nat.le_refl _) _
  have hx0 := bx11_of hb0 (Blk.new w (dskC sec a nt c aL nL cL ⟨p, s0, d0, true⟩ calls) 34)
  have C1 := Lib.hid c1; have C2 := Lib.hid c2; have C3 := Lib.hid c3; have C4 := Lib.hid c4; have C5 := Lib.hid c5; have C6 := Lib.hid c6; have C7 := Lib.hid c7; have C8 := Lib.hid c8
  have H := Lib.hid h; have T := Lib.hid hT; have L := Lib.hid hL; have HP := Lib.hid hP; have HFL := Lib.hid hfl; have X0 := Lib.hid hx0
  clear c1 c2 c3 c4 c5 c6 c7 c8 h hT hL hP hfl hfe hfre hnm hnt hnL hD hD9 hM hb0 hx0
  go_enter Tryz.func14, Tryz.ntmps14
  go_wp2_with fail
  refine (C1.out _ _ (H.out.below X0.out.1)).mono ?_
  rintro e w1 ⟨⟨al, n, cl, kk, rfl, hk1, hk2⟩, hb1⟩
  have hx1 := bx11_on X0.out (bx11_lt X0.out) hb1
  have X1 := Lib.hid hx1
  obtain ⟨_, e0, e1, e2, e3, e4, e5, e6, e7⟩ := hx1
  clear hb1
  obtain rfl : kk = 14 := hk1 (by trivial)
  clear hk1 hk2
  go_wp2_with fail
  go_region_held3 (fun w' => Below w.heap.size w w' ∧ w'.cell? ⟨w.heap.size, 0, none⟩ = some (.int .i64 sec) ∧ w'.cell? ⟨w.heap.size, 1, none⟩ = some (.slice a nt c) ∧ w'.cell? ⟨w.heap.size, 2, none⟩ = some (.slice aL nL cL) ∧ w'.cell? ⟨w.heap.size, 3, none⟩ = some (.int .i64 p) ∧ w'.cell? ⟨w.heap.size, 4, none⟩ = some (.int .i64 s0) ∧ w'.cell? ⟨w.heap.size, 5, none⟩ = some (.int .i64 d0) ∧ w'.cell? ⟨w.heap.size, 6, none⟩ = some (.bool true) ∧ w'.cell? ⟨w.heap.size, 7, none⟩ = some (.int .i64 calls))
    (first | exact ⟨X1.out.1.drew, X1.out.2⟩ | exact bx11_on (by assumption) (bx11_lt (by assumption)) hb1)
    (first
      | (go_at_call 27; refine (C3.out _ _ (H.out.below (show Bx11 w sec a nt c aL nL cL p s0 d0 true calls _ by assumption).1)).mono ?_; rintro e w3 ⟨ai, ci, rfl, he, hb1⟩; have E1 := Lib.hid he; clear he)
      | (go_at_call 61; refine (C4.out _ (fun b hb => Nat.lt_of_lt_of_le (HP.out b hb) (show Bx11 w sec a nt c aL nL cL p s0 d0 true calls _ by assumption).1.size) (T.out.below HP.out (show Bx11 w sec a nt c aL nL cL p s0 d0 true calls _ by assumption).1) (L.out.below HP.out (show Bx11 w sec a nt c aL nL cL p s0 d0 true calls _ by assumption).1)).mono ?_; rintro e w4 ⟨ai2, ci2, rfl, he, hb1⟩; have E2 := Lib.hid he; have E1b := Lib.hid (E1.out.below (fun b hb => hb.2) hb1); clear he)
      | (go_at_call 60; refine (files11_same _ _ _ _ _ _ _ _ E1b.out E2.out HFL.out).mono ?_; rintro e w5 ⟨rfl, hb1⟩)
      | (go_at_call 28; refine (C5.out _ _ (H.out.below (show Bx11 w sec a nt c aL nL cL p s0 d0 true calls _ by assumption).1)).mono ?_; rintro e w6 ⟨rfl, hb1⟩)
      | (go_at_call 62; refine (C6.out _ (fun b hb => Nat.lt_of_lt_of_le (HP.out b hb) (show Bx11 w sec a nt c aL nL cL p s0 d0 true calls _ by assumption).1.size) (T.out.below HP.out (show Bx11 w sec a nt c aL nL cL p s0 d0 true calls _ by assumption).1) (L.out.below HP.out (show Bx11 w sec a nt c aL nL cL p s0 d0 true calls _ by assumption).1)).mono ?_; rintro e w7 ⟨rfl, hb1⟩)
      | (go_at_call 30; refine (C7.out _ _ (H.out.below (show Bx11 w sec a nt c aL nL cL p s0 d0 true calls _ by assumption).1)).mono ?_; rintro e w8 ⟨rfl, hb1⟩)
      | (go_at_call 29; refine (C8.out _ _ (H.out.below (show Bx11 w sec a nt c aL nL cL p s0 d0 true calls _ by assumption).1)).mono ?_; rintro e w9 ⟨rfl, hb1⟩))
  go_wp2
  go_ret
  exact ⟨by simp, (show Bx11 w sec a nt c aL nL cL p s0 d0 true calls _ by assumption).1⟩
set_option maxRecDepth 100000 in
set_option maxHeartbeats 3200000 in
theorem stands11_on {w : World} {S : List Nat} {f : Addr} {sec : Int} {tp : List Tp} {LL : List (List Ent)} {p s0 d0 calls : Int} {M : Nat} (h : IsDk w S f ⟨sec, tp, LL, ⟨p, s0, d0, false⟩, calls⟩) (hD : Dsk.ok M ⟨sec, tp, LL, ⟨p, s0, d0, false⟩, calls⟩) (hM : M ≤ 199) (a : Option Addr) (c : Nat) (aL : Option Addr) (cL : Nat) (P : Nat → Prop) (hP : ∀ b, P b → b < w.heap.size) (hT : Tps w P a tp) (hL : LLs w P aL LL) :
    Calls Tryz.prog 14 #[.pointer (some f), dskV sec a tp.length c aL LL.length cL ⟨p, s0, d0, false⟩ calls] w fun e w' => e = .returned (.bool true) ∧ Below w.heap.size w w' := by
  have hD9 := Dsk.ok_more hD hM
  have c1 := fun (W : World) (S : List Nat) (h : IsDk W S f ⟨sec, tp, LL, ⟨p, s0, d0, false⟩, calls⟩) => dklist_any h hD9
  have c2 := fun (W : World) (hP : ∀ b, P b → b < W.heap.size) (h : LLs W P aL LL) => rdnames_any hD hM a tp.length c aL cL P W hP h
  have c3 := fun (W : World) (S : List Nat) (h : IsDk W S f ⟨sec, tp, LL, ⟨p, s0, d0, false⟩, calls⟩) => dkfiles_any h hD9
  have c4 := fun (W : World) (hP : ∀ b, P b → b < W.heap.size) (g : Tps W P a tp) (h : LLs W P aL LL) => rdfiles_any hD hM a c aL cL P W hP g h
  have c5 := fun (W : World) (S : List Nat) (h : IsDk W S f ⟨sec, tp, LL, ⟨p, s0, d0, false⟩, calls⟩) => dkfree_any h hD9
  have c6 := fun (W : World) (hP : ∀ b, P b → b < W.heap.size) (g : Tps W P a tp) (h : LLs W P aL LL) => rdfree_any hD (by omega) a c aL cL P W hP g h
  have c7 := fun (W : World) (S : List Nat) (h : IsDk W S f ⟨sec, tp, LL, ⟨p, s0, d0, false⟩, calls⟩) => dkup_any h hD9
  have c8 := fun (W : World) (S : List Nat) (h : IsDk W S f ⟨sec, tp, LL, ⟨p, s0, d0, false⟩, calls⟩) => dkcalls_any h hD9
  have hfl : (Dsk.fils ⟨sec, tp, LL, ⟨p, s0, d0, false⟩, calls⟩).length ≤ 1000000 := by
    have := hD.2.2.1.2.2 _ (nowL_mem hD.2.2.1.1)
    unfold Dsk.fils
    rw [List.length_map]
    simp only at this ⊢
    omega
  obtain ⟨fl, hfe⟩ : ∃ x, Dsk.fils ⟨sec, tp, LL, ⟨p, s0, d0, false⟩, calls⟩ = x := ⟨_, rfl⟩
  obtain ⟨fr, hfre⟩ : ∃ x, Dsk.free ⟨sec, tp, LL, ⟨p, s0, d0, false⟩, calls⟩ = x := ⟨_, rfl⟩
  obtain ⟨nm, hnm⟩ : ∃ x, Dsk.names ⟨sec, tp, LL, ⟨p, s0, d0, false⟩, calls⟩ = x := ⟨_, rfl⟩
  obtain ⟨nt, hnt⟩ : ∃ x, tp.length = x := ⟨_, rfl⟩
  obtain ⟨nL, hnL⟩ : ∃ x, LL.length = x := ⟨_, rfl⟩
  simp only [hfe, hfre, hnm] at c1 c2 c3 c4 c5 c6
  rw [hfe] at hfl
  simp only [hnt, hnL] at c2 c4 c6 ⊢
  have hb0 : Below w.heap.size w (w.alloc (.cells (dskC sec a nt c aL nL cL ⟨p, s0, d0, false⟩ calls) 34)) := (Below.refl _ _).alloc (Nat.le_refl _) _
  have hx0 := bx11_of hb0 (Blk.new w (dskC sec a nt c aL nL cL ⟨p, s0, d0, false⟩ calls) 34)
  have C1 := Lib.hid c1; have C2 := Lib.hid c2; have C3 := Lib.hid c3; have C4 := Lib.hid c4; have C5 := Lib.hid c5; have C6 := Lib.hid c6; have C7 := Lib.hid c7; have C8 := Lib.hid c8
  have H := Lib.hid h; have T := Lib.hid hT; have L := Lib.hid hL; have HP := Lib.hid hP; have HFL := Lib.hid hfl; have X0 := Lib.hid hx0
  clear c1 c2 c3 c4 c5 c6 c7 c8 h hT hL hP hfl hfe hfre hnm hnt hnL hD hD9 hM hb0 hx0
  go_enter Tryz.func14, Tryz.ntmps14
  go_wp2_with fail
  refine (C1.out _ _ (H.out.below X0.out.1)).mono ?_
  rintro e w1 ⟨⟨al, n, cl, kk, rfl, hk1, hk2⟩, hb1⟩
  have hx1 := bx11_on X0.out (bx11_lt X0.out) hb1
  have X1 := Lib.hid hx1
  obtain ⟨_, e0, e1, e2, e3, e4, e5, e6, e7⟩ := hx1
  clear hb1
  obtain ⟨rfl, rfl⟩ : kk = 0 ∧ n = nm.length := hk2 (by trivial)
  clear hk1 hk2
  go_wp2_with fail
  refine (C2.out _ (fun b hb => Nat.lt_of_lt_of_le (HP.out b hb) X1.out.1.size) (L.out.below HP.out X1.out.1)).mono ?_
  rintro e w2 ⟨an, cn, rfl, _, hb2⟩
  have hx2 := bx11_on X1.out (bx11_lt X1.out) hb2
  have X2 := Lib.hid hx2
  clear hb2 e0 e1 e2 e3 e4 e5 e6 e7
  obtain ⟨_, e0, e1, e2, e3, e4, e5, e6, e7⟩ := hx2
  go_wp2_with fail
  go_region_held3 (fun w' => Below w.heap.size w w' ∧ w'.cell? ⟨w.heap.size, 0, none⟩ = some (.int .i64 sec) ∧ w'.cell? ⟨w.heap.size, 1, none⟩ = some (.slice a nt c) ∧ w'.cell? ⟨w.heap.size, 2, none⟩ = some (.slice aL nL cL) ∧ w'.cell? ⟨w.heap.size, 3, none⟩ = some (.int .i64 p) ∧ w'.cell? ⟨w.heap.size, 4, none⟩ = some (.int .i64 s0) ∧ w'.cell? ⟨w.heap.size, 5, none⟩ = some (.int .i64 d0) ∧ w'.cell? ⟨w.heap.size, 6, none⟩ = some (.bool false) ∧ w'.cell? ⟨w.heap.size, 7, none⟩ = some (.int .i64 calls))
    (first | exact ⟨X2.out.1.drew, X2.out.2⟩ | exact bx11_on (by assumption) (bx11_lt (by assumption)) hb1)
    (first
      | (go_at_call 27; refine (C3.out _ _ (H.out.below (show Bx11 w sec a nt c aL nL cL p s0 d0 false calls _ by assumption).1)).mono ?_; rintro e w3 ⟨ai, ci, rfl, he, hb1⟩; have E1 := Lib.hid he; clear he)
      | (go_at_call 61; refine (C4.out _ (fun b hb => Nat.lt_of_lt_of_le (HP.out b hb) (show Bx11 w sec a nt c aL nL cL p s0 d0 false calls _ by assumption).1.size) (T.out.below HP.out (show Bx11 w sec a nt c aL nL cL p s0 d0 false calls _ by assumption).1) (L.out.below HP.out (show Bx11 w sec a nt c aL nL cL p s0 d0 false calls _ by assumption).1)).mono ?_; rintro e w4 ⟨ai2, ci2, rfl, he, hb1⟩; have E2 := Lib.hid he; have E1b := Lib.hid (E1.out.below (fun b hb => hb.2) hb1); clear he)
      | (go_at_call 60; refine (files11_same _ _ _ _ _ _ _ _ E1b.out E2.out HFL.out).mono ?_; rintro e w5 ⟨rfl, hb1⟩)
      | (go_at_call 28; refine (C5.out _ _ (H.out.below (show Bx11 w sec a nt c aL nL cL p s0 d0 false calls _ by assumption).1)).mono ?_; rintro e w6 ⟨rfl, hb1⟩)
      | (go_at_call 62; refine (C6.out _ (fun b hb => Nat.lt_of_lt_of_le (HP.out b hb) (show Bx11 w sec a nt c aL nL cL p s0 d0 false calls _ by assumption).1.size) (T.out.below HP.out (show Bx11 w sec a nt c aL nL cL p s0 d0 false calls _ by assumption).1) (L.out.below HP.out (show Bx11 w sec a nt c aL nL cL p s0 d0 false calls _ by assumption).1)).mono ?_; rintro e w7 ⟨rfl, hb1⟩)
      | (go_at_call 30; refine (C7.out _ _ (H.out.below (show Bx11 w sec a nt c aL nL cL p s0 d0 false calls _ by assumption).1)).mono ?_; rintro e w8 ⟨rfl, hb1⟩)
      | (go_at_call 29; refine (C8.out _ _ (H.out.below (show Bx11 w sec a nt c aL nL cL p s0 d0 false calls _ by assumption).1)).mono ?_; rintro e w9 ⟨rfl, hb1⟩))
  go_wp2
  go_ret
  exact ⟨by simp, (show Bx11 w sec a nt c aL nL cL p s0 d0 false calls _ by assumption).1⟩
theorem stands11_any {w : World} {S : List Nat} {f : Addr} {D : Dsk} {M : Nat} (h : IsDk w S f D) (hD : D.ok M) (hM : M ≤ 199) {q : Value} {P : Nat → Prop} (hP : ∀ b, P b → b < w.heap.size) (hq : IsD w P q D) :
    Calls Tryz.prog 14 #[.pointer (some f), q] w fun e w' => e = .returned (.bool true) ∧ Below w.heap.size w w' := by
  obtain ⟨a, c, aL, cL, rfl, h1, h2, _⟩ := hq
  obtain ⟨sec, tp, LL, ⟨p, s0, d0, off⟩, calls⟩ := D
  cases off
  · exact stands11_on h hD hM a c aL cL P hP h1 h2
  · exact stands11_off h hD hM a c aL cL P hP h1 h2
end Go.Proofs.YtfgecjlccngddaaGreat
namespace Go.Proofs.YtfgecjlccngddaaGreat
set_option linter.unusedSimpArgs false
set_option linter.unusedVariables false
open Go.RowKit
set_option linter.unusedVariables false

/-- A step: the disk and the document's are these then, and lie apart. -/
def StepK (w : World) (S : List Nat) (f : Addr) (P : Nat → Prop) (D' : Dsk) (e : Ending) (w' : World) : Prop :=
  ∃ q S', e = .returned (.tuple #[q, .bool true]) ∧ IsDk w' S' f D' ∧ Apart S w w' ∧ (∀ b ∈ S', b ∈ S ∨ w.heap.size ≤ b) ∧ IsD w' (fun b => (P b ∨ w.heap.size ≤ b) ∧ b < w'.heap.size ∧ b ∉ S') q D'
abbrev opC (k n : Int) (s t : ByteArray) (fk fn : Int) : Array Value := #[.int .i64 k, .int .i64 n, .string s, .string t, .int .i64 fk, .int .i64 fn]
/-- The three boxes of a step. -/
def Bs11 (w : World) (C O : Array Value) (W : World) : Prop :=
  w.heap.size + 3 ≤ W.heap.size ∧ Blk W w.heap.size C 34 ∧ Blk W (w.heap.size + 1) O 40 ∧ Blk W (w.heap.size + 1 + 1) dskZ 34
theorem Bs11.mk (w : World) (C O : Array Value) : Bs11 w C O (((w.alloc (.cells C 34)).alloc (.cells O 40)).alloc (.cells dskZ 34)) ∧ Below w.heap.size w (((w.alloc (.cells C 34)).alloc (.cells O 40)).alloc (.cells dskZ 34)) ∧ (((w.alloc (.cells C 34)).alloc (.cells O 40)).alloc (.cells dskZ 34)).heap.size = w.heap.size + 3 := by
  have h1 := ((Blk.new w C 34).alloc (.cells O 40)).alloc (.cells dskZ 34)
  have h2 := (Blk.new (w.alloc (.cells C 34)) O 40).alloc (.cells dskZ 34)
  have h3 := Blk.new ((w.alloc (.cells C 34)).alloc (.cells O 40)) dskZ 34
  have s1 : (w.alloc (.cells C 34)).heap.size = w.heap.size + 1 := by simp
  have s2 : ((w.alloc (.cells C 34)).alloc (.cells O 40)).heap.size = w.heap.size + 1 + 1 := by simp
  rw [s1] at h2
  rw [s2] at h3
  exact ⟨⟨by simp, h1, h2, h3⟩, (((Below.refl _ _).alloc (Nat.le_refl _) _).alloc (by simp) _).alloc (by simp; omega) _, by simp⟩
theorem Bs11.on {w W W' : World} {C O : Array Value} (h : Bs11 w C O W) (hb : Below W.heap.size W W') : Bs11 w C O W' := ⟨Nat.le_trans h.1 hb.size, h.2.1.onto hb, h.2.2.1.onto hb, h.2.2.2.onto hb⟩
theorem Bs11.drew {w W : World} {C O : Array Value} (h : Bs11 w C O W) : Bs11 w C O W.drew := h
theorem Bs11.apart {w W W' : World} {C O : Array Value} {S : List Nat} (h : Bs11 w C O W) (ha : Apart S W W') (hS : ∀ b ∈ S, b < w.heap.size) : Bs11 w C O W' := by
  obtain ⟨h0, h1, h2, h3⟩ := h
  have n : ∀ i, w.heap.size ≤ i → i ∉ S := fun i hi hh => by have := hS _ hh; omega
  exact ⟨Nat.le_trans h0 ha.size, (ha.block _ h1.lt (n _ (Nat.le_refl _))).trans h1, (ha.block _ h2.lt (n _ (by omega))).trans h2, (ha.block _ h3.lt (n _ (by omega))).trans h3⟩
theorem blk8_put {w : World} {b : Nat} {x0 x1 x2 x3 x4 x5 x6 x7 : Value} (h : Blk w b #[x0, x1, x2, x3, x4, x5, x6, x7] 34) (sec : Int) (a : Option Addr) (n c : Nat) (aL : Option Addr) (nL cL : Nat) (f : Fus) (calls : Int) : Blk (put8 w b sec a n c aL nL cL f calls) b (dskC sec a n c aL nL cL f calls) 34 := by
  unfold put8
  have s0 : Blk (w.setCell ⟨b, 0, none⟩ (.int .i64 sec)) b #[.int .i64 sec, x1, x2, x3, x4, x5, x6, x7] 34 := h.set 0 _
  have s1 : Blk ((w.setCell ⟨b, 0, none⟩ (.int .i64 sec)).setCell ⟨b, 1, none⟩ (.slice a n c)) b #[.int .i64 sec, .slice a n c, x2, x3, x4, x5, x6, x7] 34 := s0.set 1 _
  have s2 : Blk (((w.setCell ⟨b, 0, none⟩ (.int .i64 sec)).setCell ⟨b, 1, none⟩ (.slice a n c)).setCell ⟨b, 2, none⟩ (.slice aL nL cL)) b #[.int .i64 sec, .slice a n c, .slice aL nL cL, x3, x4, x5, x6, x7] 34 := s1.set 2 _
  have s3 : Blk ((((w.setCell ⟨b, 0, none⟩ (.int .i64 sec)).setCell ⟨b, 1, none⟩ (.slice a n c)).setCell ⟨b, 2, none⟩ (.slice aL nL cL)).setCell ⟨b, 3, none⟩ (.int .i64 f.p)) b #[.int .i64 sec, .slice a n c, .slice aL nL cL, .int .i64 f.p, x4, x5, x6, x7] 34 := s2.set 3 _
  have s4 : Blk (((((w.setCell ⟨b, 0, none⟩ (.int .i64 sec)).setCell ⟨b, 1, none⟩ (.slice a n c)).setCell ⟨b, 2, none⟩ (.slice aL nL cL)).setCell ⟨b, 3, none⟩ (.int .i64 f.p)).setCell ⟨b, 4, none⟩ (.int .i64 f.s)) b #[.int .i64 sec, .slice a n c, .slice aL nL cL, .int .i64 f.p, .int .i64 f.s, x5, x6, x7] 34 := s3.set 4 _
  have s5 : Blk ((((((w.setCell ⟨b, 0, none⟩ (.int .i64 sec)).setCell ⟨b, 1, none⟩ (.slice a n c)).setCell ⟨b, 2, none⟩ (.slice aL nL cL)).setCell ⟨b, 3, none⟩ (.int .i64 f.p)).setCell ⟨b, 4, none⟩ (.int .i64 f.s)).setCell ⟨b, 5, none⟩ (.int .i64 f.d)) b #[.int .i64 sec, .slice a n c, .slice aL nL cL, .int .i64 f.p, .int .i64 f.s, .int .i64 f.d, x6, x7] 34 := s4.set 5 _
  have s6 : Blk (((((((w.setCell ⟨b, 0, none⟩ (.int .i64 sec)).setCell ⟨b, 1, none⟩ (.slice a n c)).setCell ⟨b, 2, none⟩ (.slice aL nL cL)).setCell ⟨b, 3, none⟩ (.int .i64 f.p)).setCell ⟨b, 4, none⟩ (.int .i64 f.s)).setCell ⟨b, 5, none⟩ (.int .i64 f.d)).setCell ⟨b, 6, none⟩ (.bool f.off)) b #[.int .i64 sec, .slice a n c, .slice aL nL cL, .int .i64 f.p, .int .i64 f.s, .int .i64 f.d, .bool f.off, x7] 34 := s5.set 6 _
  have s7 : Blk ((((((((w.setCell ⟨b, 0, none⟩ (.int .i64 sec)).setCell ⟨b, 1, none⟩ (.slice a n c)).setCell ⟨b, 2, none⟩ (.slice aL nL cL)).setCell ⟨b, 3, none⟩ (.int .i64 f.p)).setCell ⟨b, 4, none⟩ (.int .i64 f.s)).setCell ⟨b, 5, none⟩ (.int .i64 f.d)).setCell ⟨b, 6, none⟩ (.bool f.off)).setCell ⟨b, 7, none⟩ (.int .i64 calls)) b #[.int .i64 sec, .slice a n c, .slice aL nL cL, .int .i64 f.p, .int .i64 f.s, .int .i64 f.d, .bool f.off, .int .i64 calls] 34 := s6.set 7 _
  exact s7
theorem Bs11.put {w W : World} {O : Array Value} {x0 x1 x2 x3 x4 x5 x6 x7 : Value} (h : Bs11 w #[x0, x1, x2, x3, x4, x5, x6, x7] O W) (sec : Int) (a : Option Addr) (n c : Nat) (aL : Option Addr) (nL cL : Nat) (f : Fus) (calls : Int) : Bs11 w (dskC sec a n c aL nL cL f calls) O (put8 W w.heap.size sec a n c aL nL cL f calls) := by
  obtain ⟨h0, h1, h2, h3⟩ := h
  refine ⟨by unfold put8; simpa using h0, blk8_put h1 _ _ _ _ _ _ _ _ _, ?_, ?_⟩
  · unfold put8
    iterate 8 refine Blk.other ?_ _ (by simp) _
    exact h2
  · unfold put8
    iterate 8 refine Blk.other ?_ _ (by simp; omega) _
    exact h3
theorem Bs11.facts {w W : World} {x0 x1 x2 x3 x4 x5 x6 x7 y0 y1 y2 y3 y4 y5 : Value} (h : Bs11 w #[x0, x1, x2, x3, x4, x5, x6, x7] #[y0, y1, y2, y3, y4, y5] W) :
    (w.heap.size < W.heap.size ∧ w.heap.size + 1 < W.heap.size ∧ w.heap.size + 1 + 1 < W.heap.size) ∧
    (W.cell? ⟨w.heap.size, 0, none⟩ = some x0 ∧ W.cell? ⟨w.heap.size, 1, none⟩ = some x1 ∧ W.cell? ⟨w.heap.size, 2, none⟩ = some x2 ∧ W.cell? ⟨w.heap.size, 3, none⟩ = some x3 ∧ W.cell? ⟨w.heap.size, 4, none⟩ = some x4 ∧ W.cell? ⟨w.heap.size, 5, none⟩ = some x5 ∧ W.cell? ⟨w.heap.size, 6, none⟩ = some x6 ∧ W.cell? ⟨w.heap.size, 7, none⟩ = some x7 ∧
    W.frozen? ⟨w.heap.size, 0, none⟩ = false ∧ W.frozen? ⟨w.heap.size, 1, none⟩ = false ∧ W.frozen? ⟨w.heap.size, 2, none⟩ = false ∧ W.frozen? ⟨w.heap.size, 3, none⟩ = false ∧ W.frozen? ⟨w.heap.size, 4, none⟩ = false ∧ W.frozen? ⟨w.heap.size, 5, none⟩ = false ∧ W.frozen? ⟨w.heap.size, 6, none⟩ = false ∧ W.frozen? ⟨w.heap.size, 7, none⟩ = false) ∧
    (W.cell? ⟨w.heap.size + 1, 0, none⟩ = some y0 ∧ W.cell? ⟨w.heap.size + 1, 1, none⟩ = some y1 ∧ W.cell? ⟨w.heap.size + 1, 2, none⟩ = some y2 ∧ W.cell? ⟨w.heap.size + 1, 3, none⟩ = some y3 ∧ W.cell? ⟨w.heap.size + 1, 4, none⟩ = some y4 ∧ W.cell? ⟨w.heap.size + 1, 5, none⟩ = some y5) ∧
    (W.cell? ⟨w.heap.size + 1 + 1, 0, none⟩ = some (.int .i64 0) ∧ W.cell? ⟨w.heap.size + 1 + 1, 1, none⟩ = some (.slice none 0 0) ∧ W.cell? ⟨w.heap.size + 1 + 1, 2, none⟩ = some (.slice none 0 0) ∧ W.cell? ⟨w.heap.size + 1 + 1, 3, none⟩ = some (.int .i64 0) ∧ W.cell? ⟨w.heap.size + 1 + 1, 4, none⟩ = some (.int .i64 0) ∧ W.cell? ⟨w.heap.size + 1 + 1, 5, none⟩ = some (.int .i64 0) ∧ W.cell? ⟨w.heap.size + 1 + 1, 6, none⟩ = some (.bool false) ∧ W.cell? ⟨w.heap.size + 1 + 1, 7, none⟩ = some (.int .i64 0) ∧
    W.frozen? ⟨w.heap.size + 1 + 1, 0, none⟩ = false ∧ W.frozen? ⟨w.heap.size + 1 + 1, 1, none⟩ = false ∧ W.frozen? ⟨w.heap.size + 1 + 1, 2, none⟩ = false ∧ W.frozen? ⟨w.heap.size + 1 + 1, 3, none⟩ = false ∧ W.frozen? ⟨w.heap.size + 1 + 1, 4, none⟩ = false ∧ W.frozen? ⟨w.heap.size + 1 + 1, 5, none⟩ = false ∧ W.frozen? ⟨w.heap.size + 1 + 1, 6, none⟩ = false ∧ W.frozen? ⟨w.heap.size + 1 + 1, 7, none⟩ = false) := by
  obtain ⟨h0, h1, h2, h3⟩ := h
  exact ⟨⟨h1.lt, h2.lt, h3.lt⟩, h1.eight, ⟨h2.cell 0 _ rfl, h2.cell 1 _ rfl, h2.cell 2 _ rfl, h2.cell 3 _ rfl, h2.cell 4 _ rfl, h2.cell 5 _ rfl⟩, h3.eight⟩
theorem put8_below {B : Nat} {w W : World} (h : Below B w W) {b : Nat} (hb : B ≤ b) (sec : Int) (a : Option Addr) (n c : Nat) (aL : Option Addr) (nL cL : Nat) (f : Fus) (calls : Int) : Below B w (put8 W b sec a n c aL nL cL f calls) := by
  unfold put8
  iterate 8 refine Below.setCell ?_ hb _
  exact h
theorem put8_cell {w : World} {b : Nat} {p : Addr} (hp : p.block ≠ b) (sec : Int) (a : Option Addr) (n c : Nat) (aL : Option Addr) (nL cL : Nat) (f : Fus) (calls : Int) : (put8 w b sec a n c aL nL cL f calls).cell? p = w.cell? p := by
  unfold put8
  have e : ∀ (W : World) (i : Nat) (u : Value), (W.setCell ⟨b, i, none⟩ u).cell? p = W.cell? p := fun W i u => World.cell?_setCell_other _ _ _ _ (fun g => hp (by rw [← g]))
  rw [e, e, e, e, e, e, e, e]
theorem drew_cell (W : World) (q : Addr) : W.drew.cell? q = W.cell? q := rfl
theorem drew_size (W : World) : W.drew.heap.size = W.heap.size := rfl
/-- The world behind the store of the document's disk, under a name of its own. -/
theorem put8_world {w w1 : World} {O : Array Value} {x0 x1 x2 x3 x4 x5 x6 x7 : Value} (h : Bs11 w #[x0, x1, x2, x3, x4, x5, x6, x7] O w1) (hb : Below w.heap.size w w1) (sec : Int) (a : Option Addr) (n c : Nat) (aL : Option Addr) (nL cL : Nat) (p s0 d0 : Int) (off : Bool) (calls : Int) :
    ∃ Y, ((((((((w1.setCell ⟨w.heap.size, 0, none⟩ (.int .i64 sec)).setCell ⟨w.heap.size, 1, none⟩ (.slice a n c)).setCell ⟨w.heap.size, 2, none⟩ (.slice aL nL cL)).setCell ⟨w.heap.size, 3, none⟩ (.int .i64 p)).setCell ⟨w.heap.size, 4, none⟩ (.int .i64 s0)).setCell ⟨w.heap.size, 5, none⟩ (.int .i64 d0)).setCell ⟨w.heap.size, 6, none⟩ (.bool off)).setCell ⟨w.heap.size, 7, none⟩ (.int .i64 calls)) = Y ∧ Bs11 w #[.int .i64 sec, .slice a n c, .slice aL nL cL, .int .i64 p, .int .i64 s0, .int .i64 d0, .bool off, .int .i64 calls] O Y.drew ∧ Below w.heap.size w Y.drew ∧ (∀ q : Addr, q.block < w1.heap.size → q.block ≠ w.heap.size → Y.drew.cell? q = w1.cell? q) ∧ w1.heap.size ≤ Y.drew.heap.size :=
  ⟨put8 w1 w.heap.size sec a n c aL nL cL ⟨p, s0, d0, off⟩ calls, rfl, (h.put sec a n c aL nL cL ⟨p, s0, d0, off⟩ calls).drew, (put8_below hb (Nat.le_refl _) sec a n c aL nL cL ⟨p, s0, d0, off⟩ calls).drew, fun q _ hq => (drew_cell _ q).trans (put8_cell (w := w1) hq sec a n c aL nL cL ⟨p, s0, d0, off⟩ calls), Nat.le_of_eq ((drew_size _).trans (put8_size w1 w.heap.size sec a n c aL nL cL ⟨p, s0, d0, off⟩ calls)).symm⟩
/-- The end of a step: X: the boxes; w1: behind the document's call; Y: behind its store; w2: behind the disk's. -/
theorem st11_end {w X w1 Y w2 : World} {S S2 : List Nat} {f : Addr} {P : Nat → Prop} {D' : Dsk} {a aL : Option Addr} {c cL n nL : Nat}
    (hbX : Below w.heap.size w X) (hsX : X.heap.size = w.heap.size + 3) (hb1 : Below X.heap.size X w1) (hY : ∀ p : Addr, p.block < w1.heap.size → p.block ≠ w.heap.size → Y.cell? p = w1.cell? p) (hbY : Below w.heap.size w Y) (hs1 : w1.heap.size ≤ Y.heap.size)
    (hT : Tps w1 (Grow P X.heap.size w1.heap.size) a D'.tp) (hL : LLs w1 (Grow P X.heap.size w1.heap.size) aL D'.L) (hz : a = none → c = 0) (hn : D'.tp.length = n) (hl : D'.L.length = nL)
    (hP : ∀ b, P b → b < w.heap.size ∧ b ∉ S) (hS : ∀ b ∈ S, b < w.heap.size) (hF : IsDk w2 S2 f D') (ha : Apart S Y w2) (hS2 : ∀ b ∈ S2, b ∈ S ∨ Y.heap.size ≤ b) :
    StepK w S f P D' (.returned (.tuple #[dskV D'.sec a n c aL nL cL D'.fu D'.calls, .bool true])) (put8 w2 (w.heap.size + 1 + 1) D'.sec a n c aL nL cL D'.fu D'.calls) := by
  subst hn hl
  have hz1 := hb1.size
  have hz2 := ha.size
  obtain ⟨W', hW⟩ : ∃ W', put8 w2 (w.heap.size + 1 + 1) D'.sec a D'.tp.length c aL D'.L.length cL D'.fu D'.calls = W' := ⟨_, rfl⟩
  have hsz : W'.heap.size = w2.heap.size := by rw [← hW]; exact put8_size _ _ _ _ _ _ _ _ _ _ _
  have k3 : Apart [w.heap.size + 1 + 1] w2 W' := by rw [← hW]; exact put8_apart _ _ _ (by simp) _ _ _ _ _ _ _ _ _
  have hc3 : ∀ p : Addr, p.block ≠ w.heap.size + 1 + 1 → W'.cell? p = w2.cell? p := fun p hp => by rw [← hW]; exact put8_cell hp _ _ _ _ _ _ _ _ _
  rw [hW]
  have hG : ∀ b, Grow P X.heap.size w1.heap.size b → (P b ∨ w.heap.size ≤ b) ∧ b < w1.heap.size ∧ b ∉ S ∧ b ∉ S2 ∧ b ≠ w.heap.size + 1 + 1 ∧ b ≠ w.heap.size := fun b hb => by
    have hlt : b < w1.heap.size := by
      rcases hb with hb | hb
      · have := (hP b hb).1; omega
      · exact hb.2
    have hnS : b ∉ S := fun hh => by
      have := hS _ hh
      rcases hb with hb | hb
      · exact (hP b hb).2 hh
      · omega
    refine ⟨?_, hlt, hnS, fun hh => ?_, ?_, ?_⟩
    · rcases hb with hb | hb
      · exact .inl hb
      · exact .inr (by omega)
    · rcases hS2 _ hh with g | g
      · exact hnS g
      · omega
    · rcases hb with hb | hb
      · have := (hP b hb).1; omega
      · omega
    · rcases hb with hb | hb
      · have := (hP b hb).1; omega
      · omega
  have hkeep : ∀ p : Addr, Grow P X.heap.size w1.heap.size p.block → W'.cell? p = w1.cell? p := fun p hp => by
    obtain ⟨_, g1, g2, _, g4, g5⟩ := hG _ hp
    exact (hc3 p g4).trans ((ha.cell (by omega) g2).trans (hY p g1 g5))
  refine ⟨_, S2, rfl, hF.kept k3 (fun b hb hh => ?_), ?_, fun b hb => ?_, ⟨a, c, aL, cL, rfl, ?_, ?_, hz⟩⟩
  · have e : b = w.heap.size + 1 + 1 := by simpa using hh
    rcases hS2 _ hb with g | g
    · have := hS _ g; omega
    · omega
  · refine (((Apart.of_below (S := S) hbY).trans ha (fun x hx => .inl hx)).trans k3 (fun x hx => .inr ?_))
    have e : x = w.heap.size + 1 + 1 := by simpa using hx
    omega
  · rcases hS2 _ hb with g | g
    · exact .inl g
    · exact .inr (Nat.le_trans hbY.size g)
  · exact (hT.keep hkeep).more (fun b hb => ⟨(hG b hb).1, by rw [hsz]; have := (hG b hb).2.1; omega, (hG b hb).2.2.2.1⟩)
  · exact (hL.keep hkeep).more (fun b hb => ⟨(hG b hb).1, by rw [hsz]; have := (hG b hb).2.1; omega, (hG b hb).2.2.2.1⟩)
end Go.Proofs.YtfgecjlccngddaaGreat
