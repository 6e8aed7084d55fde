/-
  LawEdr2
-/
import Derived.Test.YtfiobemeogaaiaaGreatJEdrDev5
namespace Go.Proofs.YtfiobemeogaaiaaGreat
open Lib (hid)
open Go.RowKit
set_option linter.unusedVariables false
set_option linter.unusedSimpArgs false
theorem StaF.of_d {s s' : Sta} (h : StaF s) (e : s'.d = s.d) : StaF s' := by
  unfold Sta.d at e
  injection e with e1 e2 e3 e4 e5 e6
  have hu : s'.u.l.length = s.u.l.length := by rw [← lsP_len, e3, lsP_len]
  have hr : s'.r.l.length = s.r.l.length := by rw [← lsP_len, e4, lsP_len]
  refine ⟨by rw [e2]; exact h.m, by rw [hu]; exact h.u, by rw [hr]; exact h.r, by rw [e6]; exact h.g, fun x hx => ?_⟩
  have hz : ∀ y ∈ lsP s.u.l ++ lsP s.r.l, y.length ≤ 1000000 := fun y hy => by
    rw [← lsP_app] at hy
    obtain ⟨z, hz, rfl⟩ := List.mem_map.1 hy
    exact h.z z hz
  refine hz x.l ?_
  rw [← e3, ← e4, ← lsP_app]
  exact List.mem_map.2 ⟨x, hx, rfl⟩
theorem rsame26_any (a b : Sta) (w : World) (ha : StaIn w a) (hb : StaIn w b) (fa : StaF a) (fb : StaF b) : Calls Tryz.prog 16 #[a.v, b.v] w (RetB (sameD a.d b.d) w) :=
  rsame_core a.t b.t _ _ _ _ _ _ _ _ _ _ _ _ a.o b.o _ _ _ _ w
    (fun W hW => rsame22_any a.m.a b.m.a a.m.l b.m.l a.m.c b.m.c _ _ W (ha.later hW).m.row (hb.later hW).m.row (fun _ h => h) (fun _ h => h) (Nat.le_trans fa.m (by decide)) (Nat.le_trans fb.m (by decide)))
    (fun W hW => rsteps23_any a.u.a b.u.a a.u.l b.u.l a.u.c b.u.c W (ha.later hW).u (hb.later hW).u (fun x hx => fa.z x (by simp [hx])) (fun x hx => fb.z x (by simp [hx])))
    (fun W hW => rsteps23_any a.r.a b.r.a a.r.l b.r.l a.r.c b.r.c W (ha.later hW).r (hb.later hW).r (fun x hx => fa.z x (by simp [hx])) (fun x hx => fb.z x (by simp [hx])))
    (fun W hW => rsame23_any a.g.a b.g.a a.g.l b.g.l a.g.c b.g.c W (ha.later hW).g.row (hb.later hW).g.row (Nat.le_trans fa.g (by decide)) (Nat.le_trans fb.g (by decide)))
theorem ed_method_any (k : Int) (w : World) : Calls Tryz.prog 30 #[.int .i64 k] w fun e w' => ∃ v, e = .returned v ∧ w = w' := by
  by_cases hk : 1 ≤ k ∧ k ≤ 8
  · rcases (show k = 1 ∨ k = 2 ∨ k = 3 ∨ k = 4 ∨ k = 5 ∨ k = 6 ∨ k = 7 ∨ k = 8 by omega) with rfl | rfl | rfl | rfl | rfl | rfl | rfl | rfl
    · exact (ed_method1 w).mono fun e w' h => ⟨_, h⟩
    · exact (ed_method2 w).mono fun e w' h => ⟨_, h⟩
    · exact (ed_method3 w).mono fun e w' h => ⟨_, h⟩
    · exact (ed_method4 w).mono fun e w' h => ⟨_, h⟩
    · exact (ed_method5 w).mono fun e w' h => ⟨_, h⟩
    · exact (ed_method6 w).mono fun e w' h => ⟨_, h⟩
    · exact (ed_method7 w).mono fun e w' h => ⟨_, h⟩
    · exact (ed_method8 w).mono fun e w' h => ⟨_, h⟩
  · exact (ed_method_no k hk w).mono fun e w' h => ⟨_, h⟩
set_option maxRecDepth 100000 in
set_option maxHeartbeats 800000 in
theorem ed_do_nobody {w : World} {q : Option Addr} {r : Option Addr} {t : ByteArray} {ma : Option Addr} {mn mc : Nat} {ua : Option Addr} {un uc : Nat} {ra : Option Addr} {rn rc : Nat} {o : Bool} {ga : Option Addr} {gn gc : Nat} (h : Nw w q (edN false r t ma mn mc ua un uc ra rn rc o ga gn gc)) (k i n : Int) (x : ByteArray) :
    Calls Tryz.prog 12 #[.pointer q, .agg #[.int .i64 k, .int .i64 i, .int .i64 n, .string x]] w fun e w' => e = .returned (.int .i64 1) ∧ Below w.heap.size w w' := by
  obtain ⟨wX, hwX, kE, hb0, hz⟩ := box1 w #[.int .i64 k, .int .i64 i, .int .i64 n, .string x] 36
  have cn := fun W (hW : Below wX.heap.size wX W) => (h.later (hb0.trans (hW.mono hb0.size))).out W (Below.refl _ _)
  have cf := edr_f0 false r t ma mn mc ua un uc ra rn rc o ga gn gc
  have CN := hid cn; have CM := hid (ed_method_any k); have HB0 := hid hb0
  obtain ⟨z0, z1, z2, z3, -, -, -, -⟩ := kE.four
  clear cn kE hb0 hz h
  go_enter Tryz.func12, Tryz.ntmps12
  go_wp2_with fail
  refine (CM.out _).mono ?_; rintro e w1 ⟨v, rfl, rfl⟩
  go_wp2_with fail
  refine (CN.out _ (Below.refl _ _)).mono ?_; rintro e w1 ⟨rfl, hb1⟩
  have HB1 := hid (HB0.out.trans (hb1.mono HB0.out.size))
  clear z0 z1 z2 z3 hwX hb1
  go_wp2
  go_ret
  exact ⟨rfl, HB1.out⟩
set_option maxRecDepth 100000 in
set_option maxHeartbeats 1600000 in
theorem editorNobody_walk (x : Opr) (s : ByteArray) (w : World) (_ : x.fits) (_ : s.size ≤ maxLen) :
    Calls Tryz.prog 7 #[x.v, .string s] w fun e w' => e = .returned (.bool true) ∧ Below w.heap.size w w' := by
  obtain ⟨k, i, n, y⟩ := x
  show Calls Tryz.prog 7 #[.agg #[.int .i64 k, .int .i64 i, .int .i64 n, .string y], .string s] w _
  obtain ⟨wX, hwX, kE, kZ, hb0, hz⟩ := box2 w #[.int .i64 k, .int .i64 i, .int .i64 n, .string y] #[.bool false, .pointer none, .string ⟨#[]⟩, .slice none 0 0, .slice none 0 0, .slice none 0 0, .bool false, .slice none 0 0] 36 54
  have hnz := fun W (hW : Below wX.heap.size wX W) => (Nw.some (kZ.onto hW) : Nw W (some ⟨w.heap.size + 1, 0, none⟩) (edN false none ⟨#[]⟩ none 0 0 none 0 0 none 0 0 false none 0 0))
  have cF := fun W => (ed_find (l := []) (Nw.none W) (fun k hk => absurd hk (by simp)) (by decide) s)
  have cD1 := fun W => ed_do_nobody (Nw.none W) k i n y
  have cD2 := fun W (hW : Below wX.heap.size wX W) => ed_do_nobody (hnz W hW) k i n y
  have cL1 := fun W => ed_len (Nw.none W) (RopeW.nil W)
  have cL2 := fun W (hW : Below wX.heap.size wX W) => ed_len (hnz W hW) (RopeW.nil W)
  have cR := fun W => ed_rope (Nw.none W)
  have cT := fun W => ro_text (RopeW.nil W)
  have cS := fun W (hW : Below wX.heap.size wX W) => ed_state (s := staZ) (hnz W hW) (RopeW.nil W) (staZ_in W) staZ_few [] (fun i hi => absurd hi (by simp))
  have cQ := fun (c : Sta) (hc : c.d = stD0) W (hW : StaIn W c) => rsame26_any c staZ W hW (staZ_in W) (staZ_few.of_d hc) staZ_few
  have HNZ := hid hnz; have CF := hid (show ∀ W, Calls Tryz.prog 14 #[.pointer none, .string s] W fun x w' => x = .returned (.tuple #[.int .i64 0, .bool false]) ∧ Below W.heap.size W w' from cF); have CD1 := hid cD1; have CD2 := hid cD2; have CL1 := hid (show ∀ W, Calls Tryz.prog 13 #[.pointer none] W fun x w' => x = .returned (.int .i64 0) ∧ Below W.heap.size W w' from cL1)
  have CL2 := hid (show ∀ W, Below wX.heap.size wX W → Calls Tryz.prog 13 #[.pointer (some ⟨w.heap.size + 1, 0, none⟩)] W fun x w' => x = .returned (.int .i64 0) ∧ Below W.heap.size W w' from cL2); have CR := hid cR; have CT := hid cT; have CS := hid cS; have CQ := hid cQ; have HB0 := hid hb0; have KE := hid kE
  obtain ⟨z0, z1, z2, z3, -, -, -, -⟩ := kE.four
  clear hnz cF cD1 cD2 cL1 cL2 cR cT cS cQ kE kZ hb0 hz
  go_enter Tryz.func7, Tryz.ntmps7
  go_wp2_with fail
  refine (CF.out _).mono ?_; rintro e w1 ⟨rfl, hb⟩
  have H1 := hid hb
  clear z0 z1 z2 z3 hwX
  obtain ⟨z0, z1, z2, z3, -, -, -, -⟩ := (KE.out.onto hb).four
  clear hb
  go_wp2_with fail
  refine (CD1.out _).mono ?_; rintro e w2 ⟨rfl, hb⟩
  have H2 := hid (H1.out.trans (hb.mono H1.out.size))
  clear z0 z1 z2 z3 hb
  obtain ⟨z0, z1, z2, z3, -, -, -, -⟩ := (KE.out.onto H2.out).four
  go_wp2_with fail
  refine (CD2.out _ H2.out).mono ?_; rintro e w3 ⟨rfl, hb⟩
  have H3 := hid (H2.out.trans (hb.mono H2.out.size))
  clear z0 z1 z2 z3 hb
  go_wp2_with fail
  refine (CL1.out _).mono ?_; rintro e w4 ⟨rfl, hb⟩
  have H4 := hid (H3.out.trans (hb.mono H3.out.size))
  clear hb
  go_wp2_with fail
  refine (CL2.out _ H4.out).mono ?_; rintro e w5 ⟨rfl, hb⟩
  have H5 := hid (H4.out.trans (hb.mono H4.out.size))
  clear hb
  go_wp2_with fail
  refine (CR.out _).mono ?_; rintro e w6 ⟨rfl, hb⟩
  have H6 := hid (H5.out.trans (hb.mono H5.out.size))
  clear hb
  go_wp2_with fail
  refine (CT.out _).mono ?_; rintro e w7 ⟨rfl, hb⟩
  have H7 := hid (H6.out.trans (hb.mono H6.out.size))
  clear hb
  go_wp2_with fail
  refine (CS.out _ H7.out).mono ?_; rintro e w8 ⟨c, rfl, hcd, hcs, hb⟩
  have H8 := hid (H7.out.trans (hb.mono H7.out.size))
  have cq := CQ.out c hcd w8 hcs.in
  rw [show c.d = staZ.d from hcd, sameD_refl] at cq
  have CQ2 := hid (show Calls Tryz.prog 16 #[c.v, .agg #[.string ⟨#[]⟩, .slice none 0 0, .slice none 0 0, .slice none 0 0, .bool false, .slice none 0 0]] w8 (RetB true w8) from cq)
  clear hb hcd hcs cq
  go_wp2_with fail
  refine CQ2.out.mono ?_; rintro e w9 ⟨rfl, hb⟩
  have H9 := hid (H8.out.trans (hb.mono H8.out.size))
  clear hb
  go_wp2_with fail
  refine (lives26_any _).mono ?_; rintro e w10 ⟨rfl, hb⟩
  have H10 := hid (HB0.out.trans ((H9.out.trans (hb.mono H9.out.size)).mono HB0.out.size))
  clear hb
  go_wp2
  go_ret
  exact ⟨rfl, H10.out⟩
end Go.Proofs.YtfiobemeogaaiaaGreat
