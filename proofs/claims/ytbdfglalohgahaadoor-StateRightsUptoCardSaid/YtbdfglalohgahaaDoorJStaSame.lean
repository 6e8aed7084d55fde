/-
  Joined: StaSame, StaSame2.
-/
import Derived.Test.YtbdfglalohgahaaDoorSame
import Derived.Test.YtbdfglalohgahaaDoorJStkRef2
namespace Go.Proofs.YtbdfglalohgahaaDoor
open Go.RowKit
set_option linter.unusedVariables false
set_option linter.unusedSimpArgs false

theorem below1 (w : World) (o : Obj) : Below w.heap.size w (w.alloc o) := (Below.refl _ w).alloc (Nat.le_refl _) o
theorem below2 (w : World) (o o2 : Obj) : Below w.heap.size w ((w.alloc o).alloc o2) := (below1 w o).alloc (by simp) o2
theorem below_after1 {w w1 : World} {o : Obj} (hb : Below (w.alloc o).heap.size (w.alloc o) w1) : Below w.heap.size w w1 := (below1 w o).trans (hb.mono (by simp))
theorem below_after2 {w w1 : World} {o o2 : Obj} (hb : Below ((w.alloc o).alloc o2).heap.size ((w.alloc o).alloc o2) w1) : Below w.heap.size w w1 := (below2 w o o2).trans (hb.mono (by simp; omega))

set_option maxRecDepth 100000 in
set_option maxHeartbeats 800000 in
theorem samestep_any (a b : Option Addr) (la lb : List Edt) (c d : Nat) (w : World) (ha : EPcs w ⟨a, la, c⟩) (hb : EPcs w ⟨b, lb, d⟩) (hl : la.length ≤ 1000000) (hl2 : lb.length ≤ 1000000) :
    Calls Tryd.prog 44 #[stpV a la.length c, stpV b lb.length d] w fun e w' => e = .returned (.bool (decide (la = lb))) ∧ Below w.heap.size w w' := by
  have cr := fun W (hW : Below w.heap.size w W) => eequal_any a b la lb c d W (ha.later hW).row (hb.later hW).row hl hl2
  obtain ⟨n, hn⟩ : ∃ n, la.length = n := ⟨_, rfl⟩
  obtain ⟨m, hm⟩ : ∃ n, lb.length = n := ⟨_, rfl⟩
  obtain ⟨r, hr⟩ : ∃ r, decide (la = lb) = r := ⟨_, rfl⟩
  rw [hn, hm, hr] at cr
  rw [hn, hm, hr]
  have CR := Lib.hid cr
  clear cr hn hm hr ha hb hl hl2
  go_enter Tryd.func44, Tryd.ntmps44
  go_wp2_with fail
  refine (CR.out _ (below2 _ _ _)).mono ?_; rintro e w1 ⟨rfl, hb1⟩
  have HB := Lib.hid (below_after2 hb1); clear hb1
  go_wp2
  go_ret
  exact ⟨rfl, HB.out⟩

set_option maxRecDepth 100000 in
set_option maxHeartbeats 1600000 in
theorem eqfunc_any (a b : Option Addr) (la lb : List EPc) (c d : Nat) (w : World) (ha : SPcs w ⟨a, la, c⟩) (hb : SPcs w ⟨b, lb, d⟩) (h1 : ∀ x ∈ la, x.l.length ≤ 1000000) (h2 : ∀ x ∈ lb, x.l.length ≤ 1000000) :
    Calls Tryd.prog 43 #[.slice a la.length c, .slice b lb.length d, .func (.func 44) #[] #[]] w fun e w' => e = .returned (.bool (decide (lsP la = lsP lb))) ∧ Below w.heap.size w w' := by
  by_cases hne : la.length = lb.length
  case neg =>
    have h0 : decide (lsP la = lsP lb) = false := decide_eq_false fun e => hne (by rw [← lsP_len la, e, lsP_len])
    rw [h0]
    have hm1 : la.length ≤ maxLen := Nat.le_trans ha.le ha.cap
    have hm2 : lb.length ≤ maxLen := Nat.le_trans hb.le hb.cap
    unfold maxLen at hm1 hm2
    obtain ⟨n, hn⟩ : ∃ n, la.length = n := ⟨_, rfl⟩
    obtain ⟨m, hm⟩ : ∃ n, lb.length = n := ⟨_, rfl⟩
    rw [hn] at hne hm1 ⊢
    rw [hm] at hne hm2 ⊢
    clear hn hm ha hb h1 h2
    have hne2 : ¬ (n : Int) = (m : Int) := by omega
    go_enter Tryd.func43, Tryd.ntmps43
    go_wp2
    go_ret
    exact ⟨rfl, Below.refl _ _⟩
  have HE := Lib.hid hne
  have hm1 : la.length ≤ maxLen := Nat.le_trans ha.le ha.cap
  unfold maxLen at hm1
  rw [← hne]
  obtain ⟨n, hn⟩ : ∃ n, la.length = n := ⟨_, rfl⟩
  obtain ⟨r, hfr⟩ : ∃ r, decide (lsP la = lsP lb) = r := ⟨_, rfl⟩
  rw [hfr]
  rw [hn] at hm1 ⊢
  have HN := Lib.hid hn; have HA := Lib.hid ha; have HB := Lib.hid hb; have H1 := Lib.hid h1; have H2 := Lib.hid h2; have HF := Lib.hid hfr
  clear hn ha hb h1 h2 hfr hne
  go_enter Tryd.func43, Tryd.ntmps43
  go_wp2
  go_loopw [17] (fun i wr => ∃ k : Nat, k ≤ n ∧ i = .int .i64 k ∧ (∀ j, j < k → (la[j]!).l = (lb[j]!).l) ∧ Below w.heap.size w wr) (fun i _ => n - (intOf i).toNat)
  case atStart => exact ⟨0, Nat.zero_le _, rfl, fun j hj => absurd hj (Nat.not_lt_zero _), Below.refl _ _⟩
  case round =>
    obtain ⟨k, hk, rfl, hall, hbel⟩ := hrel
    by_cases hlt : k < n
    · have hkl : k < la.length := by rw [HN.out]; exact hlt
      have hkl2 : k < lb.length := by rw [← HE.out]; exact hkl
      have hpa := HA.out.later hbel
      have hpb := HB.out.later hbel
      obtain ⟨ad, rfl, hab, q0⟩ := hpa.row k hkl
      obtain ⟨bd, rfl, hbb, r0⟩ := hpb.row k hkl2
      have hx1 := hpa.all.at k hkl
      have hx2 := hpb.all.at k hkl2
      have hz1 := H1.out (la[k]!) (by rw [epget hkl]; exact List.getElem_mem hkl)
      have hz2 := H2.out (lb[k]!) (by rw [epget hkl2]; exact List.getElem_mem hkl2)
      have hyes := lsame_more (a := la) (b := lb) hall
      have hno : ¬ (la[k]!).l = (lb[k]!).l → decide (lsP la = lsP lb) = false := fun h => decide_eq_false fun e => h (lsame_at hkl hkl2 e)
      obtain ⟨x, hx⟩ : ∃ x, la[k]! = x := ⟨_, rfl⟩
      obtain ⟨y, hy⟩ : ∃ x, lb[k]! = x := ⟨_, rfl⟩
      rw [hx] at q0 hx1 hz1 hyes hno
      rw [hy] at r0 hx2 hz2 hyes hno
      obtain ⟨xa, xl, xc⟩ := x
      obtain ⟨ya, yl, yc⟩ := y
      simp only [EPc.v] at q0 r0 hz1 hz2 hyes hno
      have cs := fun W (hW : Below wr.heap.size wr W) => samestep_any xa ya xl yl xc yc W (hx1.later hW) (hx2.later hW) hz1 hz2
      have r2 : ∀ o, (wr.alloc o).cell? (bd.add k) = some (.slice ya yl.length yc) := fun o => ((below1 wr o).cell (by rw [stk_block]; exact hbb)).trans r0
      obtain ⟨p, hp⟩ : ∃ p, xl.length = p := ⟨_, rfl⟩
      obtain ⟨q, hq⟩ : ∃ p, yl.length = p := ⟨_, rfl⟩
      rw [hp] at q0 cs
      rw [hq] at r0 r2 cs
      have b0 : (0 : Int) ≤ (k : Int) := by omega
      have b1 : (k : Int) < (n : Int) := by omega
      clear hall hx hy hab hbb hpa hpb hx1 hx2 hz1 hz2 hp hq
      by_cases he : xl = yl
      · rw [decide_eq_true he] at cs
        have HY := Lib.hid (hyes he); have CS := Lib.hid cs
        clear hyes hno cs he
        go_wp2_with fail
        refine (CS.out _ (below2 _ _ _)).mono ?_; rintro e w1 ⟨rfl, hb1⟩
        have HB1 := Lib.hid (hbel.trans ((below_after2 hb1).mono hbel.size)); clear hb1 q0 r0 r2 hbel
        go_wp2
        go_roundw
        case rel => exact ⟨k + 1, by omega, by go_num, HY.out, HB1.out⟩
        case measure => simp [intOf]; omega
      · rw [decide_eq_false he] at cs
        have h0 := hno he
        rw [HF.out] at h0
        subst h0
        have CS := Lib.hid cs
        clear hyes hno cs he
        go_wp2_with fail
        refine (CS.out _ (below2 _ _ _)).mono ?_; rintro e w1 ⟨rfl, hb1⟩
        have HB1 := Lib.hid (hbel.trans ((below_after2 hb1).mono hbel.size)); clear hb1 q0 r0 r2 hbel
        go_wp2
        go_ret
        exact ⟨rfl, HB1.out⟩
    · obtain rfl : k = n := by omega
      have h0 : r = true := by
        rw [← HF.out]
        exact decide_eq_true (lsame_all (by rw [HE.out]) (by rw [HN.out]; exact hall))
      subst h0
      have HB1 := Lib.hid hbel
      clear hall hbel
      go_wp2
      go_ret
      exact ⟨rfl, HB1.out⟩
end Go.Proofs.YtbdfglalohgahaaDoor
namespace Go.Proofs.YtbdfglalohgahaaDoor
open Go.RowKit
set_option linter.unusedVariables false
set_option linter.unusedSimpArgs false

def RetB (b : Bool) (w : World) (e : Ending) (w' : World) : Prop := e = .returned (.bool b) ∧ Below w.heap.size w w'
/-- Two boxes of states, one behind the other. -/
structure TwoS (w : World) (t m u r o g t2 m2 u2 r2 o2 g2 : Value) (W : World) : Prop where
  below : Below w.heap.size w W
  p : Box6 w.heap.size t m u r o g W
  q : Box6 (w.heap.size + 1) t2 m2 u2 r2 o2 g2 W
theorem TwoS.new (w : World) (t m u r o g t2 m2 u2 r2 o2 g2 : Value) (T : TypeId) : TwoS w t m u r o g t2 m2 u2 r2 o2 g2 ((w.alloc (.cells #[t, m, u, r, o, g] T)).alloc (.cells #[t2, m2, u2, r2, o2, g2] T)) := by
  refine ⟨below2 _ _ _, (Box6.new w t m u r o g T).on (below1 _ _) (by simp), ?_⟩
  have := Box6.new (w.alloc (.cells #[t, m, u, r, o, g] T)) t2 m2 u2 r2 o2 g2 T
  rwa [World.size_alloc] at this
theorem TwoS.on {w W W2 : World} {t m u r o g t2 m2 u2 r2 o2 g2 : Value} (h : TwoS w t m u r o g t2 m2 u2 r2 o2 g2 W) (hb : Below W.heap.size W W2) : TwoS w t m u r o g t2 m2 u2 r2 o2 g2 W2 :=
  ⟨h.below.trans (hb.mono h.below.size), h.p.on hb h.p.lt, h.q.on hb h.q.lt⟩
set_option maxRecDepth 100000 in
set_option maxHeartbeats 3200000 in
/-- The program's. -/
theorem same_core (t1 t2 : ByteArray) (m1 u1 r1 g1 m2 u2 r2 g2 : Value) (o1 o2 bM bU bR bG : Bool) (w : World) (cM : ∀ W, Below w.heap.size w W → Calls Tryd.prog 42 #[m1, m2] W (RetB bM W)) (cU : ∀ W, Below w.heap.size w W → Calls Tryd.prog 43 #[u1, u2, .func (.func 44) #[] #[]] W (RetB bU W)) (cR : ∀ W, Below w.heap.size w W → Calls Tryd.prog 43 #[r1, r2, .func (.func 44) #[] #[]] W (RetB bR W)) (cG : ∀ W, Below w.heap.size w W → Calls Tryd.prog 45 #[g1, g2] W (RetB bG W)) :
    Calls Tryd.prog 14 #[staV t1 m1 u1 r1 o1 g1, staV t2 m2 u2 r2 o2 g2] w (RetB (decide (t1 = t2) && (decide (o1 = o2) && (bM && (bU && (bR && bG))))) w) := by
  have hX := TwoS.new w (.string t1) m1 u1 r1 (.bool o1) g1 (.string t2) m2 u2 r2 (.bool o2) g2 26
  obtain ⟨wX, hwX⟩ : ∃ wX, (w.alloc (.cells #[.string t1, m1, u1, r1, .bool o1, g1] 26)).alloc (.cells #[.string t2, m2, u2, r2, .bool o2, g2] 26) = wX := ⟨_, rfl⟩
  rw [hwX] at hX
  have HX := Lib.hid hX; have CM := Lib.hid cM; have CU := Lib.hid cU; have CR := Lib.hid cR; have CG := Lib.hid cG
  have p0 := hX.p.x0; have q0 := hX.q.x0
  have p1 := hX.p.x1; have q1 := hX.q.x1
  have p2 := hX.p.x2; have q2 := hX.q.x2
  have p3 := hX.p.x3; have q3 := hX.q.x3
  have p4 := hX.p.x4; have q4 := hX.q.x4
  have p5 := hX.p.x5; have q5 := hX.q.x5
  clear hX cM cU cR cG
  by_cases ht : t1 = t2
  case neg =>
    rw [decide_eq_false ht, Bool.false_and]
    have g0 := str_ne ht
    clear ht
    go_enter Tryd.func14, Tryd.ntmps14
    go_wp2
    go_ret
    exact ⟨rfl, HX.out.below⟩
  subst ht
  rw [decide_eq_true rfl, Bool.true_and]
  cases o1 <;> cases o2
  case false.true =>
    rw [show decide (false = true) = false from rfl, Bool.false_and]
    go_enter Tryd.func14, Tryd.ntmps14
    go_wp2
    go_ret
    exact ⟨rfl, HX.out.below⟩
  case true.false =>
    rw [show decide (true = false) = false from rfl, Bool.false_and]
    go_enter Tryd.func14, Tryd.ntmps14
    go_wp2
    go_ret
    exact ⟨rfl, HX.out.below⟩
  all_goals
    rw [decide_eq_true rfl, Bool.true_and]
    cases bM
    · rw [Bool.false_and]
      go_enter Tryd.func14, Tryd.ntmps14
      go_wp2_with (first
        | (go_at_call 42; (with_reducible refine (CM.out _ HX.out.below).mono ?_); rintro e w1 ⟨rfl, hb1⟩; have HT1 := Lib.hid (HX.out.on hb1); clear hb1 p0 p1 p2 p3 p4 p5 q0 q1 q2 q3 q4 q5; have p0 := HT1.out.p.x0; have q0 := HT1.out.q.x0; have p1 := HT1.out.p.x1; have q1 := HT1.out.q.x1; have p2 := HT1.out.p.x2; have q2 := HT1.out.q.x2; have p3 := HT1.out.p.x3; have q3 := HT1.out.q.x3; have p4 := HT1.out.p.x4; have q4 := HT1.out.q.x4; have p5 := HT1.out.p.x5; have q5 := HT1.out.q.x5))
      go_ret
      exact ⟨rfl, HT1.out.below⟩
    rw [Bool.true_and]
    cases bU
    · rw [Bool.false_and]
      go_enter Tryd.func14, Tryd.ntmps14
      go_wp2_with (first
        | (go_at_call 42; (with_reducible refine (CM.out _ HX.out.below).mono ?_); rintro e w1 ⟨rfl, hb1⟩; have HT1 := Lib.hid (HX.out.on hb1); clear hb1 p0 p1 p2 p3 p4 p5 q0 q1 q2 q3 q4 q5; have p0 := HT1.out.p.x0; have q0 := HT1.out.q.x0; have p1 := HT1.out.p.x1; have q1 := HT1.out.q.x1; have p2 := HT1.out.p.x2; have q2 := HT1.out.q.x2; have p3 := HT1.out.p.x3; have q3 := HT1.out.q.x3; have p4 := HT1.out.p.x4; have q4 := HT1.out.q.x4; have p5 := HT1.out.p.x5; have q5 := HT1.out.q.x5)
        | (go_at_call 43; (with_reducible refine (CU.out _ HT1.out.below).mono ?_); rintro e w2 ⟨rfl, hb1⟩; have HT2 := Lib.hid (HT1.out.on hb1); clear hb1 p0 p1 p2 p3 p4 p5 q0 q1 q2 q3 q4 q5; have p0 := HT2.out.p.x0; have q0 := HT2.out.q.x0; have p1 := HT2.out.p.x1; have q1 := HT2.out.q.x1; have p2 := HT2.out.p.x2; have q2 := HT2.out.q.x2; have p3 := HT2.out.p.x3; have q3 := HT2.out.q.x3; have p4 := HT2.out.p.x4; have q4 := HT2.out.q.x4; have p5 := HT2.out.p.x5; have q5 := HT2.out.q.x5))
      go_ret
      exact ⟨rfl, HT2.out.below⟩
    rw [Bool.true_and]
    cases bR
    · rw [Bool.false_and]
      go_enter Tryd.func14, Tryd.ntmps14
      go_wp2_with (first
        | (go_at_call 42; (with_reducible refine (CM.out _ HX.out.below).mono ?_); rintro e w1 ⟨rfl, hb1⟩; have HT1 := Lib.hid (HX.out.on hb1); clear hb1 p0 p1 p2 p3 p4 p5 q0 q1 q2 q3 q4 q5; have p0 := HT1.out.p.x0; have q0 := HT1.out.q.x0; have p1 := HT1.out.p.x1; have q1 := HT1.out.q.x1; have p2 := HT1.out.p.x2; have q2 := HT1.out.q.x2; have p3 := HT1.out.p.x3; have q3 := HT1.out.q.x3; have p4 := HT1.out.p.x4; have q4 := HT1.out.q.x4; have p5 := HT1.out.p.x5; have q5 := HT1.out.q.x5)
        | (go_at_call 43; (with_reducible refine (CU.out _ HT1.out.below).mono ?_); rintro e w2 ⟨rfl, hb1⟩; have HT2 := Lib.hid (HT1.out.on hb1); clear hb1 p0 p1 p2 p3 p4 p5 q0 q1 q2 q3 q4 q5; have p0 := HT2.out.p.x0; have q0 := HT2.out.q.x0; have p1 := HT2.out.p.x1; have q1 := HT2.out.q.x1; have p2 := HT2.out.p.x2; have q2 := HT2.out.q.x2; have p3 := HT2.out.p.x3; have q3 := HT2.out.q.x3; have p4 := HT2.out.p.x4; have q4 := HT2.out.q.x4; have p5 := HT2.out.p.x5; have q5 := HT2.out.q.x5)
        | (go_at_call 43; (with_reducible refine (CR.out _ HT2.out.below).mono ?_); rintro e w3 ⟨rfl, hb1⟩; have HT3 := Lib.hid (HT2.out.on hb1); clear hb1 p0 p1 p2 p3 p4 p5 q0 q1 q2 q3 q4 q5; have p0 := HT3.out.p.x0; have q0 := HT3.out.q.x0; have p1 := HT3.out.p.x1; have q1 := HT3.out.q.x1; have p2 := HT3.out.p.x2; have q2 := HT3.out.q.x2; have p3 := HT3.out.p.x3; have q3 := HT3.out.q.x3; have p4 := HT3.out.p.x4; have q4 := HT3.out.q.x4; have p5 := HT3.out.p.x5; have q5 := HT3.out.q.x5))
      go_ret
      exact ⟨rfl, HT3.out.below⟩
    rw [Bool.true_and]
    go_enter Tryd.func14, Tryd.ntmps14
    go_wp2_with (first
      | (go_at_call 42; (with_reducible refine (CM.out _ HX.out.below).mono ?_); rintro e w1 ⟨rfl, hb1⟩; have HT1 := Lib.hid (HX.out.on hb1); clear hb1 p0 p1 p2 p3 p4 p5 q0 q1 q2 q3 q4 q5; have p0 := HT1.out.p.x0; have q0 := HT1.out.q.x0; have p1 := HT1.out.p.x1; have q1 := HT1.out.q.x1; have p2 := HT1.out.p.x2; have q2 := HT1.out.q.x2; have p3 := HT1.out.p.x3; have q3 := HT1.out.q.x3; have p4 := HT1.out.p.x4; have q4 := HT1.out.q.x4; have p5 := HT1.out.p.x5; have q5 := HT1.out.q.x5)
      | (go_at_call 43; (with_reducible refine (CU.out _ HT1.out.below).mono ?_); rintro e w2 ⟨rfl, hb1⟩; have HT2 := Lib.hid (HT1.out.on hb1); clear hb1 p0 p1 p2 p3 p4 p5 q0 q1 q2 q3 q4 q5; have p0 := HT2.out.p.x0; have q0 := HT2.out.q.x0; have p1 := HT2.out.p.x1; have q1 := HT2.out.q.x1; have p2 := HT2.out.p.x2; have q2 := HT2.out.q.x2; have p3 := HT2.out.p.x3; have q3 := HT2.out.q.x3; have p4 := HT2.out.p.x4; have q4 := HT2.out.q.x4; have p5 := HT2.out.p.x5; have q5 := HT2.out.q.x5)
      | (go_at_call 43; (with_reducible refine (CR.out _ HT2.out.below).mono ?_); rintro e w3 ⟨rfl, hb1⟩; have HT3 := Lib.hid (HT2.out.on hb1); clear hb1 p0 p1 p2 p3 p4 p5 q0 q1 q2 q3 q4 q5; have p0 := HT3.out.p.x0; have q0 := HT3.out.q.x0; have p1 := HT3.out.p.x1; have q1 := HT3.out.q.x1; have p2 := HT3.out.p.x2; have q2 := HT3.out.q.x2; have p3 := HT3.out.p.x3; have q3 := HT3.out.q.x3; have p4 := HT3.out.p.x4; have q4 := HT3.out.q.x4; have p5 := HT3.out.p.x5; have q5 := HT3.out.q.x5)
      | (go_at_call 45; (with_reducible refine (CG.out _ HT3.out.below).mono ?_); rintro e w4 ⟨rfl, hb1⟩; have HT4 := Lib.hid (HT3.out.on hb1); clear hb1 p0 p1 p2 p3 p4 p5 q0 q1 q2 q3 q4 q5; have p0 := HT4.out.p.x0; have q0 := HT4.out.q.x0; have p1 := HT4.out.p.x1; have q1 := HT4.out.q.x1; have p2 := HT4.out.p.x2; have q2 := HT4.out.q.x2; have p3 := HT4.out.p.x3; have q3 := HT4.out.q.x3; have p4 := HT4.out.p.x4; have q4 := HT4.out.q.x4; have p5 := HT4.out.p.x5; have q5 := HT4.out.q.x5))
    go_ret
    exact ⟨rfl, HT4.out.below⟩
set_option maxRecDepth 100000 in
set_option maxHeartbeats 3200000 in
/-- The document's. -/
theorem rsame_core (t1 t2 : ByteArray) (m1 u1 r1 m2 u2 r2 : Value) (ga1 ga2 : Option Addr) (gn1 gc1 gn2 gc2 : Nat) (o1 o2 bM bU bR bG : Bool) (w : World) (cM : ∀ W, Below w.heap.size w W → Calls Tryd.prog 46 #[m1, m2] W (RetB bM W)) (cU : ∀ W, Below w.heap.size w W → Calls Tryd.prog 47 #[u1, u2] W (RetB bU W)) (cR : ∀ W, Below w.heap.size w W → Calls Tryd.prog 47 #[r1, r2] W (RetB bR W)) (cG : ∀ W, Below w.heap.size w W → Calls Tryd.prog 48 #[.agg #[(.slice ga1 gn1 gc1)], .agg #[(.slice ga2 gn2 gc2)]] W (RetB bG W)) :
    Calls Tryd.prog 15 #[staV t1 m1 u1 r1 o1 (.slice ga1 gn1 gc1), staV t2 m2 u2 r2 o2 (.slice ga2 gn2 gc2)] w (RetB (decide (t1 = t2) && (bM && (bU && (bR && (decide (o1 = o2) && bG))))) w) := by
  have hX := TwoS.new w (.string t1) m1 u1 r1 (.bool o1) (.slice ga1 gn1 gc1) (.string t2) m2 u2 r2 (.bool o2) (.slice ga2 gn2 gc2) 26
  obtain ⟨wX, hwX⟩ : ∃ wX, (w.alloc (.cells #[.string t1, m1, u1, r1, .bool o1, (.slice ga1 gn1 gc1)] 26)).alloc (.cells #[.string t2, m2, u2, r2, .bool o2, (.slice ga2 gn2 gc2)] 26) = wX := ⟨_, rfl⟩
  rw [hwX] at hX
  have HX := Lib.hid hX; have CM := Lib.hid cM; have CU := Lib.hid cU; have CR := Lib.hid cR; have CG := Lib.hid cG
  have p0 := hX.p.x0; have q0 := hX.q.x0
  have p1 := hX.p.x1; have q1 := hX.q.x1
  have p2 := hX.p.x2; have q2 := hX.q.x2
  have p3 := hX.p.x3; have q3 := hX.q.x3
  have p4 := hX.p.x4; have q4 := hX.q.x4
  have p5 := hX.p.x5; have q5 := hX.q.x5
  clear hX cM cU cR cG
  by_cases ht : t1 = t2
  case neg =>
    rw [decide_eq_false ht, Bool.false_and]
    have g0 := str_ne ht
    clear ht
    go_enter Tryd.func15, Tryd.ntmps15
    go_wp2
    go_ret
    exact ⟨rfl, HX.out.below⟩
  subst ht
  rw [decide_eq_true rfl, Bool.true_and]
  cases bM
  · rw [Bool.false_and]
    go_enter Tryd.func15, Tryd.ntmps15
    go_wp2_with (first
      | (go_at_call 46; (with_reducible refine (CM.out _ HX.out.below).mono ?_); rintro e w1 ⟨rfl, hb1⟩; have HT1 := Lib.hid (HX.out.on hb1); clear hb1 p0 p1 p2 p3 p4 p5 q0 q1 q2 q3 q4 q5; have p0 := HT1.out.p.x0; have q0 := HT1.out.q.x0; have p1 := HT1.out.p.x1; have q1 := HT1.out.q.x1; have p2 := HT1.out.p.x2; have q2 := HT1.out.q.x2; have p3 := HT1.out.p.x3; have q3 := HT1.out.q.x3; have p4 := HT1.out.p.x4; have q4 := HT1.out.q.x4; have p5 := HT1.out.p.x5; have q5 := HT1.out.q.x5))
    go_ret
    exact ⟨rfl, HT1.out.below⟩
  rw [Bool.true_and]
  cases bU
  · rw [Bool.false_and]
    go_enter Tryd.func15, Tryd.ntmps15
    go_wp2_with (first
      | (go_at_call 46; (with_reducible refine (CM.out _ HX.out.below).mono ?_); rintro e w1 ⟨rfl, hb1⟩; have HT1 := Lib.hid (HX.out.on hb1); clear hb1 p0 p1 p2 p3 p4 p5 q0 q1 q2 q3 q4 q5; have p0 := HT1.out.p.x0; have q0 := HT1.out.q.x0; have p1 := HT1.out.p.x1; have q1 := HT1.out.q.x1; have p2 := HT1.out.p.x2; have q2 := HT1.out.q.x2; have p3 := HT1.out.p.x3; have q3 := HT1.out.q.x3; have p4 := HT1.out.p.x4; have q4 := HT1.out.q.x4; have p5 := HT1.out.p.x5; have q5 := HT1.out.q.x5)
      | (go_at_call 47; (with_reducible refine (CU.out _ HT1.out.below).mono ?_); rintro e w2 ⟨rfl, hb1⟩; have HT2 := Lib.hid (HT1.out.on hb1); clear hb1 p0 p1 p2 p3 p4 p5 q0 q1 q2 q3 q4 q5; have p0 := HT2.out.p.x0; have q0 := HT2.out.q.x0; have p1 := HT2.out.p.x1; have q1 := HT2.out.q.x1; have p2 := HT2.out.p.x2; have q2 := HT2.out.q.x2; have p3 := HT2.out.p.x3; have q3 := HT2.out.q.x3; have p4 := HT2.out.p.x4; have q4 := HT2.out.q.x4; have p5 := HT2.out.p.x5; have q5 := HT2.out.q.x5))
    go_ret
    exact ⟨rfl, HT2.out.below⟩
  rw [Bool.true_and]
  cases bR
  · rw [Bool.false_and]
    go_enter Tryd.func15, Tryd.ntmps15
    go_wp2_with (first
      | (go_at_call 46; (with_reducible refine (CM.out _ HX.out.below).mono ?_); rintro e w1 ⟨rfl, hb1⟩; have HT1 := Lib.hid (HX.out.on hb1); clear hb1 p0 p1 p2 p3 p4 p5 q0 q1 q2 q3 q4 q5; have p0 := HT1.out.p.x0; have q0 := HT1.out.q.x0; have p1 := HT1.out.p.x1; have q1 := HT1.out.q.x1; have p2 := HT1.out.p.x2; have q2 := HT1.out.q.x2; have p3 := HT1.out.p.x3; have q3 := HT1.out.q.x3; have p4 := HT1.out.p.x4; have q4 := HT1.out.q.x4; have p5 := HT1.out.p.x5; have q5 := HT1.out.q.x5)
      | (go_at_call 47; (with_reducible refine (CU.out _ HT1.out.below).mono ?_); rintro e w2 ⟨rfl, hb1⟩; have HT2 := Lib.hid (HT1.out.on hb1); clear hb1 p0 p1 p2 p3 p4 p5 q0 q1 q2 q3 q4 q5; have p0 := HT2.out.p.x0; have q0 := HT2.out.q.x0; have p1 := HT2.out.p.x1; have q1 := HT2.out.q.x1; have p2 := HT2.out.p.x2; have q2 := HT2.out.q.x2; have p3 := HT2.out.p.x3; have q3 := HT2.out.q.x3; have p4 := HT2.out.p.x4; have q4 := HT2.out.q.x4; have p5 := HT2.out.p.x5; have q5 := HT2.out.q.x5)
      | (go_at_call 47; (with_reducible refine (CR.out _ HT2.out.below).mono ?_); rintro e w3 ⟨rfl, hb1⟩; have HT3 := Lib.hid (HT2.out.on hb1); clear hb1 p0 p1 p2 p3 p4 p5 q0 q1 q2 q3 q4 q5; have p0 := HT3.out.p.x0; have q0 := HT3.out.q.x0; have p1 := HT3.out.p.x1; have q1 := HT3.out.q.x1; have p2 := HT3.out.p.x2; have q2 := HT3.out.q.x2; have p3 := HT3.out.p.x3; have q3 := HT3.out.q.x3; have p4 := HT3.out.p.x4; have q4 := HT3.out.q.x4; have p5 := HT3.out.p.x5; have q5 := HT3.out.q.x5))
    go_ret
    exact ⟨rfl, HT3.out.below⟩
  rw [Bool.true_and]
  cases o1 <;> cases o2
  case false.true =>
    rw [show decide (false = true) = false from rfl, Bool.false_and]
    go_enter Tryd.func15, Tryd.ntmps15
    go_wp2_with (first
      | (go_at_call 46; (with_reducible refine (CM.out _ HX.out.below).mono ?_); rintro e w1 ⟨rfl, hb1⟩; have HT1 := Lib.hid (HX.out.on hb1); clear hb1 p0 p1 p2 p3 p4 p5 q0 q1 q2 q3 q4 q5; have p0 := HT1.out.p.x0; have q0 := HT1.out.q.x0; have p1 := HT1.out.p.x1; have q1 := HT1.out.q.x1; have p2 := HT1.out.p.x2; have q2 := HT1.out.q.x2; have p3 := HT1.out.p.x3; have q3 := HT1.out.q.x3; have p4 := HT1.out.p.x4; have q4 := HT1.out.q.x4; have p5 := HT1.out.p.x5; have q5 := HT1.out.q.x5)
      | (go_at_call 47; (with_reducible refine (CU.out _ HT1.out.below).mono ?_); rintro e w2 ⟨rfl, hb1⟩; have HT2 := Lib.hid (HT1.out.on hb1); clear hb1 p0 p1 p2 p3 p4 p5 q0 q1 q2 q3 q4 q5; have p0 := HT2.out.p.x0; have q0 := HT2.out.q.x0; have p1 := HT2.out.p.x1; have q1 := HT2.out.q.x1; have p2 := HT2.out.p.x2; have q2 := HT2.out.q.x2; have p3 := HT2.out.p.x3; have q3 := HT2.out.q.x3; have p4 := HT2.out.p.x4; have q4 := HT2.out.q.x4; have p5 := HT2.out.p.x5; have q5 := HT2.out.q.x5)
      | (go_at_call 47; (with_reducible refine (CR.out _ HT2.out.below).mono ?_); rintro e w3 ⟨rfl, hb1⟩; have HT3 := Lib.hid (HT2.out.on hb1); clear hb1 p0 p1 p2 p3 p4 p5 q0 q1 q2 q3 q4 q5; have p0 := HT3.out.p.x0; have q0 := HT3.out.q.x0; have p1 := HT3.out.p.x1; have q1 := HT3.out.q.x1; have p2 := HT3.out.p.x2; have q2 := HT3.out.q.x2; have p3 := HT3.out.p.x3; have q3 := HT3.out.q.x3; have p4 := HT3.out.p.x4; have q4 := HT3.out.q.x4; have p5 := HT3.out.p.x5; have q5 := HT3.out.q.x5))
    go_ret
    exact ⟨rfl, HT3.out.below⟩
  case true.false =>
    rw [show decide (true = false) = false from rfl, Bool.false_and]
    go_enter Tryd.func15, Tryd.ntmps15
    go_wp2_with (first
      | (go_at_call 46; (with_reducible refine (CM.out _ HX.out.below).mono ?_); rintro e w1 ⟨rfl, hb1⟩; have HT1 := Lib.hid (HX.out.on hb1); clear hb1 p0 p1 p2 p3 p4 p5 q0 q1 q2 q3 q4 q5; have p0 := HT1.out.p.x0; have q0 := HT1.out.q.x0; have p1 := HT1.out.p.x1; have q1 := HT1.out.q.x1; have p2 := HT1.out.p.x2; have q2 := HT1.out.q.x2; have p3 := HT1.out.p.x3; have q3 := HT1.out.q.x3; have p4 := HT1.out.p.x4; have q4 := HT1.out.q.x4; have p5 := HT1.out.p.x5; have q5 := HT1.out.q.x5)
      | (go_at_call 47; (with_reducible refine (CU.out _ HT1.out.below).mono ?_); rintro e w2 ⟨rfl, hb1⟩; have HT2 := Lib.hid (HT1.out.on hb1); clear hb1 p0 p1 p2 p3 p4 p5 q0 q1 q2 q3 q4 q5; have p0 := HT2.out.p.x0; have q0 := HT2.out.q.x0; have p1 := HT2.out.p.x1; have q1 := HT2.out.q.x1; have p2 := HT2.out.p.x2; have q2 := HT2.out.q.x2; have p3 := HT2.out.p.x3; have q3 := HT2.out.q.x3; have p4 := HT2.out.p.x4; have q4 := HT2.out.q.x4; have p5 := HT2.out.p.x5; have q5 := HT2.out.q.x5)
      | (go_at_call 47; (with_reducible refine (CR.out _ HT2.out.below).mono ?_); rintro e w3 ⟨rfl, hb1⟩; have HT3 := Lib.hid (HT2.out.on hb1); clear hb1 p0 p1 p2 p3 p4 p5 q0 q1 q2 q3 q4 q5; have p0 := HT3.out.p.x0; have q0 := HT3.out.q.x0; have p1 := HT3.out.p.x1; have q1 := HT3.out.q.x1; have p2 := HT3.out.p.x2; have q2 := HT3.out.q.x2; have p3 := HT3.out.p.x3; have q3 := HT3.out.q.x3; have p4 := HT3.out.p.x4; have q4 := HT3.out.q.x4; have p5 := HT3.out.p.x5; have q5 := HT3.out.q.x5))
    go_ret
    exact ⟨rfl, HT3.out.below⟩
  all_goals
    rw [decide_eq_true rfl, Bool.true_and]
    go_enter Tryd.func15, Tryd.ntmps15
    go_wp2_with (first
      | (go_at_call 46; (with_reducible refine (CM.out _ HX.out.below).mono ?_); rintro e w1 ⟨rfl, hb1⟩; have HT1 := Lib.hid (HX.out.on hb1); clear hb1 p0 p1 p2 p3 p4 p5 q0 q1 q2 q3 q4 q5; have p0 := HT1.out.p.x0; have q0 := HT1.out.q.x0; have p1 := HT1.out.p.x1; have q1 := HT1.out.q.x1; have p2 := HT1.out.p.x2; have q2 := HT1.out.q.x2; have p3 := HT1.out.p.x3; have q3 := HT1.out.q.x3; have p4 := HT1.out.p.x4; have q4 := HT1.out.q.x4; have p5 := HT1.out.p.x5; have q5 := HT1.out.q.x5)
      | (go_at_call 47; (with_reducible refine (CU.out _ HT1.out.below).mono ?_); rintro e w2 ⟨rfl, hb1⟩; have HT2 := Lib.hid (HT1.out.on hb1); clear hb1 p0 p1 p2 p3 p4 p5 q0 q1 q2 q3 q4 q5; have p0 := HT2.out.p.x0; have q0 := HT2.out.q.x0; have p1 := HT2.out.p.x1; have q1 := HT2.out.q.x1; have p2 := HT2.out.p.x2; have q2 := HT2.out.q.x2; have p3 := HT2.out.p.x3; have q3 := HT2.out.q.x3; have p4 := HT2.out.p.x4; have q4 := HT2.out.q.x4; have p5 := HT2.out.p.x5; have q5 := HT2.out.q.x5)
      | (go_at_call 47; (with_reducible refine (CR.out _ HT2.out.below).mono ?_); rintro e w3 ⟨rfl, hb1⟩; have HT3 := Lib.hid (HT2.out.on hb1); clear hb1 p0 p1 p2 p3 p4 p5 q0 q1 q2 q3 q4 q5; have p0 := HT3.out.p.x0; have q0 := HT3.out.q.x0; have p1 := HT3.out.p.x1; have q1 := HT3.out.q.x1; have p2 := HT3.out.p.x2; have q2 := HT3.out.q.x2; have p3 := HT3.out.p.x3; have q3 := HT3.out.q.x3; have p4 := HT3.out.p.x4; have q4 := HT3.out.q.x4; have p5 := HT3.out.p.x5; have q5 := HT3.out.q.x5)
      | (go_at_call 48; refine (CG.out _ HT3.out.below).mono ?_; rintro e w4 ⟨rfl, hb1⟩; have HT4 := Lib.hid (HT3.out.on hb1); clear hb1 p0 p1 p2 p3 p4 p5 q0 q1 q2 q3 q4 q5; have p0 := HT4.out.p.x0; have q0 := HT4.out.q.x0; have p1 := HT4.out.p.x1; have q1 := HT4.out.q.x1; have p2 := HT4.out.p.x2; have q2 := HT4.out.q.x2; have p3 := HT4.out.p.x3; have q3 := HT4.out.q.x3; have p4 := HT4.out.p.x4; have q4 := HT4.out.q.x4; have p5 := HT4.out.p.x5; have q5 := HT4.out.q.x5))
    go_ret
    exact ⟨rfl, HT4.out.below⟩
end Go.Proofs.YtbdfglalohgahaaDoor
