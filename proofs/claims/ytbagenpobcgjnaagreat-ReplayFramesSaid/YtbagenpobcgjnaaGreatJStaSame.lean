/-
  Joined: StaSame, StaSame2.
-/
import Derived.Test.YtbagenpobcgjnaaGreatJMarkCat
import Derived.Test.YtbagenpobcgjnaaGreatJStkRef2
open Bool renaming false_and->zp,true_and->zu
open Go renaming Calls->zt,World->zn
open Go.Value renaming bool->zq,slice->zo,string->zv
namespace Go.Proofs.YtbagenpobcgjnaaGreat
open Go.RowKit
set_option linter.unusedVariables false
set_option linter.unusedSimpArgs false
theorem ns (w:zn) (o:Obj):Below w w (w.alloc o):=(Below.refl _ w).alloc (Nat.le_refl _) o
theorem qk (w:zn) (o o2:Obj):Below w w ((w.alloc o).alloc o2):=(ns w o).alloc li o2
theorem yX {w w1:zn} {o:Obj} (hb:Below (w.alloc o) (w.alloc o) w1):Below w w w1:=(ns w o).trans (hb.mono li)
open Go.Proofs.Tryz
set_option maxRecDepth 100000
open Lib (hid)
def wp (b:Bool) (w:zn) (e:Ending) (w':zn):Prop:=e=.returned (zq b)∧Below w w w'
structure ze (w:zn) (t m u r o g t2 m2 u2 r2 o2 g2:Value) (W:zn):Prop where
 below:Below w w W
 p:ur w t m u r o g W
 q:ur (w+1) t2 m2 u2 r2 o2 g2 W
theorem ze.new (w:zn) (t m u r o g t2 m2 u2 r2 o2 g2:Value) (T:TypeId):ze w t m u r o g t2 m2 u2 r2 o2 g2 ((w.alloc (.cells #[t,m,u,r,o,g] T)).alloc (.cells #[t2,m2,u2,r2,o2,g2] T)):=by
 refine ⟨qk _ _ _,(ur.new w t m u r o g T).on (ns _ _) li,?_⟩;have:=ur.new (w.alloc (.cells #[t,m,u,r,o,g] T)) t2 m2 u2 r2 o2 g2 T;rwa [World.size_alloc] at this
theorem ze.on {w W W2:zn} {t m u r o g t2 m2 u2 r2 o2 g2:Value} (h:ze w t m u r o g t2 m2 u2 r2 o2 g2 W) (hb:Below W W W2):ze w t m u r o g t2 m2 u2 r2 o2 g2 W2:=
 ⟨h.below.trans (hb.mono h.below.size),h.p.on hb h.p.lt,h.q.on hb h.q.lt⟩
set_option maxHeartbeats 3200000 in
theorem GV (t1 t2:ByteArray) (m1 u1 r1 m2 u2 r2:Value) (ga1 ga2:Option Addr) (gn1 gc1 gn2 gc2:Nat) (o1 o2 bM bU bR bG:Bool) (w:zn) (cM:∀ W,Below w w W→zt prog 23 #[m1,m2] W (wp bM W)) (cU:∀ W,Below w w W→zt prog 24 #[u1,u2] W (wp bU W)) (cR:∀ W,Below w w W→zt prog 24 #[r1,r2] W (wp bR W)) (cG:∀ W,Below w w W→zt prog 25 #[.agg #[(zo ga1 gn1 gc1)],.agg #[(zo ga2 gn2 gc2)]] W (wp bG W)) :
 zt prog 12 #[x8 t1 m1 u1 r1 o1 (zo ga1 gn1 gc1),x8 t2 m2 u2 r2 o2 (zo ga2 gn2 gc2)] w (wp (decide (t1=t2) && (bM && (bU && (bR && (decide (o1=o2) && bG))))) w):=by
 have hX:=ze.new w (zv t1) m1 u1 r1 (zq o1) (zo ga1 gn1 gc1) (zv t2) m2 u2 r2 (zq o2) (zo ga2 gn2 gc2) 26;obtain ⟨wX,hwX⟩:∃ wX,(w.alloc (.cells #[zv t1,m1,u1,r1,zq o1,(zo ga1 gn1 gc1)] 26)).alloc (.cells #[zv t2,m2,u2,r2,zq o2,(zo ga2 gn2 gc2)] 26)=wX:=⟨_,rfl⟩;rw [hwX] at hX;have HX:=hid hX;have CM:=hid cM;have CU:=hid cU;have CR:=hid cR;have CG:=hid cG;have p0:=hX.p.x0;have q0:=hX.q.x0;have p1:=hX.p.x1;have q1:=hX.q.x1;have p2:=hX.p.x2;have q2:=hX.q.x2;have p3:=hX.p.x3;have q3:=hX.q.x3;have p4:=hX.p.x4;have q4:=hX.q.x4;have p5:=hX.p.x5;have q5:=hX.q.x5;clear hX cM cU cR cG;by_cases ht:t1=t2
 case neg =>
  rw [decide_eq_false ht,zp];have g0:=dQ ht;clear ht;go_enter func12,ntmps12;go_wp2;go_ret;exact ⟨rfl,HX.out.below⟩
 subst ht;rw [decide_eq_true rfl,zu];cases bM
 ·rw [zp];go_enter func12,ntmps12;go_wp2_with (first
   | (go_at_call 23;(with_reducible refine (CM.out _ HX.out.below).mono ?_);rintro e w1 ⟨rfl,ad⟩;have aa:=hid (HX.out.on ad);clear ad p0 p1 p2 p3 p4 p5 q0 q1 q2 q3 q4 q5;have p0:=aa.out.p.x0;have q0:=aa.out.q.x0;have p1:=aa.out.p.x1;have q1:=aa.out.q.x1;have p2:=aa.out.p.x2;have q2:=aa.out.q.x2;have p3:=aa.out.p.x3;have q3:=aa.out.q.x3;have p4:=aa.out.p.x4;have q4:=aa.out.q.x4;have p5:=aa.out.p.x5;have q5:=aa.out.q.x5))
  go_ret;exact ⟨rfl,aa.out.below⟩
 rw [zu];cases bU
 ·rw [zp];go_enter func12,ntmps12;go_wp2_with (first
   | (go_at_call 23;(with_reducible refine (CM.out _ HX.out.below).mono ?_);rintro e w1 ⟨rfl,ad⟩;have aa:=hid (HX.out.on ad);clear ad p0 p1 p2 p3 p4 p5 q0 q1 q2 q3 q4 q5;have p0:=aa.out.p.x0;have q0:=aa.out.q.x0;have p1:=aa.out.p.x1;have q1:=aa.out.q.x1;have p2:=aa.out.p.x2;have q2:=aa.out.q.x2;have p3:=aa.out.p.x3;have q3:=aa.out.q.x3;have p4:=aa.out.p.x4;have q4:=aa.out.q.x4;have p5:=aa.out.p.x5;have q5:=aa.out.q.x5)
   | (go_at_call 24;(with_reducible refine (CU.out _ aa.out.below).mono ?_);rintro e w2 ⟨rfl,ad⟩;have ab:=hid (aa.out.on ad);clear ad p0 p1 p2 p3 p4 p5 q0 q1 q2 q3 q4 q5;have p0:=ab.out.p.x0;have q0:=ab.out.q.x0;have p1:=ab.out.p.x1;have q1:=ab.out.q.x1;have p2:=ab.out.p.x2;have q2:=ab.out.q.x2;have p3:=ab.out.p.x3;have q3:=ab.out.q.x3;have p4:=ab.out.p.x4;have q4:=ab.out.q.x4;have p5:=ab.out.p.x5;have q5:=ab.out.q.x5))
  go_ret;exact ⟨rfl,ab.out.below⟩
 rw [zu];cases bR
 ·rw [zp];go_enter func12,ntmps12;go_wp2_with (first
   | (go_at_call 23;(with_reducible refine (CM.out _ HX.out.below).mono ?_);rintro e w1 ⟨rfl,ad⟩;have aa:=hid (HX.out.on ad);clear ad p0 p1 p2 p3 p4 p5 q0 q1 q2 q3 q4 q5;have p0:=aa.out.p.x0;have q0:=aa.out.q.x0;have p1:=aa.out.p.x1;have q1:=aa.out.q.x1;have p2:=aa.out.p.x2;have q2:=aa.out.q.x2;have p3:=aa.out.p.x3;have q3:=aa.out.q.x3;have p4:=aa.out.p.x4;have q4:=aa.out.q.x4;have p5:=aa.out.p.x5;have q5:=aa.out.q.x5)
   | (go_at_call 24;(with_reducible refine (CU.out _ aa.out.below).mono ?_);rintro e w2 ⟨rfl,ad⟩;have ab:=hid (aa.out.on ad);clear ad p0 p1 p2 p3 p4 p5 q0 q1 q2 q3 q4 q5;have p0:=ab.out.p.x0;have q0:=ab.out.q.x0;have p1:=ab.out.p.x1;have q1:=ab.out.q.x1;have p2:=ab.out.p.x2;have q2:=ab.out.q.x2;have p3:=ab.out.p.x3;have q3:=ab.out.q.x3;have p4:=ab.out.p.x4;have q4:=ab.out.q.x4;have p5:=ab.out.p.x5;have q5:=ab.out.q.x5)
   | (go_at_call 24;(with_reducible refine (CR.out _ ab.out.below).mono ?_);rintro e w3 ⟨rfl,ad⟩;have ac:=hid (ab.out.on ad);clear ad p0 p1 p2 p3 p4 p5 q0 q1 q2 q3 q4 q5;have p0:=ac.out.p.x0;have q0:=ac.out.q.x0;have p1:=ac.out.p.x1;have q1:=ac.out.q.x1;have p2:=ac.out.p.x2;have q2:=ac.out.q.x2;have p3:=ac.out.p.x3;have q3:=ac.out.q.x3;have p4:=ac.out.p.x4;have q4:=ac.out.q.x4;have p5:=ac.out.p.x5;have q5:=ac.out.q.x5))
  go_ret;exact ⟨rfl,ac.out.below⟩
 rw [zu];cases o1 <;> cases o2
 case false.true =>
  rw [show decide (false=true)=false from rfl,zp];go_enter func12,ntmps12;go_wp2_with (first
   | (go_at_call 23;(with_reducible refine (CM.out _ HX.out.below).mono ?_);rintro e w1 ⟨rfl,ad⟩;have aa:=hid (HX.out.on ad);clear ad p0 p1 p2 p3 p4 p5 q0 q1 q2 q3 q4 q5;have p0:=aa.out.p.x0;have q0:=aa.out.q.x0;have p1:=aa.out.p.x1;have q1:=aa.out.q.x1;have p2:=aa.out.p.x2;have q2:=aa.out.q.x2;have p3:=aa.out.p.x3;have q3:=aa.out.q.x3;have p4:=aa.out.p.x4;have q4:=aa.out.q.x4;have p5:=aa.out.p.x5;have q5:=aa.out.q.x5)
   | (go_at_call 24;(with_reducible refine (CU.out _ aa.out.below).mono ?_);rintro e w2 ⟨rfl,ad⟩;have ab:=hid (aa.out.on ad);clear ad p0 p1 p2 p3 p4 p5 q0 q1 q2 q3 q4 q5;have p0:=ab.out.p.x0;have q0:=ab.out.q.x0;have p1:=ab.out.p.x1;have q1:=ab.out.q.x1;have p2:=ab.out.p.x2;have q2:=ab.out.q.x2;have p3:=ab.out.p.x3;have q3:=ab.out.q.x3;have p4:=ab.out.p.x4;have q4:=ab.out.q.x4;have p5:=ab.out.p.x5;have q5:=ab.out.q.x5)
   | (go_at_call 24;(with_reducible refine (CR.out _ ab.out.below).mono ?_);rintro e w3 ⟨rfl,ad⟩;have ac:=hid (ab.out.on ad);clear ad p0 p1 p2 p3 p4 p5 q0 q1 q2 q3 q4 q5;have p0:=ac.out.p.x0;have q0:=ac.out.q.x0;have p1:=ac.out.p.x1;have q1:=ac.out.q.x1;have p2:=ac.out.p.x2;have q2:=ac.out.q.x2;have p3:=ac.out.p.x3;have q3:=ac.out.q.x3;have p4:=ac.out.p.x4;have q4:=ac.out.q.x4;have p5:=ac.out.p.x5;have q5:=ac.out.q.x5))
  go_ret;exact ⟨rfl,ac.out.below⟩
 case true.false =>
  rw [show decide (true=false)=false from rfl,zp];go_enter func12,ntmps12;go_wp2_with (first
   | (go_at_call 23;(with_reducible refine (CM.out _ HX.out.below).mono ?_);rintro e w1 ⟨rfl,ad⟩;have aa:=hid (HX.out.on ad);clear ad p0 p1 p2 p3 p4 p5 q0 q1 q2 q3 q4 q5;have p0:=aa.out.p.x0;have q0:=aa.out.q.x0;have p1:=aa.out.p.x1;have q1:=aa.out.q.x1;have p2:=aa.out.p.x2;have q2:=aa.out.q.x2;have p3:=aa.out.p.x3;have q3:=aa.out.q.x3;have p4:=aa.out.p.x4;have q4:=aa.out.q.x4;have p5:=aa.out.p.x5;have q5:=aa.out.q.x5)
   | (go_at_call 24;(with_reducible refine (CU.out _ aa.out.below).mono ?_);rintro e w2 ⟨rfl,ad⟩;have ab:=hid (aa.out.on ad);clear ad p0 p1 p2 p3 p4 p5 q0 q1 q2 q3 q4 q5;have p0:=ab.out.p.x0;have q0:=ab.out.q.x0;have p1:=ab.out.p.x1;have q1:=ab.out.q.x1;have p2:=ab.out.p.x2;have q2:=ab.out.q.x2;have p3:=ab.out.p.x3;have q3:=ab.out.q.x3;have p4:=ab.out.p.x4;have q4:=ab.out.q.x4;have p5:=ab.out.p.x5;have q5:=ab.out.q.x5)
   | (go_at_call 24;(with_reducible refine (CR.out _ ab.out.below).mono ?_);rintro e w3 ⟨rfl,ad⟩;have ac:=hid (ab.out.on ad);clear ad p0 p1 p2 p3 p4 p5 q0 q1 q2 q3 q4 q5;have p0:=ac.out.p.x0;have q0:=ac.out.q.x0;have p1:=ac.out.p.x1;have q1:=ac.out.q.x1;have p2:=ac.out.p.x2;have q2:=ac.out.q.x2;have p3:=ac.out.p.x3;have q3:=ac.out.q.x3;have p4:=ac.out.p.x4;have q4:=ac.out.q.x4;have p5:=ac.out.p.x5;have q5:=ac.out.q.x5))
  go_ret;exact ⟨rfl,ac.out.below⟩
 all_goals
  rw [decide_eq_true rfl,zu];go_enter func12,ntmps12;go_wp2_with (first
   | (go_at_call 23;(with_reducible refine (CM.out _ HX.out.below).mono ?_);rintro e w1 ⟨rfl,ad⟩;have aa:=hid (HX.out.on ad);clear ad p0 p1 p2 p3 p4 p5 q0 q1 q2 q3 q4 q5;have p0:=aa.out.p.x0;have q0:=aa.out.q.x0;have p1:=aa.out.p.x1;have q1:=aa.out.q.x1;have p2:=aa.out.p.x2;have q2:=aa.out.q.x2;have p3:=aa.out.p.x3;have q3:=aa.out.q.x3;have p4:=aa.out.p.x4;have q4:=aa.out.q.x4;have p5:=aa.out.p.x5;have q5:=aa.out.q.x5)
   | (go_at_call 24;(with_reducible refine (CU.out _ aa.out.below).mono ?_);rintro e w2 ⟨rfl,ad⟩;have ab:=hid (aa.out.on ad);clear ad p0 p1 p2 p3 p4 p5 q0 q1 q2 q3 q4 q5;have p0:=ab.out.p.x0;have q0:=ab.out.q.x0;have p1:=ab.out.p.x1;have q1:=ab.out.q.x1;have p2:=ab.out.p.x2;have q2:=ab.out.q.x2;have p3:=ab.out.p.x3;have q3:=ab.out.q.x3;have p4:=ab.out.p.x4;have q4:=ab.out.q.x4;have p5:=ab.out.p.x5;have q5:=ab.out.q.x5)
   | (go_at_call 24;(with_reducible refine (CR.out _ ab.out.below).mono ?_);rintro e w3 ⟨rfl,ad⟩;have ac:=hid (ab.out.on ad);clear ad p0 p1 p2 p3 p4 p5 q0 q1 q2 q3 q4 q5;have p0:=ac.out.p.x0;have q0:=ac.out.q.x0;have p1:=ac.out.p.x1;have q1:=ac.out.q.x1;have p2:=ac.out.p.x2;have q2:=ac.out.q.x2;have p3:=ac.out.p.x3;have q3:=ac.out.q.x3;have p4:=ac.out.p.x4;have q4:=ac.out.q.x4;have p5:=ac.out.p.x5;have q5:=ac.out.q.x5)
   | (go_at_call 25;refine (CG.out _ ac.out.below).mono ?_;rintro e w4 ⟨rfl,ad⟩;have ae:=hid (ac.out.on ad);clear ad p0 p1 p2 p3 p4 p5 q0 q1 q2 q3 q4 q5;have p0:=ae.out.p.x0;have q0:=ae.out.q.x0;have p1:=ae.out.p.x1;have q1:=ae.out.q.x1;have p2:=ae.out.p.x2;have q2:=ae.out.q.x2;have p3:=ae.out.p.x3;have q3:=ae.out.q.x3;have p4:=ae.out.p.x4;have q4:=ae.out.q.x4;have p5:=ae.out.p.x5;have q5:=ae.out.q.x5))
  go_ret;exact ⟨rfl,ae.out.below⟩
end Go.Proofs.YtbagenpobcgjnaaGreat
