/-
  Joined: StaSame, StaSame2.
-/
import Derived.Test.YtbagenpobcgjnaaGreatJMarkCat
import Derived.Test.YtbagenpobcgjnaaGreatJStkRef2
open Bool renaming false_and->yz,true_and->zg
open Go renaming Calls->zf,World->yx
open Go.Value renaming bool->zd,slice->yy,string->zh
namespace Go.Proofs.YtbagenpobcgjnaaGreat
open Go.RowKit
set_option linter.unusedVariables false
set_option linter.unusedSimpArgs false
theorem ni (w:yx) (o:Obj):Below w w (w.alloc o):=(Below.refl _ w).alloc (Nat.le_refl _) o
theorem qj (w:yx) (o o2:Obj):Below w w ((w.alloc o).alloc o2):=(ni w o).alloc lh o2
theorem uX {w w1:yx} {o:Obj} (hb:Below (w.alloc o) (w.alloc o) w1):Below w w w1:=(ni w o).trans (hb.mono lh)
open Go.Proofs.Tryz
set_option maxRecDepth 100000
open Lib (hid)
def wb (b:Bool) (w:yx) (e:Ending) (w':yx):Prop:=e=.returned (zd b)∧Below w w w'
structure yn (w:yx) (t m u r o g t2 m2 u2 r2 o2 g2:Value) (W:yx):Prop where
 below:Below w w W
 p:tw w t m u r o g W
 q:tw (w+1) t2 m2 u2 r2 o2 g2 W
theorem yn.new (w:yx) (t m u r o g t2 m2 u2 r2 o2 g2:Value) (T:TypeId):yn w t m u r o g t2 m2 u2 r2 o2 g2 ((w.alloc (.cells #[t,m,u,r,o,g] T)).alloc (.cells #[t2,m2,u2,r2,o2,g2] T)):=by
 refine ⟨qj _ _ _,(tw.new w t m u r o g T).on (ni _ _) lh,?_⟩;have:=tw.new (w.alloc (.cells #[t,m,u,r,o,g] T)) t2 m2 u2 r2 o2 g2 T;rwa [World.size_alloc] at this
theorem yn.on {w W W2:yx} {t m u r o g t2 m2 u2 r2 o2 g2:Value} (h:yn w t m u r o g t2 m2 u2 r2 o2 g2 W) (hb:Below W W W2):yn w t m u r o g t2 m2 u2 r2 o2 g2 W2:=
 ⟨h.below.trans (hb.mono h.below.size),h.p.on hb h.p.lt,h.q.on hb h.q.lt⟩
set_option maxHeartbeats 3200000 in
theorem DV (t1 t2:ByteArray) (m1 u1 r1 m2 u2 r2:Value) (ga1 ga2:Option Addr) (gn1 gc1 gn2 gc2:Nat) (o1 o2 bM bU bR bG:Bool) (w:yx) (cM:∀ W,Below w w W→zf prog 23 #[m1,m2] W (wb bM W)) (cU:∀ W,Below w w W→zf prog 24 #[u1,u2] W (wb bU W)) (cR:∀ W,Below w w W→zf prog 24 #[r1,r2] W (wb bR W)) (cG:∀ W,Below w w W→zf prog 25 #[.agg #[(yy ga1 gn1 gc1)],.agg #[(yy ga2 gn2 gc2)]] W (wb bG W)) :
 zf prog 12 #[xj t1 m1 u1 r1 o1 (yy ga1 gn1 gc1),xj t2 m2 u2 r2 o2 (yy ga2 gn2 gc2)] w (wb (decide (t1=t2) && (bM && (bU && (bR && (decide (o1=o2) && bG))))) w):=by
 have hX:=yn.new w (zh t1) m1 u1 r1 (zd o1) (yy ga1 gn1 gc1) (zh t2) m2 u2 r2 (zd o2) (yy ga2 gn2 gc2) 26;obtain ⟨wX,hwX⟩:∃ wX,(w.alloc (.cells #[zh t1,m1,u1,r1,zd o1,(yy ga1 gn1 gc1)] 26)).alloc (.cells #[zh t2,m2,u2,r2,zd o2,(yy ga2 gn2 gc2)] 26)=wX:=⟨_,rfl⟩;rw [hwX] at hX;have HX:=hid hX;have CM:=hid cM;have CU:=hid cU;have CR:=hid cR;have CG:=hid cG;have p0:=hX.p.x0;have q0:=hX.q.x0;have p1:=hX.p.x1;have q1:=hX.q.x1;have p2:=hX.p.x2;have q2:=hX.q.x2;have p3:=hX.p.x3;have q3:=hX.q.x3;have p4:=hX.p.x4;have q4:=hX.q.x4;have p5:=hX.p.x5;have q5:=hX.q.x5;clear hX cM cU cR cG;by_cases ht:t1=t2
 case neg =>
  rw [decide_eq_false ht,yz];have g0:=dG ht;clear ht;go_enter func12,ntmps12;go_wp2;go_ret;exact ⟨rfl,HX.out.below⟩
 subst ht;rw [decide_eq_true rfl,zg];cases bM
 ·rw [yz];go_enter func12,ntmps12;go_wp2_with (first
   | (go_at_call 23;(with_reducible refine (CM.out _ HX.out.below).mono ?_);rintro e w1 ⟨rfl,ad⟩;have aa:=hid (HX.out.on ad);clear ad p0 p1 p2 p3 p4 p5 q0 q1 q2 q3 q4 q5;have p0:=aa.out.p.x0;have q0:=aa.out.q.x0;have p1:=aa.out.p.x1;have q1:=aa.out.q.x1;have p2:=aa.out.p.x2;have q2:=aa.out.q.x2;have p3:=aa.out.p.x3;have q3:=aa.out.q.x3;have p4:=aa.out.p.x4;have q4:=aa.out.q.x4;have p5:=aa.out.p.x5;have q5:=aa.out.q.x5))
  go_ret;exact ⟨rfl,aa.out.below⟩
 rw [zg];cases bU
 ·rw [yz];go_enter func12,ntmps12;go_wp2_with (first
   | (go_at_call 23;(with_reducible refine (CM.out _ HX.out.below).mono ?_);rintro e w1 ⟨rfl,ad⟩;have aa:=hid (HX.out.on ad);clear ad p0 p1 p2 p3 p4 p5 q0 q1 q2 q3 q4 q5;have p0:=aa.out.p.x0;have q0:=aa.out.q.x0;have p1:=aa.out.p.x1;have q1:=aa.out.q.x1;have p2:=aa.out.p.x2;have q2:=aa.out.q.x2;have p3:=aa.out.p.x3;have q3:=aa.out.q.x3;have p4:=aa.out.p.x4;have q4:=aa.out.q.x4;have p5:=aa.out.p.x5;have q5:=aa.out.q.x5)
   | (go_at_call 24;(with_reducible refine (CU.out _ aa.out.below).mono ?_);rintro e w2 ⟨rfl,ad⟩;have ab:=hid (aa.out.on ad);clear ad p0 p1 p2 p3 p4 p5 q0 q1 q2 q3 q4 q5;have p0:=ab.out.p.x0;have q0:=ab.out.q.x0;have p1:=ab.out.p.x1;have q1:=ab.out.q.x1;have p2:=ab.out.p.x2;have q2:=ab.out.q.x2;have p3:=ab.out.p.x3;have q3:=ab.out.q.x3;have p4:=ab.out.p.x4;have q4:=ab.out.q.x4;have p5:=ab.out.p.x5;have q5:=ab.out.q.x5))
  go_ret;exact ⟨rfl,ab.out.below⟩
 rw [zg];cases bR
 ·rw [yz];go_enter func12,ntmps12;go_wp2_with (first
   | (go_at_call 23;(with_reducible refine (CM.out _ HX.out.below).mono ?_);rintro e w1 ⟨rfl,ad⟩;have aa:=hid (HX.out.on ad);clear ad p0 p1 p2 p3 p4 p5 q0 q1 q2 q3 q4 q5;have p0:=aa.out.p.x0;have q0:=aa.out.q.x0;have p1:=aa.out.p.x1;have q1:=aa.out.q.x1;have p2:=aa.out.p.x2;have q2:=aa.out.q.x2;have p3:=aa.out.p.x3;have q3:=aa.out.q.x3;have p4:=aa.out.p.x4;have q4:=aa.out.q.x4;have p5:=aa.out.p.x5;have q5:=aa.out.q.x5)
   | (go_at_call 24;(with_reducible refine (CU.out _ aa.out.below).mono ?_);rintro e w2 ⟨rfl,ad⟩;have ab:=hid (aa.out.on ad);clear ad p0 p1 p2 p3 p4 p5 q0 q1 q2 q3 q4 q5;have p0:=ab.out.p.x0;have q0:=ab.out.q.x0;have p1:=ab.out.p.x1;have q1:=ab.out.q.x1;have p2:=ab.out.p.x2;have q2:=ab.out.q.x2;have p3:=ab.out.p.x3;have q3:=ab.out.q.x3;have p4:=ab.out.p.x4;have q4:=ab.out.q.x4;have p5:=ab.out.p.x5;have q5:=ab.out.q.x5)
   | (go_at_call 24;(with_reducible refine (CR.out _ ab.out.below).mono ?_);rintro e w3 ⟨rfl,ad⟩;have ac:=hid (ab.out.on ad);clear ad p0 p1 p2 p3 p4 p5 q0 q1 q2 q3 q4 q5;have p0:=ac.out.p.x0;have q0:=ac.out.q.x0;have p1:=ac.out.p.x1;have q1:=ac.out.q.x1;have p2:=ac.out.p.x2;have q2:=ac.out.q.x2;have p3:=ac.out.p.x3;have q3:=ac.out.q.x3;have p4:=ac.out.p.x4;have q4:=ac.out.q.x4;have p5:=ac.out.p.x5;have q5:=ac.out.q.x5))
  go_ret;exact ⟨rfl,ac.out.below⟩
 rw [zg];cases o1 <;> cases o2
 case false.true =>
  rw [show decide (false=true)=false from rfl,yz];go_enter func12,ntmps12;go_wp2_with (first
   | (go_at_call 23;(with_reducible refine (CM.out _ HX.out.below).mono ?_);rintro e w1 ⟨rfl,ad⟩;have aa:=hid (HX.out.on ad);clear ad p0 p1 p2 p3 p4 p5 q0 q1 q2 q3 q4 q5;have p0:=aa.out.p.x0;have q0:=aa.out.q.x0;have p1:=aa.out.p.x1;have q1:=aa.out.q.x1;have p2:=aa.out.p.x2;have q2:=aa.out.q.x2;have p3:=aa.out.p.x3;have q3:=aa.out.q.x3;have p4:=aa.out.p.x4;have q4:=aa.out.q.x4;have p5:=aa.out.p.x5;have q5:=aa.out.q.x5)
   | (go_at_call 24;(with_reducible refine (CU.out _ aa.out.below).mono ?_);rintro e w2 ⟨rfl,ad⟩;have ab:=hid (aa.out.on ad);clear ad p0 p1 p2 p3 p4 p5 q0 q1 q2 q3 q4 q5;have p0:=ab.out.p.x0;have q0:=ab.out.q.x0;have p1:=ab.out.p.x1;have q1:=ab.out.q.x1;have p2:=ab.out.p.x2;have q2:=ab.out.q.x2;have p3:=ab.out.p.x3;have q3:=ab.out.q.x3;have p4:=ab.out.p.x4;have q4:=ab.out.q.x4;have p5:=ab.out.p.x5;have q5:=ab.out.q.x5)
   | (go_at_call 24;(with_reducible refine (CR.out _ ab.out.below).mono ?_);rintro e w3 ⟨rfl,ad⟩;have ac:=hid (ab.out.on ad);clear ad p0 p1 p2 p3 p4 p5 q0 q1 q2 q3 q4 q5;have p0:=ac.out.p.x0;have q0:=ac.out.q.x0;have p1:=ac.out.p.x1;have q1:=ac.out.q.x1;have p2:=ac.out.p.x2;have q2:=ac.out.q.x2;have p3:=ac.out.p.x3;have q3:=ac.out.q.x3;have p4:=ac.out.p.x4;have q4:=ac.out.q.x4;have p5:=ac.out.p.x5;have q5:=ac.out.q.x5))
  go_ret;exact ⟨rfl,ac.out.below⟩
 case true.false =>
  rw [show decide (true=false)=false from rfl,yz];go_enter func12,ntmps12;go_wp2_with (first
   | (go_at_call 23;(with_reducible refine (CM.out _ HX.out.below).mono ?_);rintro e w1 ⟨rfl,ad⟩;have aa:=hid (HX.out.on ad);clear ad p0 p1 p2 p3 p4 p5 q0 q1 q2 q3 q4 q5;have p0:=aa.out.p.x0;have q0:=aa.out.q.x0;have p1:=aa.out.p.x1;have q1:=aa.out.q.x1;have p2:=aa.out.p.x2;have q2:=aa.out.q.x2;have p3:=aa.out.p.x3;have q3:=aa.out.q.x3;have p4:=aa.out.p.x4;have q4:=aa.out.q.x4;have p5:=aa.out.p.x5;have q5:=aa.out.q.x5)
   | (go_at_call 24;(with_reducible refine (CU.out _ aa.out.below).mono ?_);rintro e w2 ⟨rfl,ad⟩;have ab:=hid (aa.out.on ad);clear ad p0 p1 p2 p3 p4 p5 q0 q1 q2 q3 q4 q5;have p0:=ab.out.p.x0;have q0:=ab.out.q.x0;have p1:=ab.out.p.x1;have q1:=ab.out.q.x1;have p2:=ab.out.p.x2;have q2:=ab.out.q.x2;have p3:=ab.out.p.x3;have q3:=ab.out.q.x3;have p4:=ab.out.p.x4;have q4:=ab.out.q.x4;have p5:=ab.out.p.x5;have q5:=ab.out.q.x5)
   | (go_at_call 24;(with_reducible refine (CR.out _ ab.out.below).mono ?_);rintro e w3 ⟨rfl,ad⟩;have ac:=hid (ab.out.on ad);clear ad p0 p1 p2 p3 p4 p5 q0 q1 q2 q3 q4 q5;have p0:=ac.out.p.x0;have q0:=ac.out.q.x0;have p1:=ac.out.p.x1;have q1:=ac.out.q.x1;have p2:=ac.out.p.x2;have q2:=ac.out.q.x2;have p3:=ac.out.p.x3;have q3:=ac.out.q.x3;have p4:=ac.out.p.x4;have q4:=ac.out.q.x4;have p5:=ac.out.p.x5;have q5:=ac.out.q.x5))
  go_ret;exact ⟨rfl,ac.out.below⟩
 all_goals
  rw [decide_eq_true rfl,zg];go_enter func12,ntmps12;go_wp2_with (first
   | (go_at_call 23;(with_reducible refine (CM.out _ HX.out.below).mono ?_);rintro e w1 ⟨rfl,ad⟩;have aa:=hid (HX.out.on ad);clear ad p0 p1 p2 p3 p4 p5 q0 q1 q2 q3 q4 q5;have p0:=aa.out.p.x0;have q0:=aa.out.q.x0;have p1:=aa.out.p.x1;have q1:=aa.out.q.x1;have p2:=aa.out.p.x2;have q2:=aa.out.q.x2;have p3:=aa.out.p.x3;have q3:=aa.out.q.x3;have p4:=aa.out.p.x4;have q4:=aa.out.q.x4;have p5:=aa.out.p.x5;have q5:=aa.out.q.x5)
   | (go_at_call 24;(with_reducible refine (CU.out _ aa.out.below).mono ?_);rintro e w2 ⟨rfl,ad⟩;have ab:=hid (aa.out.on ad);clear ad p0 p1 p2 p3 p4 p5 q0 q1 q2 q3 q4 q5;have p0:=ab.out.p.x0;have q0:=ab.out.q.x0;have p1:=ab.out.p.x1;have q1:=ab.out.q.x1;have p2:=ab.out.p.x2;have q2:=ab.out.q.x2;have p3:=ab.out.p.x3;have q3:=ab.out.q.x3;have p4:=ab.out.p.x4;have q4:=ab.out.q.x4;have p5:=ab.out.p.x5;have q5:=ab.out.q.x5)
   | (go_at_call 24;(with_reducible refine (CR.out _ ab.out.below).mono ?_);rintro e w3 ⟨rfl,ad⟩;have ac:=hid (ab.out.on ad);clear ad p0 p1 p2 p3 p4 p5 q0 q1 q2 q3 q4 q5;have p0:=ac.out.p.x0;have q0:=ac.out.q.x0;have p1:=ac.out.p.x1;have q1:=ac.out.q.x1;have p2:=ac.out.p.x2;have q2:=ac.out.q.x2;have p3:=ac.out.p.x3;have q3:=ac.out.q.x3;have p4:=ac.out.p.x4;have q4:=ac.out.q.x4;have p5:=ac.out.p.x5;have q5:=ac.out.q.x5)
   | (go_at_call 25;refine (CG.out _ ac.out.below).mono ?_;rintro e w4 ⟨rfl,ad⟩;have ae:=hid (ac.out.on ad);clear ad p0 p1 p2 p3 p4 p5 q0 q1 q2 q3 q4 q5;have p0:=ae.out.p.x0;have q0:=ae.out.q.x0;have p1:=ae.out.p.x1;have q1:=ae.out.q.x1;have p2:=ae.out.p.x2;have q2:=ae.out.q.x2;have p3:=ae.out.p.x3;have q3:=ae.out.q.x3;have p4:=ae.out.p.x4;have q4:=ae.out.q.x4;have p5:=ae.out.p.x5;have q5:=ae.out.q.x5))
  go_ret;exact ⟨rfl,ae.out.below⟩
end Go.Proofs.YtbagenpobcgjnaaGreat
