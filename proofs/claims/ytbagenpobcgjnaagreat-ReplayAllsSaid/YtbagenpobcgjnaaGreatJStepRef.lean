/-
  Joined: StepRef, StepDev.
-/
import Derived.Test.YtbagenpobcgjnaaGreatJStepMath
import Derived.Test.YtbagenpobcgjnaaGreatJEditDev
open Go renaming Addr->zd,Calls->zg,World->yy
open Go.Lib renaming hid->yv
open Go.Obj renaming cells->yz
open Go.RowKit renaming Below->yw,intOf->zf
open Go.Value renaming slice->yx,string->ze
open Nat renaming le_refl->zn,lt_of_lt_of_le->zj,zero_le->zo
open Prod renaming fst->zk,snd->zm
namespace Go.Proofs.YtbagenpobcgjnaaGreat
open Go.Proofs.Tryz
set_option maxRecDepth 100000
open Lib (hid)
open Go.RowKit
set_option linter.unusedVariables false
abbrev oz (a:Option zd) (n c:Nat):Value:=.agg #[yx a n c]
structure yo (w:yy) (a:Option zd) (l:List l7) (c:Nat) (wX:yy):Prop where
 below:yw w w wX
 size:w.heap.size<wX
 cell:wX ⟨w,0,none⟩=some (yx a l.length c)
 row:qd wX (·<wX) a l
theorem yo.new (w:yy) (a:Option zd) (l:List l7) (c:Nat) (h:qd w (·<w) a l):yo w a l c (w.alloc (yz #[yx a l.length c] 54)):=by
 have aa:yw w w (w.alloc (yz #[yx a l.length c] 54)):=(Below.refl _ _).alloc (zn _) _;exact ⟨aa,lh,by simp [World.cell?_alloc_new],(h.below (fun _ h=>h) aa).more fun b hb=>zj hb aa.size⟩
theorem yo.on {w wX w2:yy} {a:Option zd} {l:List l7} {c:Nat} (h:yo w a l c wX) (hb:yw wX wX w2):yo w a l c w2:=
 ⟨h.below.trans (hb.mono h.below.size),zj h.size hb.size,(hb.cell (p:=⟨w,0,none⟩) h.size).trans h.cell,(h.row.below (fun _ h=>h) hb).more fun b aa=>zj aa hb.size⟩
theorem qd.at {w:yy} {B:Nat→Prop} {a:Option zd} {l:List l7} (h:qd w B a l) (k:Nat) (hk:k<l.length):∃ ad,a=some ad∧B ad.block∧w (ad.add (k * 3))=some (.int .i64 (l[k]!).p)∧w ⟨(ad.add (k * 3)).block,(ad.add (k * 3)).off+1,none⟩=some (ze (l[k]!).o)∧w ⟨(ad.add (k * 3)).block,(ad.add (k * 3)).off+2,none⟩=some (ze (l[k]!).n):=by
 rw [tj hk];exact h k hk
def sc (l:List l7) (b:Nat):Prop:=∀ x∈l,x.o.size≤b∧x.n.size≤b
theorem sc.at {l:List l7} {b:Nat} (h:sc l b) (k:Nat) (hk:k<l.length):(l[k]!).o.size≤b∧(l[k]!).n.size≤b:=by rw [tj hk];exact h _ (List.getElem_mem hk)
set_option maxHeartbeats 1600000 in
theorem fX (t:ByteArray) (a:Option zd) (l:List l7) (c:Nat) (w:yy) (hr:qd w (·<w) a l) (ht:t.size≤140737488355328) (hl:l.length≤1000000) (hf:sc l 140737488355328) :
 zg prog 42 #[ze t,oz a l.length c] w fun e w'=>e=.returned (appV (mu t l))∧yw w w w':=by
 have hst:=yo.new w a l c hr;obtain ⟨n,hn⟩:∃ n,l.length=n:=⟨_,rfl⟩;obtain ⟨⟨rt,re⟩,hR⟩:∃ R,mu t l=R:=⟨_,rfl⟩;rw [hR];obtain ⟨wX,hwX⟩:∃ wX,w.alloc (yz #[yx a l.length c] 54)=wX:=⟨_,rfl⟩;rw [hwX] at hst;have aa:=yv hst;have HN:=yv hn;have HF:=yv hf;have x0:=hst.cell;have ae:mu t (l.drop 0)=(rt,re):=hR;rw [hn] at hl hwX x0 ⊢;have HD:=yv ae;clear hst hr hn hf hR ae;go_enter func42,ntmps42;go_wp2;clear hwX
 go_loopw [0,6] (fun tv i wr=>∃ (k:Nat) (s:ByteArray),k≤n∧i=.int .i64 k∧tv=ze s∧s.size≤140737488355328∧mu s (l.drop k)=(rt,re)∧yw wX wX wr) (fun _ i _=>n - (zf i).toNat)
 case atStart=>exact ⟨0,t,zo _,rfl,rfl,ht,HD.out,Below.refl _ _⟩
 case round =>
  obtain ⟨k,s,hk,rfl,rfl,hs,hrun,hbel⟩:=hrel;have y0:=(hbel.cell (p:=⟨w,0,none⟩) aa.out.size).trans x0;by_cases hlt:k<n
  ·have hkl:k<l.length:=by rw [HN.out];exact hlt
   obtain ⟨ad,rfl,hab,q0,q1,q2⟩:=(aa.out.row.below (fun _ h=>h) hbel).at k hkl;obtain ⟨z1,z2⟩:=HF.out.at k hkl;rw [edrop l k hkl] at hrun;obtain ⟨x,hx⟩:∃ x,l[k]! = x:=⟨_,rfl⟩;rw [hx] at q0 q1 q2 z1 z2 hrun;obtain ⟨p,o,m⟩:=x;simp only at q0 q1 q2 z1 z2;have ca:=pX s o m hs z1 z2 p;obtain ⟨⟨u,e⟩,hu⟩:∃ y,ot s p o m=y:=⟨_,rfl⟩;rw [hu] at ca;have CA:=yv ca;have HU:=yv hu;have ac:=yv hrun;have b0:(0:Int)≤(k:Int):=lf;have b1:(k:Int)<(n:Int):=lf;clear ca hu hrun hx z1 z2 hab;by_cases he:e=0
   ·subst he;have af:=yv ((dY HU.out).symm.trans ac.out);have HZ:=yv (bV HU.out);go_wp2_with fail;refine (CA.out _).mono ?_;rintro e w1 ⟨rfl,ab⟩;have HB:=yv (hbel.trans (ab.mono hbel.size));clear ab hbel q0 q1 q2;go_wp2;go_roundw
    case rel=>exact ⟨k+1,u,lf,by go_num,rfl,by have:=HZ.out;omega,af.out,HB.out⟩
    case measure=>simp [zf];omega
   ·have hq:=(gF HU.out he).symm.trans ac.out;obtain rfl:(⟨#[]⟩:ByteArray)=rt:=congrArg zk hq;obtain rfl:e=re:=congrArg zm hq;go_wp2_with fail;refine (CA.out _).mono ?_;rintro e w1 ⟨rfl,ab⟩;have HB:=yv (aa.out.below.trans ((hbel.trans (ab.mono hbel.size)).mono aa.out.below.size));clear ab hbel q0 q1 q2;go_wp2;go_ret2;exact ⟨rfl,HB.out⟩
  ·obtain rfl:k=n:=lf;rw [List.drop_eq_nil_of_le (by rw [HN.out];exact zn _),dJ] at hrun;obtain rfl:s=rt:=congrArg zk hrun;obtain rfl:0=re:=congrArg zm hrun;have HB:=yv (aa.out.below.trans (hbel.mono aa.out.below.size));clear hrun hbel;go_wp2;go_ret2;exact ⟨rfl,HB.out⟩
set_option maxHeartbeats 1600000 in
theorem gT (t:ByteArray) (a:Option zd) (l:List l7) (c:Nat) (w:yy) (hr:qd w (·<w) a l) (ht:t.size≤140737488355328) (hl:l.length≤1000000) (hf:sc l 140737488355328) :
 zg prog 41 #[ze t,oz a l.length c] w fun e w'=>e=.returned (.bool (nb t l))∧yw w w w':=by
 have hst:=yo.new w a l c hr;have cr:=fX t a l c _ hst.row ht hl hf;obtain ⟨wX,hwX⟩:∃ wX,w.alloc (yz #[yx a l.length c] 54)=wX:=⟨_,rfl⟩;rw [hwX] at hst cr;have x0:=hst.cell;have hrs:nb t l=(decide (1≤l.length) && decide (l.length≤32) && ((mu t l).2 == 0)):=rfl;obtain ⟨⟨rt,re⟩,hR⟩:∃ R,mu t l=R:=⟨_,rfl⟩;rw [hR] at cr hrs;obtain ⟨n,hn⟩:∃ n,l.length=n:=⟨_,rfl⟩;have aa:=yv hst;have ac:=yv hrs;rw [hn] at hl hwX x0 cr hrs ⊢;rw [hrs];have CR:=yv cr;clear hst hr hn hf hR cr hrs ac;go_enter func41,ntmps41;rcases (show n<1∨(1≤n∧n≤32)∨32<n by omega) with h|⟨h,h2⟩|h
 all_goals
  go_wp2_with fail;refine CR.out.mono ?_;rintro e w1 ⟨rfl,ab⟩;have y0:=(ab.cell (p:=⟨w,0,none⟩) aa.out.size).trans x0;have HB:=yv (aa.out.below.trans (ab.mono aa.out.below.size));clear ab;go_wp2;go_ret;refine ⟨aN ?_,HB.out⟩
 ·rw [decide_eq_false lf];rfl
 ·rw [decide_eq_true h,decide_eq_true h2];rfl
 ·rw [decide_eq_false (p:=n≤32) lf,Bool.and_false];rfl
set_option maxHeartbeats 1600000 in
theorem nY (a b:Option zd) (la lb:List l7) (c d:Nat) (w:yy) (ha:qd w (·<w) a la) (hb:qd w (·<w) b lb) (hl:la.length≤1000000) (hl2:lb.length≤1000000) :
 zg prog 25 #[oz a la.length c,oz b lb.length d] w fun e w'=>e=.returned (.bool (decide (la=lb)))∧yw w w w':=by
 have h1:=yo.new w a la c ha;have ab:qd (w.alloc (yz #[yx a la.length c] 54)) (·<(w.alloc (yz #[yx a la.length c] 54))) b lb:=(hb.below (fun _ h=>h) h1.below).more fun b hb=>zj hb h1.below.size;have h2:=yo.new _ b lb d ab;have h1:=h1.on h2.below;obtain ⟨wX,hwX⟩:∃ wX,(w.alloc (yz #[yx a la.length c] 54)).alloc (yz #[yx b lb.length d] 54)=wX:=⟨_,rfl⟩;have ez:(w.alloc (yz #[yx a la.length c] 54)).heap.size=w+1:=lh;have h3:=h2.size;have x1:=h2.cell;rw [hwX] at h1 h3 x1;rw [ez] at h3 x1;have x0:=h1.cell;have hrb:qd wX (·<wX.heap.size) b lb:=by rw [← hwX];exact h2.row
 by_cases hne:la.length=lb.length
 case neg =>
  have h0:decide (la=lb)=false:=decide_eq_false fun e=>hne (by rw [e]);rw [h0];obtain ⟨n,hn⟩:∃ n,la.length=n:=⟨_,rfl⟩;obtain ⟨m,hm⟩:∃ n,lb.length=n:=⟨_,rfl⟩;have HB:=yv h1.below;rw [hn] at hl hne hwX x0 ⊢;rw [hm] at hl2 hne hwX x1 ⊢;clear hn hm ha hb h1 h2 ab hrb ez;have ah:¬ (n:Int)=(m:Int):=lf;go_enter func25,ntmps25;go_wp2;go_ret;exact ⟨rfl,HB.out⟩
 have HE:=yv hne;have aa:=yv h1;have af:=yv hrb;have ag:=yv h3;rw [← hne] at hwX x1 ⊢;obtain ⟨n,hn⟩:∃ n,la.length=n:=⟨_,rfl⟩;have HN:=yv hn;rw [hn] at hl hwX x0 x1 ⊢;clear hn ha hb hl2 hne h1 h2 ab hrb ez h3;obtain ⟨r,hfr⟩:∃ r,decide (la=lb)=r:=⟨_,rfl⟩;rw [hfr];have HF:=yv hfr;clear hfr;go_enter func25,ntmps25;go_wp2;clear hwX
 go_loopw [5] (fun i wr=>∃ k:Nat,k≤n∧i=.int .i64 k∧(∀ j,j<k→la[j]! = lb[j]!)∧yw wX wX wr) (fun i _=>n - (zf i).toNat)
 case atStart=>exact ⟨0,zo _,rfl,fun j hj=>absurd hj (Nat.not_lt_zero _),Below.refl _ _⟩
 case round =>
  obtain ⟨k,hk,rfl,hall,hbel⟩:=hrel;have y0:=(hbel.cell (p:=⟨w,0,none⟩) aa.out.size).trans x0;have y1:=(hbel.cell (p:=⟨w+1,0,none⟩) ag.out).trans x1;by_cases hlt:k<n
  ·have hkl:k<la.length:=by rw [HN.out];exact hlt
   have ae:k<lb.length:=by rw [← HE.out];exact hkl
   obtain ⟨ad,rfl,hab,q0,q1,q2⟩:=(aa.out.row.below (fun _ h=>h) hbel).at k hkl;obtain ⟨bd,rfl,hbb,r0,r1,r2⟩:=(af.out.below (fun _ h=>h) hbel).at k ae;have hyes:=BH (a:=la) (b:=lb) hall;have hno:¬ la[k]! = lb[k]! → decide (la=lb)=false:=fun h=>decide_eq_false fun e=>h (by rw [e]);obtain ⟨x,hx⟩:∃ x,la[k]! = x:=⟨_,rfl⟩;obtain ⟨y,hy⟩:∃ x,lb[k]! = x:=⟨_,rfl⟩;rw [hx] at q0 q1 q2 hyes hno;rw [hy] at r0 r1 r2 hyes hno;have b0:(0:Int)≤(k:Int):=lf;have b1:(k:Int)<(n:Int):=lf;clear hall hx hy hab hbb;by_cases he:x=y
   ·subst he;have HY:=yv (hyes rfl);obtain ⟨p,o,m⟩:=x;simp only at q0 q1 q2 r0 r1 r2;clear hyes hno;go_wp2_with fail;go_quiet (fail);have ac:=aB hbel nq;clear hbel q0 q1 q2 r0 r1 r2 y0 y1;generalize wr.drewN nq=wx at ac ⊢;go_wp2;go_roundw
    case rel=>exact ⟨k+1,lf,by go_num,HY.out,ac⟩
    case measure=>simp [zf];omega
   ·have h0:=hno he;rw [HF.out] at h0;subst h0;have hp:=RM he;have HB:=yv (aa.out.below.trans (hbel.mono aa.out.below.size));obtain ⟨p,o,m⟩:=x;obtain ⟨p2,o2,m2⟩:=y;simp only at q0 q1 q2 r0 r1 r2 hp;clear hyes hno he hbel;rcases hp with g|⟨rfl,g⟩|⟨rfl,rfl,g⟩
    ·have g1:(p == p2)=false:=beq_eq_false_iff_ne.2 g;go_wp2_with fail;go_quiet (fail);go_wp2;go_ret;exact ⟨rfl,aB HB.out _⟩
    ·have g1:=dG g;clear g;go_wp2_with fail;go_quiet (fail);go_wp2;go_ret;exact ⟨rfl,aB HB.out _⟩
    ·have g1:=dG g;clear g;go_wp2_with fail;go_quiet (fail);go_wp2;go_ret;exact ⟨rfl,aB HB.out _⟩
  ·obtain rfl:k=n:=lf;have h0:r=true:=by
    rw [← HF.out];exact decide_eq_true (GB HE.out (by rw [HN.out];exact hall))
   subst h0;have HB:=yv (aa.out.below.trans (hbel.mono aa.out.below.size));clear hall hbel;go_wp2;go_ret;exact ⟨rfl,HB.out⟩
theorem zW {wX wr w1:yy} {o:Obj} (h:yw wX wX wr) (hb:yw (wr.alloc o) (wr.alloc o) w1):yw wX wX w1:=(h.alloc h.size o).trans (hb.mono (by have:=h.size;simp;omega))
set_option maxHeartbeats 1600000 in
theorem hP (t:ByteArray) (a:Option zd) (l:List l7) (c:Nat) (w:yy) (hr:qd w (·<w) a l) (ht:t.size≤140737488355328) (hl:l.length≤1000000) (hf:sc l 140737488355328) :
 zg prog 89 #[ze t,oz a l.length c] w fun e w'=>e=.returned (appV (mu t l))∧yw w w w':=by
 have hst:=yo.new w a l c hr;obtain ⟨n,hn⟩:∃ n,l.length=n:=⟨_,rfl⟩;obtain ⟨⟨rt,re⟩,hR⟩:∃ R,mu t l=R:=⟨_,rfl⟩;rw [hR];obtain ⟨wX,hwX⟩:∃ wX,w.alloc (yz #[yx a l.length c] 54)=wX:=⟨_,rfl⟩;rw [hwX] at hst;have aa:=yv hst;have HN:=yv hn;have HF:=yv hf;have x0:=hst.cell;have ae:mu t (l.drop 0)=(rt,re):=hR;rw [hn] at hl hwX x0 ⊢;have HD:=yv ae;clear hst hr hn hf hR ae;go_enter func89,ntmps89;go_wp2;clear hwX
 go_loopw [0,13] (fun tv i wr=>∃ (k:Nat) (s:ByteArray),k≤n∧i=.int .i64 k∧tv=ze s∧s.size≤140737488355328∧mu s (l.drop k)=(rt,re)∧yw wX wX wr) (fun _ i _=>n - (zf i).toNat)
 case atStart=>exact ⟨0,t,zo _,rfl,rfl,ht,HD.out,Below.refl _ _⟩
 case round =>
  obtain ⟨k,s,hk,rfl,rfl,hs,hrun,hbel⟩:=hrel;have y0:=(hbel.cell (p:=⟨w,0,none⟩) aa.out.size).trans x0;by_cases hlt:k<n
  ·have hkl:k<l.length:=by rw [HN.out];exact hlt
   obtain ⟨ad,rfl,hab,q0,q1,q2⟩:=(aa.out.row.below (fun _ h=>h) hbel).at k hkl;obtain ⟨z1,z2⟩:=HF.out.at k hkl;rw [edrop l k hkl] at hrun;obtain ⟨x,hx⟩:∃ x,l[k]! = x:=⟨_,rfl⟩;rw [hx] at q0 q1 q2 z1 z2 hrun;obtain ⟨p,o,m⟩:=x;simp only at q0 q1 q2 z1 z2;have ca:=JV s o m hs z1 z2 p;obtain ⟨⟨u,e⟩,hu⟩:∃ y,ot s p o m=y:=⟨_,rfl⟩;rw [hu] at ca;have CA:=yv ca;have HU:=yv hu;have ac:=yv hrun;have bz:=Below.size hbel;have b0:(0:Int)≤(k:Int):=lf;have b1:(k:Int)<(n:Int):=lf;clear ca hu hrun hx z1 z2 hab;by_cases he:e=0
   ·subst he;have af:=yv ((dY HU.out).symm.trans ac.out);have HZ:=yv (bV HU.out);go_wp2_with fail;refine (CA.out _).mono ?_;rintro e w1 ⟨rfl,ab⟩;have HB:=yv (zW hbel ab);clear ab hbel q0 q1 q2;go_wp2;go_roundw
    case rel=>exact ⟨k+1,u,lf,by go_num,rfl,by have:=HZ.out;omega,af.out,HB.out⟩
    case measure=>simp [zf];omega
   ·have hq:=(gF HU.out he).symm.trans ac.out;obtain rfl:(⟨#[]⟩:ByteArray)=rt:=congrArg zk hq;obtain rfl:e=re:=congrArg zm hq;go_wp2_with fail;refine (CA.out _).mono ?_;rintro e w1 ⟨rfl,ab⟩;have HB:=yv (aa.out.below.trans ((zW hbel ab).mono aa.out.below.size));clear ab hbel q0 q1 q2;go_wp2;go_ret2;exact ⟨rfl,HB.out⟩
  ·obtain rfl:k=n:=lf;rw [List.drop_eq_nil_of_le (by rw [HN.out];exact zn _),dJ] at hrun;obtain rfl:s=rt:=congrArg zk hrun;obtain rfl:0=re:=congrArg zm hrun;have HB:=yv (aa.out.below.trans (hbel.mono aa.out.below.size));clear hrun hbel;go_wp2;go_ret2;exact ⟨rfl,HB.out⟩
set_option maxHeartbeats 1600000 in
theorem pL (t:ByteArray) (a:Option zd) (l:List l7) (c:Nat) (w:yy) (hr:qd w (·<w) a l) (ht:t.size≤140737488355328) (hl:l.length≤1000000) (hf:sc l 140737488355328) :
 zg prog 88 #[ze t,oz a l.length c] w fun e w'=>e=.returned (.bool (nb t l))∧yw w w w':=by
 have hst:=yo.new w a l c hr;have cr:=hP t a l c _ hst.row ht hl hf;obtain ⟨wX,hwX⟩:∃ wX,w.alloc (yz #[yx a l.length c] 54)=wX:=⟨_,rfl⟩;rw [hwX] at hst cr;have x0:=hst.cell;have r1:=BG (t:=t) (l:=l);have r2:=zH (t:=t) (l:=l);have r3:=EK (t:=t) (l:=l);obtain ⟨⟨rt,re⟩,hR⟩:∃ R,mu t l=R:=⟨_,rfl⟩;rw [hR] at cr r3;obtain ⟨r,hrr⟩:∃ r,nb t l=r:=⟨_,rfl⟩;rw [hrr] at r1 r2 r3 ⊢;obtain ⟨n,hn⟩:∃ n,l.length=n:=⟨_,rfl⟩;have aa:=yv hst;rw [hn] at hl hwX x0 cr r1 r2 r3 ⊢;have CR:=yv cr;clear hst hr hn hf hR cr hrr;rcases (show n<1∨(1≤n∧n≤32)∨32<n by omega) with h|⟨h,h2⟩|h
 ·obtain rfl:=r1 h;clear r1 r2 r3;go_enter func88,ntmps88;go_wp2;go_ret;exact ⟨rfl,aa.out.below⟩
 ·obtain rfl:=r3 h h2;clear r1 r2 r3;go_enter func88,ntmps88;go_wp2_with fail;refine CR.out.mono ?_;rintro e w1 ⟨rfl,ab⟩;have HB:=yv (aa.out.below.trans (ab.mono aa.out.below.size));clear ab;go_wp2;go_ret;exact ⟨rfl,HB.out⟩
 ·obtain rfl:=r2 h;clear r1 r2 r3;go_enter func88,ntmps88;go_wp2;go_ret;exact ⟨rfl,aa.out.below⟩
end Go.Proofs.YtbagenpobcgjnaaGreat
