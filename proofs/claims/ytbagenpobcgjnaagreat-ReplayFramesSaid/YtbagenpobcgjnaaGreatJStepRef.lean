/-
  Joined: StepRef, StepDev.
-/
import Derived.Test.YtbagenpobcgjnaaGreatJStepMath
import Derived.Test.YtbagenpobcgjnaaGreatJEditDev
open Go renaming Addr->zq,Calls->zu,World->zo
open Go.Lib renaming hid->zk
open Go.Obj renaming cells->zp
open Go.RowKit renaming Below->zm,intOf->zt
open Go.Value renaming slice->zn,string->zr
open Nat renaming le_refl->Aa,lt_of_lt_of_le->zx,zero_le->Ab
open Prod renaming fst->zy,snd->zz
namespace Go.Proofs.YtbagenpobcgjnaaGreat
open Go.Proofs.Tryz
set_option maxRecDepth 100000
open Lib (hid)
open Go.RowKit
set_option linter.unusedVariables false
abbrev oy (a:Option zq) (n c:Nat):Value:=.agg #[zn a n c]
structure zf (w:zo) (a:Option zq) (l:List l8) (c:Nat) (wX:zo):Prop where
 below:zm w w wX
 size:w.heap.size<wX
 cell:wX ⟨w,0,none⟩=some (zn a l.length c)
 row:qf wX (·<wX) a l
theorem zf.new (w:zo) (a:Option zq) (l:List l8) (c:Nat) (h:qf w (·<w) a l):zf w a l c (w.alloc (zp #[zn a l.length c] 54)):=by
 have aa:zm w w (w.alloc (zp #[zn a l.length c] 54)):=(Below.refl _ _).alloc (Aa _) _;exact ⟨aa,li,by simp [World.cell?_alloc_new],(h.below (fun _ h=>h) aa).more fun b hb=>zx hb aa.size⟩
theorem zf.on {w wX w2:zo} {a:Option zq} {l:List l8} {c:Nat} (h:zf w a l c wX) (hb:zm wX wX w2):zf w a l c w2:=
 ⟨h.below.trans (hb.mono h.below.size),zx h.size hb.size,(hb.cell (p:=⟨w,0,none⟩) h.size).trans h.cell,(h.row.below (fun _ h=>h) hb).more fun b aa=>zx aa hb.size⟩
theorem qf.at {w:zo} {B:Nat→Prop} {a:Option zq} {l:List l8} (h:qf w B a l) (k:Nat) (hk:k<l.length):∃ ad,a=some ad∧B ad.block∧w (ad.add (k * 3))=some (.int .i64 (l[k]!).p)∧w ⟨(ad.add (k * 3)).block,(ad.add (k * 3)).off+1,none⟩=some (zr (l[k]!).o)∧w ⟨(ad.add (k * 3)).block,(ad.add (k * 3)).off+2,none⟩=some (zr (l[k]!).n):=by
 rw [tu hk];exact h k hk
def sh (l:List l8) (b:Nat):Prop:=∀ x∈l,x.o.size≤b∧x.n.size≤b
theorem sh.at {l:List l8} {b:Nat} (h:sh l b) (k:Nat) (hk:k<l.length):(l[k]!).o.size≤b∧(l[k]!).n.size≤b:=by rw [tu hk];exact h _ (List.getElem_mem hk)
set_option maxHeartbeats 1600000 in
theorem gJ (t:ByteArray) (a:Option zq) (l:List l8) (c:Nat) (w:zo) (hr:qf w (·<w) a l) (ht:t.size≤140737488355328) (hl:l.length≤1000000) (hf:sh l 140737488355328) :
 zu prog 42 #[zr t,oy a l.length c] w fun e w'=>e=.returned (appV (ms t l))∧zm w w w':=by
 have hst:=zf.new w a l c hr;obtain ⟨n,hn⟩:∃ n,l.length=n:=⟨_,rfl⟩;obtain ⟨⟨rt,re⟩,hR⟩:∃ R,ms t l=R:=⟨_,rfl⟩;rw [hR];obtain ⟨wX,hwX⟩:∃ wX,w.alloc (zp #[zn a l.length c] 54)=wX:=⟨_,rfl⟩;rw [hwX] at hst;have aa:=zk hst;have HN:=zk hn;have HF:=zk hf;have x0:=hst.cell;have ae:ms t (l.drop 0)=(rt,re):=hR;rw [hn] at hl hwX x0 ⊢;have HD:=zk ae;clear hst hr hn hf hR ae;go_enter func42,ntmps42;go_wp2;clear hwX
 go_loopw [0,6] (fun tv i wr=>∃ (k:Nat) (s:ByteArray),k≤n∧i=.int .i64 k∧tv=zr s∧s.size≤140737488355328∧ms s (l.drop k)=(rt,re)∧zm wX wX wr) (fun _ i _=>n - (zt i).toNat)
 case atStart=>exact ⟨0,t,Ab _,rfl,rfl,ht,HD.out,Below.refl _ _⟩
 case round =>
  obtain ⟨k,s,hk,rfl,rfl,hs,hrun,hbel⟩:=hrel;have y0:=(hbel.cell (p:=⟨w,0,none⟩) aa.out.size).trans x0;by_cases hlt:k<n
  ·have hkl:k<l.length:=by rw [HN.out];exact hlt
   obtain ⟨ad,rfl,hab,q0,q1,q2⟩:=(aa.out.row.below (fun _ h=>h) hbel).at k hkl;obtain ⟨z1,z2⟩:=HF.out.at k hkl;rw [edrop l k hkl] at hrun;obtain ⟨x,hx⟩:∃ x,l[k]! = x:=⟨_,rfl⟩;rw [hx] at q0 q1 q2 z1 z2 hrun;obtain ⟨p,o,m⟩:=x;simp only at q0 q1 q2 z1 z2;have ca:=pU s o m hs z1 z2 p;obtain ⟨⟨u,e⟩,hu⟩:∃ y,oq s p o m=y:=⟨_,rfl⟩;rw [hu] at ca;have CA:=zk ca;have HU:=zk hu;have ac:=zk hrun;have b0:(0:Int)≤(k:Int):=lg;have b1:(k:Int)<(n:Int):=lg;clear ca hu hrun hx z1 z2 hab;by_cases he:e=0
   ·subst he;have af:=zk ((eP HU.out).symm.trans ac.out);have HZ:=zk (bS HU.out);go_wp2_with fail;refine (CA.out _).mono ?_;rintro e w1 ⟨rfl,ab⟩;have HB:=zk (hbel.trans (ab.mono hbel.size));clear ab hbel q0 q1 q2;go_wp2;go_roundw
    case rel=>exact ⟨k+1,u,lg,by go_num,rfl,by have:=HZ.out;omega,af.out,HB.out⟩
    case measure=>simp [zt];omega
   ·have hq:=(gX HU.out he).symm.trans ac.out;obtain rfl:(⟨#[]⟩:ByteArray)=rt:=congrArg zy hq;obtain rfl:e=re:=congrArg zz hq;go_wp2_with fail;refine (CA.out _).mono ?_;rintro e w1 ⟨rfl,ab⟩;have HB:=zk (aa.out.below.trans ((hbel.trans (ab.mono hbel.size)).mono aa.out.below.size));clear ab hbel q0 q1 q2;go_wp2;go_ret2;exact ⟨rfl,HB.out⟩
  ·obtain rfl:k=n:=lg;rw [List.drop_eq_nil_of_le (by rw [HN.out];exact Aa _),dR] at hrun;obtain rfl:s=rt:=congrArg zy hrun;obtain rfl:0=re:=congrArg zz hrun;have HB:=zk (aa.out.below.trans (hbel.mono aa.out.below.size));clear hrun hbel;go_wp2;go_ret2;exact ⟨rfl,HB.out⟩
set_option maxHeartbeats 1600000 in
theorem iP (t:ByteArray) (a:Option zq) (l:List l8) (c:Nat) (w:zo) (hr:qf w (·<w) a l) (ht:t.size≤140737488355328) (hl:l.length≤1000000) (hf:sh l 140737488355328) :
 zu prog 41 #[zr t,oy a l.length c] w fun e w'=>e=.returned (.bool (m9 t l))∧zm w w w':=by
 have hst:=zf.new w a l c hr;have cr:=gJ t a l c _ hst.row ht hl hf;obtain ⟨wX,hwX⟩:∃ wX,w.alloc (zp #[zn a l.length c] 54)=wX:=⟨_,rfl⟩;rw [hwX] at hst cr;have x0:=hst.cell;have hrs:m9 t l=(decide (1≤l.length) && decide (l.length≤32) && ((ms t l).2 == 0)):=rfl;obtain ⟨⟨rt,re⟩,hR⟩:∃ R,ms t l=R:=⟨_,rfl⟩;rw [hR] at cr hrs;obtain ⟨n,hn⟩:∃ n,l.length=n:=⟨_,rfl⟩;have aa:=zk hst;have ac:=zk hrs;rw [hn] at hl hwX x0 cr hrs ⊢;rw [hrs];have CR:=zk cr;clear hst hr hn hf hR cr hrs ac;go_enter func41,ntmps41;rcases (show n<1∨(1≤n∧n≤32)∨32<n by omega) with h|⟨h,h2⟩|h
 all_goals
  go_wp2_with fail;refine CR.out.mono ?_;rintro e w1 ⟨rfl,ab⟩;have y0:=(ab.cell (p:=⟨w,0,none⟩) aa.out.size).trans x0;have HB:=zk (aa.out.below.trans (ab.mono aa.out.below.size));clear ab;go_wp2;go_ret;refine ⟨aA ?_,HB.out⟩
 ·rw [decide_eq_false lg];rfl
 ·rw [decide_eq_true h,decide_eq_true h2];rfl
 ·rw [decide_eq_false (p:=n≤32) lg,Bool.and_false];rfl
set_option maxHeartbeats 1600000 in
theorem oK (a b:Option zq) (la lb:List l8) (c d:Nat) (w:zo) (ha:qf w (·<w) a la) (hb:qf w (·<w) b lb) (hl:la.length≤1000000) (hl2:lb.length≤1000000) :
 zu prog 25 #[oy a la.length c,oy b lb.length d] w fun e w'=>e=.returned (.bool (decide (la=lb)))∧zm w w w':=by
 have h1:=zf.new w a la c ha;have ab:qf (w.alloc (zp #[zn a la.length c] 54)) (·<(w.alloc (zp #[zn a la.length c] 54))) b lb:=(hb.below (fun _ h=>h) h1.below).more fun b hb=>zx hb h1.below.size;have h2:=zf.new _ b lb d ab;have h1:=h1.on h2.below;obtain ⟨wX,hwX⟩:∃ wX,(w.alloc (zp #[zn a la.length c] 54)).alloc (zp #[zn b lb.length d] 54)=wX:=⟨_,rfl⟩;have ez:(w.alloc (zp #[zn a la.length c] 54)).heap.size=w+1:=li;have h3:=h2.size;have x1:=h2.cell;rw [hwX] at h1 h3 x1;rw [ez] at h3 x1;have x0:=h1.cell;have hrb:qf wX (·<wX.heap.size) b lb:=by rw [← hwX];exact h2.row
 by_cases hne:la.length=lb.length
 case neg =>
  have h0:decide (la=lb)=false:=decide_eq_false fun e=>hne (by rw [e]);rw [h0];obtain ⟨n,hn⟩:∃ n,la.length=n:=⟨_,rfl⟩;obtain ⟨m,hm⟩:∃ n,lb.length=n:=⟨_,rfl⟩;have HB:=zk h1.below;rw [hn] at hl hne hwX x0 ⊢;rw [hm] at hl2 hne hwX x1 ⊢;clear hn hm ha hb h1 h2 ab hrb ez;have ah:¬ (n:Int)=(m:Int):=lg;go_enter func25,ntmps25;go_wp2;go_ret;exact ⟨rfl,HB.out⟩
 have HE:=zk hne;have aa:=zk h1;have af:=zk hrb;have ag:=zk h3;rw [← hne] at hwX x1 ⊢;obtain ⟨n,hn⟩:∃ n,la.length=n:=⟨_,rfl⟩;have HN:=zk hn;rw [hn] at hl hwX x0 x1 ⊢;clear hn ha hb hl2 hne h1 h2 ab hrb ez h3;obtain ⟨r,hfr⟩:∃ r,decide (la=lb)=r:=⟨_,rfl⟩;rw [hfr];have HF:=zk hfr;clear hfr;go_enter func25,ntmps25;go_wp2;clear hwX
 go_loopw [5] (fun i wr=>∃ k:Nat,k≤n∧i=.int .i64 k∧(∀ j,j<k→la[j]! = lb[j]!)∧zm wX wX wr) (fun i _=>n - (zt i).toNat)
 case atStart=>exact ⟨0,Ab _,rfl,fun j hj=>absurd hj (Nat.not_lt_zero _),Below.refl _ _⟩
 case round =>
  obtain ⟨k,hk,rfl,hall,hbel⟩:=hrel;have y0:=(hbel.cell (p:=⟨w,0,none⟩) aa.out.size).trans x0;have y1:=(hbel.cell (p:=⟨w+1,0,none⟩) ag.out).trans x1;by_cases hlt:k<n
  ·have hkl:k<la.length:=by rw [HN.out];exact hlt
   have ae:k<lb.length:=by rw [← HE.out];exact hkl
   obtain ⟨ad,rfl,hab,q0,q1,q2⟩:=(aa.out.row.below (fun _ h=>h) hbel).at k hkl;obtain ⟨bd,rfl,hbb,r0,r1,r2⟩:=(af.out.below (fun _ h=>h) hbel).at k ae;have hyes:=FP (a:=la) (b:=lb) hall;have hno:¬ la[k]! = lb[k]! → decide (la=lb)=false:=fun h=>decide_eq_false fun e=>h (by rw [e]);obtain ⟨x,hx⟩:∃ x,la[k]! = x:=⟨_,rfl⟩;obtain ⟨y,hy⟩:∃ x,lb[k]! = x:=⟨_,rfl⟩;rw [hx] at q0 q1 q2 hyes hno;rw [hy] at r0 r1 r2 hyes hno;have b0:(0:Int)≤(k:Int):=lg;have b1:(k:Int)<(n:Int):=lg;clear hall hx hy hab hbb;by_cases he:x=y
   ·subst he;have HY:=zk (hyes rfl);obtain ⟨p,o,m⟩:=x;simp only at q0 q1 q2 r0 r1 r2;clear hyes hno;go_wp2_with fail;go_quiet (fail);have ac:=aC hbel nq;clear hbel q0 q1 q2 r0 r1 r2 y0 y1;generalize wr.drewN nq=wx at ac ⊢;go_wp2;go_roundw
    case rel=>exact ⟨k+1,lg,by go_num,HY.out,ac⟩
    case measure=>simp [zt];omega
   ·have h0:=hno he;rw [HF.out] at h0;subst h0;have hp:=TR he;have HB:=zk (aa.out.below.trans (hbel.mono aa.out.below.size));obtain ⟨p,o,m⟩:=x;obtain ⟨p2,o2,m2⟩:=y;simp only at q0 q1 q2 r0 r1 r2 hp;clear hyes hno he hbel;rcases hp with g|⟨rfl,g⟩|⟨rfl,rfl,g⟩
    ·have g1:(p == p2)=false:=beq_eq_false_iff_ne.2 g;go_wp2_with fail;go_quiet (fail);go_wp2;go_ret;exact ⟨rfl,aC HB.out _⟩
    ·have g1:=dQ g;clear g;go_wp2_with fail;go_quiet (fail);go_wp2;go_ret;exact ⟨rfl,aC HB.out _⟩
    ·have g1:=dQ g;clear g;go_wp2_with fail;go_quiet (fail);go_wp2;go_ret;exact ⟨rfl,aC HB.out _⟩
  ·obtain rfl:k=n:=lg;have h0:r=true:=by
    rw [← HF.out];exact decide_eq_true (JV HE.out (by rw [HN.out];exact hall))
   subst h0;have HB:=zk (aa.out.below.trans (hbel.mono aa.out.below.size));clear hall hbel;go_wp2;go_ret;exact ⟨rfl,HB.out⟩
theorem BM {wX wr w1:zo} {o:Obj} (h:zm wX wX wr) (hb:zm (wr.alloc o) (wr.alloc o) w1):zm wX wX w1:=(h.alloc h.size o).trans (hb.mono (by have:=h.size;simp;omega))
set_option maxHeartbeats 1600000 in
theorem iT (t:ByteArray) (a:Option zq) (l:List l8) (c:Nat) (w:zo) (hr:qf w (·<w) a l) (ht:t.size≤140737488355328) (hl:l.length≤1000000) (hf:sh l 140737488355328) :
 zu prog 89 #[zr t,oy a l.length c] w fun e w'=>e=.returned (appV (ms t l))∧zm w w w':=by
 have hst:=zf.new w a l c hr;obtain ⟨n,hn⟩:∃ n,l.length=n:=⟨_,rfl⟩;obtain ⟨⟨rt,re⟩,hR⟩:∃ R,ms t l=R:=⟨_,rfl⟩;rw [hR];obtain ⟨wX,hwX⟩:∃ wX,w.alloc (zp #[zn a l.length c] 54)=wX:=⟨_,rfl⟩;rw [hwX] at hst;have aa:=zk hst;have HN:=zk hn;have HF:=zk hf;have x0:=hst.cell;have ae:ms t (l.drop 0)=(rt,re):=hR;rw [hn] at hl hwX x0 ⊢;have HD:=zk ae;clear hst hr hn hf hR ae;go_enter func89,ntmps89;go_wp2;clear hwX
 go_loopw [0,13] (fun tv i wr=>∃ (k:Nat) (s:ByteArray),k≤n∧i=.int .i64 k∧tv=zr s∧s.size≤140737488355328∧ms s (l.drop k)=(rt,re)∧zm wX wX wr) (fun _ i _=>n - (zt i).toNat)
 case atStart=>exact ⟨0,t,Ab _,rfl,rfl,ht,HD.out,Below.refl _ _⟩
 case round =>
  obtain ⟨k,s,hk,rfl,rfl,hs,hrun,hbel⟩:=hrel;have y0:=(hbel.cell (p:=⟨w,0,none⟩) aa.out.size).trans x0;by_cases hlt:k<n
  ·have hkl:k<l.length:=by rw [HN.out];exact hlt
   obtain ⟨ad,rfl,hab,q0,q1,q2⟩:=(aa.out.row.below (fun _ h=>h) hbel).at k hkl;obtain ⟨z1,z2⟩:=HF.out.at k hkl;rw [edrop l k hkl] at hrun;obtain ⟨x,hx⟩:∃ x,l[k]! = x:=⟨_,rfl⟩;rw [hx] at q0 q1 q2 z1 z2 hrun;obtain ⟨p,o,m⟩:=x;simp only at q0 q1 q2 z1 z2;have ca:=LO s o m hs z1 z2 p;obtain ⟨⟨u,e⟩,hu⟩:∃ y,oq s p o m=y:=⟨_,rfl⟩;rw [hu] at ca;have CA:=zk ca;have HU:=zk hu;have ac:=zk hrun;have bz:=Below.size hbel;have b0:(0:Int)≤(k:Int):=lg;have b1:(k:Int)<(n:Int):=lg;clear ca hu hrun hx z1 z2 hab;by_cases he:e=0
   ·subst he;have af:=zk ((eP HU.out).symm.trans ac.out);have HZ:=zk (bS HU.out);go_wp2_with fail;refine (CA.out _).mono ?_;rintro e w1 ⟨rfl,ab⟩;have HB:=zk (BM hbel ab);clear ab hbel q0 q1 q2;go_wp2;go_roundw
    case rel=>exact ⟨k+1,u,lg,by go_num,rfl,by have:=HZ.out;omega,af.out,HB.out⟩
    case measure=>simp [zt];omega
   ·have hq:=(gX HU.out he).symm.trans ac.out;obtain rfl:(⟨#[]⟩:ByteArray)=rt:=congrArg zy hq;obtain rfl:e=re:=congrArg zz hq;go_wp2_with fail;refine (CA.out _).mono ?_;rintro e w1 ⟨rfl,ab⟩;have HB:=zk (aa.out.below.trans ((BM hbel ab).mono aa.out.below.size));clear ab hbel q0 q1 q2;go_wp2;go_ret2;exact ⟨rfl,HB.out⟩
  ·obtain rfl:k=n:=lg;rw [List.drop_eq_nil_of_le (by rw [HN.out];exact Aa _),dR] at hrun;obtain rfl:s=rt:=congrArg zy hrun;obtain rfl:0=re:=congrArg zz hrun;have HB:=zk (aa.out.below.trans (hbel.mono aa.out.below.size));clear hrun hbel;go_wp2;go_ret2;exact ⟨rfl,HB.out⟩
set_option maxHeartbeats 1600000 in
theorem qS (t:ByteArray) (a:Option zq) (l:List l8) (c:Nat) (w:zo) (hr:qf w (·<w) a l) (ht:t.size≤140737488355328) (hl:l.length≤1000000) (hf:sh l 140737488355328) :
 zu prog 88 #[zr t,oy a l.length c] w fun e w'=>e=.returned (.bool (m9 t l))∧zm w w w':=by
 have hst:=zf.new w a l c hr;have cr:=iT t a l c _ hst.row ht hl hf;obtain ⟨wX,hwX⟩:∃ wX,w.alloc (zp #[zn a l.length c] 54)=wX:=⟨_,rfl⟩;rw [hwX] at hst cr;have x0:=hst.cell;have r1:=DQ (t:=t) (l:=l);have r2:=zT (t:=t) (l:=l);have r3:=FZ (t:=t) (l:=l);obtain ⟨⟨rt,re⟩,hR⟩:∃ R,ms t l=R:=⟨_,rfl⟩;rw [hR] at cr r3;obtain ⟨r,hrr⟩:∃ r,m9 t l=r:=⟨_,rfl⟩;rw [hrr] at r1 r2 r3 ⊢;obtain ⟨n,hn⟩:∃ n,l.length=n:=⟨_,rfl⟩;have aa:=zk hst;rw [hn] at hl hwX x0 cr r1 r2 r3 ⊢;have CR:=zk cr;clear hst hr hn hf hR cr hrr;rcases (show n<1∨(1≤n∧n≤32)∨32<n by omega) with h|⟨h,h2⟩|h
 ·obtain rfl:=r1 h;clear r1 r2 r3;go_enter func88,ntmps88;go_wp2;go_ret;exact ⟨rfl,aa.out.below⟩
 ·obtain rfl:=r3 h h2;clear r1 r2 r3;go_enter func88,ntmps88;go_wp2_with fail;refine CR.out.mono ?_;rintro e w1 ⟨rfl,ab⟩;have HB:=zk (aa.out.below.trans (ab.mono aa.out.below.size));clear ab;go_wp2;go_ret;exact ⟨rfl,HB.out⟩
 ·obtain rfl:=r2 h;clear r1 r2 r3;go_enter func88,ntmps88;go_wp2;go_ret;exact ⟨rfl,aa.out.below⟩
end Go.Proofs.YtbagenpobcgjnaaGreat
