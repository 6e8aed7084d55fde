/-
  LawRpl3
-/
import Derived.Test.YtbagenpobcgjnaaGreatJOpenSta4
import Derived.Test.YtbagenpobcgjnaaGreatJRplRead
open Go.Lib renaming hid->zk
open Go.Value renaming bool->zn,slice->zm,string->zq
open Nat renaming le_trans->zo,lt_of_lt_of_le->zu,zero_le->zt
namespace Go.Proofs.YtbagenpobcgjnaaGreat
open Go.Proofs.Tryz
set_option maxRecDepth 100000
open Lib (hid)
open Go.RowKit
set_option linter.unusedVariables false
set_option linter.unusedSimpArgs false
theorem iQ {N:Nat} (e:Int):oi (ni.none e).a∧(ni.none e).s.size≤N:=⟨by show oi 0;unfold oi;omega,zt _⟩
theorem mW {k a n:Int} {s:ByteArray} {N:Nat} (ha:oi a) (hs:s.size≤N):oi (qc k a n s).a∧(qc k a n s).s.size≤N:=by
 unfold qc;split
 ·exact ⟨ha,hs⟩
 ·exact iQ _
theorem wJ (s:ByteArray):oi (pu s):=by
 have h:tp s.data.toList 0 4<4294967296:=hP s.data.toList 4 0;unfold pu oi;omega
theorem oU (s:ByteArray) (a:Nat):(s.extract a s.size).size≤s.size:=li
theorem iV (s:ByteArray):oi (su s).a∧(su s).s.size≤s.size:=by
 have z:oi 0:=by unfold oi;omega
 unfold su;split
 ·have h1:=oU s 1;generalize s.extract 1 s.size=t at h1;have h2:(my t).size≤s.size:=zo (oU t 4) h1;have h3:(my (my t)).size≤s.size:=zo (oU _ 4) h2;unfold xj;split
  ·exact iQ _
  split
  ·split
   ·exact iQ _
   ·exact mW (wJ _) h2
  split
  ·split
   ·exact iQ _
   ·exact mW (wJ _) h3
  ·exact mW z h1
 ·exact iQ _
set_option maxHeartbeats 3200000 in
theorem nV (s:l7) (a:Option Addr) (l:List vq) (c n:Nat) (w:World) (hin:ol w s) (hl:zd s) (hr:sd w (·<w) a l) (hn:l.length=n) (hfew:s.few=false) :
 Calls prog 4 #[s.v,zm a n c] w fun e w'=>e=.returned (zn true)∧Below w w w':=by
 obtain ⟨wX,hwX,kS,aa,af⟩:=n8 w #[zq s.t,zm s.m.a s.m.l.length s.m.c,zm s.u.a s.u.l.length s.u.c,zm s.r.a s.r.l.length s.r.c,zn s.o,zm s.g.a s.g.l.length s.g.c] 26;have cf:=lR s wX (hin.later aa) hl;rw [hfew] at cf;have CF:=zk cf;have ab:=zk aa;obtain ⟨z0,z1,z2,z3,z4,z5,f0,f1,f2,f3,f4,f5⟩:=kS.all6;clear cf kS aa af hin hl hr hn;go_enter func4,ntmps4;go_wp2_with fail;refine CF.out.mono ?_;rintro e w1 ⟨rfl,ac⟩;have ad:=zk (ab.out.trans (ac.mono ab.out.size));clear ac;go_wp2_with fail;refine (fN _).mono ?_;rintro e w3 ⟨rfl,ae⟩;have ag:=zk (ad.out.trans (ae.mono ad.out.size));clear ae z0 z1 z2 z3 z4 z5 f0 f1 f2 f3 f4 f5 hwX;go_wp2;go_ret;exact ⟨rfl,ag.out⟩
set_option maxHeartbeats 3200000 in
theorem oB (s:l7) (a:Option Addr) (l:List vq) (c n:Nat) (w:World) (hin:ol w s) (hl:zd s) (hr:sd w (·<w) a l) (hn:l.length=n) (hfew:s.few=true) (h40:40<n) :
 Calls prog 4 #[s.v,zm a n c] w fun e w'=>e=.returned (zn true)∧Below w w w':=by
 obtain ⟨wX,hwX,kS,aa,af⟩:=n8 w #[zq s.t,zm s.m.a s.m.l.length s.m.c,zm s.u.a s.u.l.length s.u.c,zm s.r.a s.r.l.length s.r.c,zn s.o,zm s.g.a s.g.l.length s.g.c] 26;have cf:=lR s wX (hin.later aa) hl;rw [hfew] at cf;have g40:(40:Int)<(n:Int):=lg;have CF:=zk cf;have ab:=zk aa;obtain ⟨z0,z1,z2,z3,z4,z5,f0,f1,f2,f3,f4,f5⟩:=kS.all6;clear cf kS aa af hin hl hr hn;go_enter func4,ntmps4;go_wp2_with fail;refine CF.out.mono ?_;rintro e w1 ⟨rfl,ac⟩;have ad:=zk (ab.out.trans (ac.mono ab.out.size));clear ac;go_wp2_with fail;refine (fN _).mono ?_;rintro e w3 ⟨rfl,ae⟩;have ag:=zk (ad.out.trans (ae.mono ad.out.size));clear ae z0 z1 z2 z3 z4 z5 f0 f1 f2 f3 f4 f5 hwX;go_wp2;go_ret;exact ⟨rfl,ag.out⟩
set_option maxHeartbeats 3200000 in
theorem qE (s:l7) (a:Option Addr) (l:List vq) (c n:Nat) (w:World) (hin:ol w s) (hl:zd s) (hr:sd w (·<w) a l) (hn:l.length=n) (hz:tg s) (hfew:s.few=true) (h40:n≤40) :
 Calls prog 4 #[s.v,zm a n c] w fun e w'=>e=.returned (zn true)∧Below w w w':=by
 obtain ⟨wX,hwX,kS,ah,a7⟩:=n8 w #[zq s.t,zm s.m.a s.m.l.length s.m.c,zm s.u.a s.u.l.length s.u.c,zm s.r.a s.r.l.length s.r.c,zn s.o,zm s.g.a s.g.l.length s.g.c] 26;have cf:=lR s wX (hin.later ah) hl;rw [hfew] at cf;have cp:=fun (hall:∀ x∈l,x.data.size≤700) V (hV:Below w w V)=>vP s l a c n [] V (fun i hi=>absurd hi li) (hin.later hV) hz ((hr.below (fun _ h=>h) hV).more fun b h=>zu h hV.size) hn lg (fun x hx=>zo (hall x hx) lj) (fun x hx=>⟨(iV x.data).1,zo (iV x.data).2 (zo (hall x hx) lj)⟩);have cd:=fun (hall:∀ x∈l,x.data.size≤700) V (hV:Below w w V)=>uI s l a c n [] V (fun i hi=>absurd hi li) (hin.later hV).bare hz ((hr.below (fun _ h=>h) hV).more fun b h=>zu h hV.size) hn lg (fun x hx=>zo (hall x hx) lj) (fun x hx=>⟨(iV x.data).1,zo (iV x.data).2 (zo (hall x hx) lj)⟩);have hinv:=MX s (s9 l);generalize se s (s9 l)=R at cp cd hinv;obtain ⟨rd,rn,re⟩:=R;have CF:=zk cf;have ao:=zk ah;have CP:=zk cp;have CD:=zk cd;have KS:=zk kS;have ai:=zk (show mx rd from hinv);have HR:=zk hr;have HN:=zk hn;have g40:¬ (40:Int)<(n:Int):=lg;obtain ⟨z0,z1,z2,z3,z4,z5,f0,f1,f2,f3,f4,f5⟩:=kS.all6;clear cf cp cd kS ah a7 hin hl hr hn hz hfew hinv h40;go_enter func4,ntmps4;go_wp2_with fail;refine CF.out.mono ?_;rintro e w1 ⟨rfl,aj⟩;have ae:=zk aj;have ab:=zk (ao.out.trans (aj.mono ao.out.size));clear aj z0 z1 z2 z3 z4 z5 f0 f1 f2 f3 f4 f5 hwX;go_wp2
 go_loopw [5] (fun i wr=>∃ k:Nat,k≤n∧i=.int .i64 k∧(∀ x∈l.take k,x.data.size≤700)∧w1=wr) (fun i _=>n - (intOf i).toNat)
 case atStart=>exact ⟨0,zt _,rfl,fun x hx=>absurd hx li,rfl⟩
 case round =>
  obtain ⟨k,hk,rfl,hall,rfl⟩:=hrel;by_cases hlt:k<n
  ·have hkl:k<l.length:=by rw [HN.out];exact hlt
   obtain ⟨ad,rfl,hab,q0,q1,q2⟩:=(HR.out.below (fun _ h=>h) ab.out) k hkl;have b0:(0:Int)≤(k:Int):=lg;have b1:(k:Int)<(n:Int):=lg;obtain ⟨y,hy⟩:∃ y,l[k]=y:=⟨_,rfl⟩;rw [hy] at q0 q1 q2;by_cases h7:700<y.data.size
   ·have t2:(700:Int)<(y.data.size:Int):=lg;clear hall hab hy;go_wp2_with fail;refine (fN _).mono ?_;rintro e w3 ⟨rfl,aa⟩;have ac:=zk (ab.out.trans (aa.mono ab.out.size));clear aa;go_wp2;go_ret;exact ⟨rfl,ac.out⟩
   ·have t2:¬ (700:Int)<(y.data.size:Int):=lg;have HA:=zk (show ∀ x∈l.take (k+1),x.data.size≤700 from fun x hx=>by
     rw [List.take_add_one,List.getElem?_eq_getElem hkl,hy] at hx;rcases List.mem_append.1 hx with hx|hx
     ·exact hall x hx
     ·have:x=y:=by simpa using hx
      rw [this];omega)
    clear hall hab hy;go_wp2;go_roundw
    case rel=>exact ⟨k+1,lg,by go_num,HA.out,by trivial⟩
    case measure=>simp [intOf];omega
  ·obtain rfl:k=n:=lg;rw [List.take_of_length_le (by rw [HN.out];exact Nat.le_refl _)] at hall;have a8:=zk (CP.out hall);have a9:=zk (CD.out hall);obtain ⟨z0,z1,z2,z3,z4,z5,-,-,-,-,-,-⟩:=(KS.out.onto ae.out).all6;clear hall;go_wp2_with fail;refine (a8.out _ ab.out).mono ?_;rintro e w3 ⟨⟨t3,⟨ma3,ml3,mc3⟩,⟨ua3,ul3,uc3⟩,⟨ra3,rl3,rc3⟩,so3,⟨ga3,gl3,gc3⟩⟩,rfl,aq,ar,aa⟩;obtain ⟨W3,au,k3,af,bc⟩:=n8 w3 #[zq t3,zm ma3 ml3.length mc3,zm ua3 ul3.length uc3,zm ra3 rl3.length rc3,zn so3,zm ga3 gl3.length gc3] 26;have av:=zk (ae.out.trans ((aa.trans (af.mono aa.size)).mono ae.out.size));have aw:=zk (ar.in.later af);have K3:=zk k3;have ax:=zk aq;have ay:=zk au;have ac:=zk (ab.out.trans ((aa.trans (af.mono aa.size)).mono ab.out.size));clear aq ar aa au k3 af z0 z1 z2 z3 z4 z5;obtain ⟨z0,z1,z2,z3,z4,z5,-,-,-,-,-,-⟩:=(KS.out.onto av.out).all6;rw [← ay.out] at z0 z1 z2 z3 z4 z5;go_wp2_with fail;rw [ay.out];refine (a9.out _ ac.out).mono ?_;rintro e w5 ⟨⟨t4,⟨ma4,ml4,mc4⟩,⟨ua4,ul4,uc4⟩,⟨ra4,rl4,rc4⟩,so4,⟨ga4,gl4,gc4⟩⟩,rfl,ak,az,al⟩;obtain ⟨W5,am,k4,an,bd⟩:=n8 w5 #[zq t4,zm ma4 ml4.length mc4,zm ua4 ul4.length uc4,zm ra4 rl4.length rc4,zn so4,zm ga4 gl4.length gc4] 26;have ag:=al.trans (an.mono al.size);have a0:=ac.out.trans (ag.mono ac.out.size);have a1:=aw.out.later ag;have a2:=az.in.later an;have hde:l7.d ⟨t3,⟨ma3,ml3,mc3⟩,⟨ua3,ul3,uc3⟩,⟨ra3,rl3,rc3⟩,so3,⟨ga3,gl3,gc3⟩⟩=l7.d ⟨t4,⟨ma4,ml4,mc4⟩,⟨ua4,ul4,uc4⟩,⟨ra4,rl4,rc4⟩,so4,⟨ga4,gl4,gc4⟩⟩:=ax.out.trans ak.symm;have cs:=zG ⟨t3,⟨ma3,ml3,mc3⟩,⟨ua3,ul3,uc3⟩,⟨ra3,rl3,rc3⟩,so3,⟨ga3,gl3,gc3⟩⟩ ⟨t4,⟨ma4,ml4,mc4⟩,⟨ua4,ul4,uc4⟩,⟨ra4,rl4,rc4⟩,so4,⟨ga4,gl4,gc4⟩⟩ W5 a1 a2 (show mx (l7.d ⟨t3,⟨ma3,ml3,mc3⟩,⟨ua3,ul3,uc3⟩,⟨ra3,rl3,rc3⟩,so3,⟨ga3,gl3,gc3⟩⟩) by rw [ax.out];exact ai.out).few (show mx (l7.d ⟨t4,⟨ma4,ml4,mc4⟩,⟨ua4,ul4,uc4⟩,⟨ra4,rl4,rc4⟩,so4,⟨ga4,gl4,gc4⟩⟩) by rw [ak];exact ai.out).few;rw [hde,FG] at cs;have CS:=zk cs;have a3:=zk a0;have ba:=zk am;obtain ⟨x0,x1,x2,x3,x4,x5,-,-,-,-,-,-⟩:=(K3.out.onto ag).all6;obtain ⟨y0,y1,y2,y3,y4,y5,-,-,-,-,-,-⟩:=k4.all6;rw [← am] at x0 x1 x2 x3 x4 x5 y0 y1 y2 y3 y4 y5;clear ak az al am k4 an ag a0 a1 a2 hde cs z0 z1 z2 z3 z4 z5 aw av ae;go_wp2_with fail;rw [ba.out];refine CS.out.mono ?_;rintro e w6 ⟨rfl,a4⟩;have a5:=zk (a3.out.trans (a4.mono a3.out.size));clear a4 x0 x1 x2 x3 x4 x5 y0 y1 y2 y3 y4 y5;go_wp2_with fail;refine (fN _).mono ?_;rintro e w7 ⟨rfl,a6⟩;have bb:=zk (a5.out.trans (a6.mono a5.out.size));clear a6;go_wp2;go_ret;exact ⟨by first|rfl|simp,bb.out⟩
theorem replayFrames_walk (s:l7) (a:Option Addr) (l:List vq) (c:Nat) (w:World) (hin:ol w s) (hl:zd s) (he:StaE s) (hr:sd w (·<w) a l) (_hf:∀ x∈l,x.fits) (_hm:l.length≤maxLen) :
 Calls prog 4 #[s.v,zm a l.length c] w fun e w'=>e=.returned (zn true)∧Below w w w':=by
 cases hs:s.few
 ·exact nV s a l c _ w hin hl hr rfl hs
 by_cases h40:40<l.length
 ·exact oB s a l c _ w hin hl hr rfl hs h40
 exact qE s a l c _ w hin hl hr rfl (TB he hs) hs lg
end Go.Proofs.YtbagenpobcgjnaaGreat
