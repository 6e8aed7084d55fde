/-
  Joined: OpBytes, OpFill.
-/
import Derived.Test.YtbagenpobcgjnaaGreatJOpDev
import Derived.Test.YtbagenpobcgjnaaGreatJChunkCut
open Go renaming Calls->zz,Value->Ab,World->zq,bodyPost_ret->zu,results->zv
open Go.Ending renaming returned->zw
open Go.Instr renaming typeAssert->Ag
open Go.IntKind renaming i64->zm
open Go.Lib renaming hid->zn
open Go.Obj renaming cells->Aa
open Go.RowKit renaming Below->zt,intOf->zy
open Go.RowKit.Below renaming refl->zx
open Go.Value renaming bool->Ae,int->zk,pointer->zr,string->zo,tuple->Ad
open Nat renaming le_of_eq->Af,le_refl->zp
namespace Go.Proofs.YtbagenpobcgjnaaGreat
open Go.Proofs.Tryz
open Go.RowKit
set_option linter.unusedSimpArgs false
theorem SZ (v:Ab) (w:zq):(Ag (.iface 143 v) 125 143 true).run prog w=.ok (Ad #[v,Ae true]) w:=lh
theorem AL (v:Ab) (w:zq):(Ag (.iface 145 v) 125 143 true).run prog w=.ok (Ad #[zr none,Ae false]) w:=lh
theorem UB (v:Ab) (w:zq):(Ag (.iface 145 v) 125 145 true).run prog w=.ok (Ad #[v,Ae true]) w:=lh
theorem AF (v:Ab) (w:zq):(Ag (.iface 147 v) 125 143 true).run prog w=.ok (Ad #[zr none,Ae false]) w:=lh
theorem AV (v:Ab) (w:zq):(Ag (.iface 147 v) 125 145 true).run prog w=.ok (Ad #[zr none,Ae false]) w:=lh
theorem TH (v:Ab) (w:zq):(Ag (.iface 147 v) 125 147 true).run prog w=.ok (Ad #[v,Ae true]) w:=lh
theorem eL {w w1 w2:zq} {b g:Nat} {cs fs:Array Ab} (hx:l6 w1 b cs 50) (hB:zt w w w1) (lo:w≤b) (hg:l6 w2 g fs 125) (hgl:w1≤g) (hb:zt w1 w1 w2):Rt w b g cs fs w2:=
 ⟨hx.onto hb,hg,hB.trans (hb.mono hB.size),Nat.lt_of_lt_of_le hx.lt hgl,lo⟩
set_option maxRecDepth 100000
open Lib (hid)
def FillN (b o:Nat) (x:Int) (ok:Bool) (w:zq) (e:Ending) (w':zq):Prop:=
 ∃ w1,e=zw (Ad #[zk zm 4,Ae ok])∧zt w w w1∧w'=w1.setCell ⟨b,o,none⟩ (zk zm x)
theorem dF (v:Int) (s:ByteArray) (hs:s.size≤maxLen) (b o:Nat) (w:zq) (hlt:b<w) (hc:w ⟨b,o,none⟩=some (zk zm v)) (hf:w.frozen? ⟨b,o,none⟩=false) :
 zz prog 78 #[.iface 143 (zr (some ⟨b,o,none⟩)),zo s] w (FillN b o (sa s.data.toList 0 4).1 (sa s.data.toList 0 4).2 w):=by
 have hg:=NW s hs 0;obtain ⟨⟨x,ok⟩,hx⟩:∃ x,sa s.data.toList 0 4=x:=⟨_,rfl⟩;rw [hx] at hg ⊢;have HG:=zn hg;clear hg hx;have h1:=SZ;have HL:=zn hlt;have HC:=zn hc;have HF:=zn hf;clear hlt hc hf;go_enter func78,ntmps78;go_wp2_with fail;refine (HG.out _).mono ?_;rintro e w1 ⟨rfl,aa⟩;have c1:w1 ⟨b,o,none⟩=some (zk zm v):=(aa.cell (p:=⟨b,o,none⟩) HL.out).trans HC.out;have f1:w1.frozen? ⟨b,o,none⟩=false:=(aa.frozen (p:=⟨b,o,none⟩) HL.out).trans HF.out;have HB:=zn aa;clear aa;go_wp2;go_ret2;exact ⟨w1,rfl,HB.out,rfl⟩
theorem MV (v:Ab) (s:ByteArray) (b o:Nat) (w:zq) (hc:w ⟨b,o,none⟩=some v) (hf:w.frozen? ⟨b,o,none⟩=false) :
 zz prog 78 #[.iface 145 (zr (some ⟨b,o,none⟩)),zo s] w fun e w'=>e=zw (Ad #[zk zm s.size,Ae true])∧w'=w.setCell ⟨b,o,none⟩ (zo s):=by
 have h1:=AL;have h2:=UB;go_enter func78,ntmps78;go_wp2;go_ret2;exact ⟨rfl,rfl⟩
theorem wT (v:Ab) (s:ByteArray) (b o:Nat) (w:zq) (hc:w ⟨b,o,none⟩=some v) (hf:w.frozen? ⟨b,o,none⟩=false) :
 zz prog 78 #[.iface 147 (zr (some ⟨b,o,none⟩)),zo s] w fun e w'=>e=zw (Ad #[zk zm s.size,Ae true])∧w'=w.setCell ⟨b,o,none⟩ (zo s):=by
 have h1:=AF;have h2:=AV;have h3:=TH;go_enter func78,ntmps78;go_wp2;go_ret2;exact ⟨rfl,rfl⟩
theorem GM {k:Int} (hk:k<1∨4<k) (a n:Int) {s:ByteArray} (h:s.size≠0):nh k a n s.data.toList=false:=by
 rcases xi k with g|g|g|g|g|g
 ·omega
 ·omega
 ·omega
 ·omega
 ·rw [yj g.1 g.2,bC,decide_eq_false h,Bool.and_false]
 ·exact iW g _ _ _
theorem cQ {w w0 wr w5:zq} {b g:Nat} {cs fs:Array Ab} (hw:w0=w.alloc (Aa #[zk zm 0,zk zm 0,zk zm 0,zo ⟨#[]⟩] 50)) (h:Rt w0 b g cs fs wr) (hb:zt wr wr w5) :
 l6 w5 w #[zk zm 0,zk zm 0,zk zm 0,zo ⟨#[]⟩] 50∧l6 w5 b cs 50∧zt w w w5:=by
 subst hw;have hB:=h.B.trans (hb.mono h.B.size);exact ⟨(l6.new w _ _).onto hB,h.x.onto hb,((zx _ _).alloc (zp _) _).trans (hB.mono li)⟩
theorem dG {a b:ni} (h:a=b):zw (pi a)=zw (pi b):=by rw [h]
def Ft2 (two:Bool) (S0 S1 S2:ByteArray) (w:zq) (b g:Nat) (fs c0 c1 c2:Array Ab) (t i:Ab) (wr:zq):Prop:=
 (t=zo S0∧i=zk zm 0∧Rt w b g c0 fs wr)∨(t=zo S1∧i=zk zm 1∧Rt w b g c1 fs wr)∨(two=true∧t=zo S2∧i=zk zm 2∧Rt w b g c2 fs wr)
set_option maxHeartbeats 1600000 in
theorem EA (w:zq) :
 zz prog 52 #[zo ⟨#[]⟩] w fun e w'=>e=zw (pi (ni.none 18))∧zt w w w':=by
 go_enter func52,ntmps52;go_wp2;exact zu (v:=pi (ni.none 18)) (by simp [zv,results52,go_sem,pi,ni.none]) rfl ⟨rfl,(zx _ _).alloc (zp _) _⟩
set_option maxHeartbeats 1600000 in
theorem sJ (s T:ByteArray) (k:Nat) (hs:s.size≤4294967296) (h0:0<s.size) (hk:s[0].toNat=k) (hT:s.extract 1 s.size=T) (hk1:k<1∨4<k) (w:zq) :
 zz prog 52 #[zo s] w fun e w'=>e=zw (pi (qc k 0 0 T))∧zt w w w':=by
 obtain ⟨R,hR⟩:∃ R,qc k 0 0 T=R:=⟨_,rfl⟩;rw [hR];have ae:=zn hR;clear hR;have he:=aE s;rw [decide_eq_false lg] at he;have an:k<256:=by rw [← hk];exact s[0].toNat_lt
 have hz:w.heap.size+1=(w.alloc (Aa #[zk zm 0,zk zm 0,zk zm 0,zo ⟨#[]⟩] 50)):=li;have hX:=l6.new (w.alloc (Aa #[zk zm 0,zk zm 0,zk zm 0,zo ⟨#[]⟩] 50)) #[zk zm k,zk zm 0,zk zm 0,zo ⟨#[]⟩] 50;rw [← hz] at hX;have HH:=zn (wW k lg _ _ _ _ _ hX);have HX:=zn hX;have HB:=zn (((zx w w).alloc (zp _) (Aa #[zk zm 0,zk zm 0,zk zm 0,zo ⟨#[]⟩] 50)).alloc li (Aa #[zk zm k,zk zm 0,zk zm 0,zo ⟨#[]⟩] 50));have ah:=zn ((l6.new w #[zk zm 0,zk zm 0,zk zm 0,zo ⟨#[]⟩] 50).alloc (Aa #[zk zm k,zk zm 0,zk zm 0,zo ⟨#[]⟩] 50));clear hX hz;have ai:=aE T;by_cases hz:T.size=0
 ·have al:=dE hz;subst al;have hr:=dK k 0 0 ⟨#[]⟩ (by unfold maxLen;decide);obtain ⟨r,af⟩:∃ r,nh k 0 0 (⟨#[]⟩:ByteArray).data.toList=r:=⟨_,rfl⟩;rw [af] at hr;have aj:=zn af;have HR:=zn hr;clear hr af hz ai;go_enter func52,ntmps52;go_wp2_with fail;refine HH.out.mono ?_;rintro e w2 ⟨rfl,aa⟩;have ac:=zn (show zt w.heap.size w w2 by rw [← aa];exact HB.out.drew);have ak:=zn (show l6 w2 (w+1) #[zk zm k,zk zm 0,zk zm 0,zo ⟨#[]⟩] 50 by rw [← aa];exact HX.out);have ad:=zn (show l6 w2 w.heap.size #[zk zm 0,zk zm 0,zk zm 0,zo ⟨#[]⟩] 50 by rw [← aa];exact ah.out);clear aa;go_wp2
  go_loopw [5,21] (fun t i wr=>t=zo ⟨#[]⟩∧i=zk zm 0∧wr=w2) (fun _ _ _=>0)
  case atStart=>exact ⟨rfl,rfl,rfl⟩
  case round =>
   obtain ⟨rfl,rfl,rfl⟩:=hrel;obtain ⟨x0,x1,x2,x3,-,-,-,-⟩:=ak.out.four;cases r
   ·go_wp2_with fail;refine (HR.out _).mono ?_;rintro e w5 ⟨rfl,ab⟩;obtain ⟨c0,c1,c2,c3,f0,f1,f2,f3⟩:=(ad.out.onto ab).four;have ag:=zn (ac.out.trans (ab.mono ac.out.size));clear ab;go_wp2;exact zu (v:=pi (ni.none 5)) (by simp [zv,results52,go_sem,pi,ni.none,c0,c1,c2,c3]) rfl ⟨dG (by rw [← ae.out,bP aj.out]),aG ag.out (zp _) _ _ _ _⟩
   ·go_wp2_with fail;refine (HR.out _).mono ?_;rintro e w5 ⟨rfl,ab⟩;obtain ⟨c0,c1,c2,c3,f0,f1,f2,f3⟩:=(ad.out.onto ab).four;obtain ⟨d0,d1,d2,d3,-,-,-,-⟩:=(ak.out.onto ab).four;have ag:=zn (ac.out.trans (ab.mono ac.out.size));clear ab x0 x1 x2 x3;go_wp2;exact zu (v:=pi ⟨k,0,0,⟨#[]⟩,0⟩) (by simp [zv,results52,go_sem,pi,c0,c1,c2,c3]) rfl ⟨dG (by rw [← ae.out,cZ aj.out]),aG ag.out (zp _) _ _ _ _⟩
 ·rw [decide_eq_false hz] at ai;have am:=zn (bP (GM (k:=k) lg 0 0 hz));go_enter func52,ntmps52;go_wp2_with fail;refine HH.out.mono ?_;rintro e w2 ⟨rfl,aa⟩;have ac:=zn (show zt w.heap.size w w2 by rw [← aa];exact HB.out.drew);have ad:=zn (show l6 w2 w.heap.size #[zk zm 0,zk zm 0,zk zm 0,zo ⟨#[]⟩] 50 by rw [← aa];exact ah.out);clear aa;go_wp2
  go_loopw [5,21] (fun t i wr=>t=zo T∧i=zk zm 0∧wr=w2) (fun _ _ _=>0)
  case atStart=>exact ⟨rfl,rfl,rfl⟩
  case round =>
   obtain ⟨rfl,rfl,rfl⟩:=hrel;obtain ⟨c0,c1,c2,c3,f0,f1,f2,f3⟩:=ad.out.four;go_wp2;exact zu (v:=pi (ni.none 5)) (by simp [zv,results52,go_sem,pi,ni.none,c0,c1,c2,c3]) rfl ⟨dG (by rw [← ae.out,am.out]),aG ac.out (zp _) _ _ _ _⟩
set_option maxHeartbeats 1600000 in
theorem rD (s T:ByteArray) (hs:s.size≤4294967296) (h0:0<s.size) (hk:s[0].toNat=1) (hT:s.extract 1 s.size=T) (h4:T.size<4) (w:zq) :
 zz prog 52 #[zo s] w fun e w'=>e=zw (pi (ni.none 18))∧zt w w w':=by
 have he:=aE s;rw [decide_eq_false lg] at he;obtain ⟨W0,aa⟩:∃ W0,w.alloc (Aa #[zk zm 0,zk zm 0,zk zm 0,zo ⟨#[]⟩] 50)=W0:=⟨_,rfl⟩;have hz:W0.heap.size=w+1:=by rw [← aa];simp
 have ac:=zn aa;have hX:=l6.new W0 #[zk zm 1,zk zm 0,zk zm 0,zo ⟨#[]⟩] 50;rw [hz] at hX;have HX:=zn hX;have HH:=zn (rI _ _ _ _ _ hX);have hlo:W0.heap.size≤w+1:=Af hz;have HL:=zn hlo;rw [← aa] at HH HX;clear hX hz hlo aa;have hq:=dF 0 T lq;rw [dY T h4] at hq;have Q0:=zn hq;clear hq;go_enter func52,ntmps52;go_wp2_with fail;refine HH.out.mono ?_;rintro e w2 ⟨g,rfl,hg,hgl,ab⟩;rw [ac.out] at hgl ab HX;have HT:=zn (eL (w:=W0) HX.out ((zx W0 W0).alloc (zp _) _) HL.out hg hgl ab);clear hg hgl ab;go_wp2
 go_loopw [5,21] (fun t i wr=>t=zo T∧i=zk zm 0∧Rt W0 (w+1) g #[zk zm 1,zk zm 0,zk zm 0,zo ⟨#[]⟩] #[.iface 143 (zr (some ⟨w+1,1,none⟩)),.iface 145 (zr (some ⟨w+1,3,none⟩))] wr) (fun _ i _=>2 - (zy i).toNat)
 case atStart=>exact ⟨rfl,rfl,HT.out⟩
 case round =>
  clear HT;obtain ⟨rfl,rfl,ht⟩:=hrel;obtain ⟨g0,g1⟩:=ht.f.duo;obtain ⟨x0,x1,x2,x3,y0,y1,y2,y3⟩:=ht.x.four;have HT:=zn ht;clear ht;go_wp2_with fail;refine (Q0.out _ _ _ HT.out.x.lt x1 y1).mono ?_;rintro e w3 ⟨w4,rfl,ad,rfl⟩;have hR:=zn ((HT.out.on ad).set 1 (zk zm 0));obtain ⟨B0,-,hbw⟩:=cQ ac.out.symm hR.out (zx _ _);have HB:=zn hbw;obtain ⟨c0,c1,c2,c3,f0,f1,f2,f3⟩:=B0.four;clear hbw ad;go_wp2;exact zu (v:=pi (ni.none 18)) (by simp [zv,results52,go_sem,pi,ni.none,c0,c1,c2,c3]) rfl ⟨rfl,aG HB.out (zp _) _ _ _ _⟩
set_option maxHeartbeats 1600000 in
theorem NH (s T:ByteArray) (hs:s.size≤4294967296) (h0:0<s.size) (hk:s[0].toNat=1) (hT:s.extract 1 s.size=T) (h4:4≤T.size) (w:zq) :
 zz prog 52 #[zo s] w fun e w'=>e=zw (pi (qc 1 (pu T) 0 (my T)))∧zt w w w':=by
 have hts:T.size≤4294967296:=by rw [← hT];simp;omega
 obtain ⟨R,hR⟩:∃ R,qc 1 (pu T) 0 (my T)=R:=⟨_,rfl⟩;rw [hR];have he:=aE s;rw [decide_eq_false lg] at he;obtain ⟨W0,ab⟩:∃ W0,w.alloc (Aa #[zk zm 0,zk zm 0,zk zm 0,zo ⟨#[]⟩] 50)=W0:=⟨_,rfl⟩;have hz:W0.heap.size=w+1:=by rw [← ab];simp
 have ac:=zn ab;have hX:=l6.new W0 #[zk zm 1,zk zm 0,zk zm 0,zo ⟨#[]⟩] 50;rw [hz] at hX;have HX:=zn hX;have HH:=zn (rI _ _ _ _ _ hX);have hlo:W0.heap.size≤w+1:=Af hz;have HL:=zn hlo;rw [← ab] at HH HX;clear hX hz hlo ab;have hq:=dF 0 T lq;rw [bX T lg] at hq;unfold pu at hR;obtain ⟨x,af⟩:∃ x,tp T.data.toList 0 4=x:=⟨_,rfl⟩;rw [af] at hq hR;have hu:(my T).size≤4294967296:=by unfold my;simp;omega
 obtain ⟨U,hU⟩:∃ U,my T=U:=⟨_,rfl⟩;rw [hU] at hR hu;have aj:T.extract 4 T.size=U:=hU;have Q0:=zn hq;clear hq af hU;have hE:U.extract U.size U.size=⟨#[]⟩:=dE li;have hr:=dK 1 x 0 U lq;obtain ⟨r,ad⟩:∃ r,nh 1 x 0 U.data.toList=r:=⟨_,rfl⟩;rw [ad] at hr;have ag:=zn ad;have HR:=zn hr;have ah:=zn hR;clear ad hr hR;go_enter func52,ntmps52;go_wp2_with fail;refine HH.out.mono ?_;rintro e w2 ⟨g,rfl,hg,hgl,ae⟩;rw [ac.out] at hgl ae HX;have HT:=zn (eL (w:=W0) HX.out ((zx W0 W0).alloc (zp _) _) HL.out hg hgl ae);clear hg hgl ae;go_wp2
 go_loopw [5,21] (fun t i wr=>Ft2 true T U ⟨#[]⟩ W0 (w+1) g #[.iface 143 (zr (some ⟨w+1,1,none⟩)),.iface 145 (zr (some ⟨w+1,3,none⟩))] #[zk zm 1,zk zm 0,zk zm 0,zo ⟨#[]⟩] #[zk zm 1,zk zm x,zk zm 0,zo ⟨#[]⟩] #[zk zm 1,zk zm x,zk zm 0,zo U] t i wr) (fun _ i _=>2 - (zy i).toNat)
 case atStart=>exact .inl ⟨rfl,rfl,HT.out⟩
 case round =>
  clear HT;rcases hrel with ⟨rfl,rfl,ht⟩|⟨rfl,rfl,ht⟩|⟨hq,rfl,rfl,ht⟩
  ·obtain ⟨g0,g1⟩:=ht.f.duo;obtain ⟨x0,x1,x2,x3,y0,y1,y2,y3⟩:=ht.x.four;have HT:=zn ht;clear ht;go_wp2_with fail;refine (Q0.out _ _ _ HT.out.x.lt x1 y1).mono ?_;rintro e w3 ⟨w4,rfl,ai,rfl⟩;have hR:=zn ((HT.out.on ai).set 1 (zk zm x));clear ai;go_wp2;go_roundw
   case rel=>exact .inr (.inl ⟨rfl,by go_num,by simpa using hR.out⟩)
   case measure=>simp [zy]
  ·obtain ⟨g0,g1⟩:=ht.f.duo;obtain ⟨x0,x1,x2,x3,y0,y1,y2,y3⟩:=ht.x.four;have HT:=zn ht;clear ht;go_wp2_with fail;refine (MV _ U _ _ _ x3 y3).mono ?_;rintro e w3 ⟨rfl,rfl⟩;have hR:=zn (HT.out.set 3 (zo U));go_wp2;go_roundw
   case rel=>exact .inr (.inr ⟨rfl,rfl,by go_num,by simpa using hR.out⟩)
   case measure=>simp [zy]
  ·obtain ⟨x0,x1,x2,x3,-,-,-,-⟩:=ht.x.four;have HT:=zn ht;clear ht;cases r
   ·go_wp2_with fail;refine (HR.out _).mono ?_;rintro e w5 ⟨rfl,aa⟩;obtain ⟨B0,-,hbw⟩:=cQ ac.out.symm HT.out aa;have HB:=zn hbw;obtain ⟨c0,c1,c2,c3,f0,f1,f2,f3⟩:=B0.four;clear hbw aa;go_wp2;exact zu (v:=pi (ni.none 5)) (by simp [zv,results52,go_sem,pi,ni.none,c0,c1,c2,c3]) rfl ⟨dG (by rw [← ah.out,bP ag.out]),aG HB.out (zp _) _ _ _ _⟩
   ·go_wp2_with fail;refine (HR.out _).mono ?_;rintro e w5 ⟨rfl,aa⟩;obtain ⟨B0,B1,hbw⟩:=cQ ac.out.symm HT.out aa;have HB:=zn hbw;obtain ⟨c0,c1,c2,c3,f0,f1,f2,f3⟩:=B0.four;obtain ⟨d0,d1,d2,d3,-,-,-,-⟩:=B1.four;clear hbw aa x0 x1 x2 x3;go_wp2;exact zu (v:=pi ⟨1,x,0,U,0⟩) (by simp [zv,results52,go_sem,pi,ni.none,c0,c1,c2,c3]) rfl ⟨dG (by rw [← ah.out,cZ ag.out]),aG HB.out (zp _) _ _ _ _⟩
set_option maxHeartbeats 1600000 in
theorem sA (s T:ByteArray) (hs:s.size≤4294967296) (h0:0<s.size) (hk:s[0].toNat=2) (hT:s.extract 1 s.size=T) (h4:T.size<4) (w:zq) :
 zz prog 52 #[zo s] w fun e w'=>e=zw (pi (ni.none 18))∧zt w w w':=by
 have he:=aE s;rw [decide_eq_false lg] at he;obtain ⟨W0,aa⟩:∃ W0,w.alloc (Aa #[zk zm 0,zk zm 0,zk zm 0,zo ⟨#[]⟩] 50)=W0:=⟨_,rfl⟩;have hz:W0.heap.size=w+1:=by rw [← aa];simp
 have ac:=zn aa;have hX:=l6.new W0 #[zk zm 2,zk zm 0,zk zm 0,zo ⟨#[]⟩] 50;rw [hz] at hX;have HX:=zn hX;have HH:=zn (nK _ _ _ _ _ hX);have hlo:W0.heap.size≤w+1:=Af hz;have HL:=zn hlo;rw [← aa] at HH HX;clear hX hz hlo aa;have hq:=dF 0 T lq;rw [dY T h4] at hq;have Q0:=zn hq;clear hq;go_enter func52,ntmps52;go_wp2_with fail;refine HH.out.mono ?_;rintro e w2 ⟨g,rfl,hg,hgl,ab⟩;rw [ac.out] at hgl ab HX;have HT:=zn (eL (w:=W0) HX.out ((zx W0 W0).alloc (zp _) _) HL.out hg hgl ab);clear hg hgl ab;go_wp2
 go_loopw [5,21] (fun t i wr=>t=zo T∧i=zk zm 0∧Rt W0 (w+1) g #[zk zm 2,zk zm 0,zk zm 0,zo ⟨#[]⟩] #[.iface 143 (zr (some ⟨w+1,1,none⟩)),.iface 143 (zr (some ⟨w+1,2,none⟩))] wr) (fun _ i _=>2 - (zy i).toNat)
 case atStart=>exact ⟨rfl,rfl,HT.out⟩
 case round =>
  clear HT;obtain ⟨rfl,rfl,ht⟩:=hrel;obtain ⟨g0,g1⟩:=ht.f.duo;obtain ⟨x0,x1,x2,x3,y0,y1,y2,y3⟩:=ht.x.four;have HT:=zn ht;clear ht;go_wp2_with fail;refine (Q0.out _ _ _ HT.out.x.lt x1 y1).mono ?_;rintro e w3 ⟨w4,rfl,ad,rfl⟩;have hR:=zn ((HT.out.on ad).set 1 (zk zm 0));obtain ⟨B0,-,hbw⟩:=cQ ac.out.symm hR.out (zx _ _);have HB:=zn hbw;obtain ⟨c0,c1,c2,c3,f0,f1,f2,f3⟩:=B0.four;clear hbw ad;go_wp2;exact zu (v:=pi (ni.none 18)) (by simp [zv,results52,go_sem,pi,ni.none,c0,c1,c2,c3]) rfl ⟨rfl,aG HB.out (zp _) _ _ _ _⟩
set_option maxHeartbeats 1600000 in
theorem qN (s T:ByteArray) (hs:s.size≤4294967296) (h0:0<s.size) (hk:s[0].toNat=2) (hT:s.extract 1 s.size=T) (h4:4≤T.size) (h8:T.size<8) (w:zq) :
 zz prog 52 #[zo s] w fun e w'=>e=zw (pi (ni.none 18))∧zt w w w':=by
 have hts:T.size≤4294967296:=by rw [← hT];simp;omega
 have he:=aE s;rw [decide_eq_false lg] at he;obtain ⟨W0,ab⟩:∃ W0,w.alloc (Aa #[zk zm 0,zk zm 0,zk zm 0,zo ⟨#[]⟩] 50)=W0:=⟨_,rfl⟩;have hz:W0.heap.size=w+1:=by rw [← ab];simp
 have ae:=zn ab;have hX:=l6.new W0 #[zk zm 2,zk zm 0,zk zm 0,zo ⟨#[]⟩] 50;rw [hz] at hX;have HX:=zn hX;have HH:=zn (nK _ _ _ _ _ hX);have hlo:W0.heap.size≤w+1:=Af hz;have HL:=zn hlo;rw [← ab] at HH HX;clear hX hz hlo ab;have hq:=dF 0 T lq;rw [bX T h4] at hq;have hu:(my T).size<4:=by unfold my;simp;omega
 have ac:=dF 0 (my T) lq;rw [dY _ hu] at ac;obtain ⟨U,hU⟩:∃ U,my T=U:=⟨_,rfl⟩;rw [hU] at ac hu;have ag:T.extract 4 T.size=U:=hU;obtain ⟨x,af⟩:∃ x,tp T.data.toList 0 4=x:=⟨_,rfl⟩;rw [af] at hq;have Q0:=zn hq;have Q1:=zn ac;clear hq ac hU af;go_enter func52,ntmps52;go_wp2_with fail;refine HH.out.mono ?_;rintro e w2 ⟨g,rfl,hg,hgl,ad⟩;rw [ae.out] at hgl ad HX;have HT:=zn (eL (w:=W0) HX.out ((zx W0 W0).alloc (zp _) _) HL.out hg hgl ad);clear hg hgl ad;go_wp2
 go_loopw [5,21] (fun t i wr=>Ft2 false T U U W0 (w+1) g #[.iface 143 (zr (some ⟨w+1,1,none⟩)),.iface 143 (zr (some ⟨w+1,2,none⟩))] #[zk zm 2,zk zm 0,zk zm 0,zo ⟨#[]⟩] #[zk zm 2,zk zm x,zk zm 0,zo ⟨#[]⟩] #[] t i wr) (fun _ i _=>2 - (zy i).toNat)
 case atStart=>exact .inl ⟨rfl,rfl,HT.out⟩
 case round =>
  clear HT;rcases hrel with ⟨rfl,rfl,ht⟩|⟨rfl,rfl,ht⟩|⟨hq,rfl,rfl,ht⟩
  ·obtain ⟨g0,g1⟩:=ht.f.duo;obtain ⟨x0,x1,x2,x3,y0,y1,y2,y3⟩:=ht.x.four;have HT:=zn ht;clear ht;go_wp2_with fail;refine (Q0.out _ _ _ HT.out.x.lt x1 y1).mono ?_;rintro e w3 ⟨w4,rfl,aa,rfl⟩;have hR:=zn ((HT.out.on aa).set 1 (zk zm x));clear aa;go_wp2;go_roundw
   case rel=>exact .inr (.inl ⟨rfl,by go_num,by simpa using hR.out⟩)
   case measure=>simp [zy]
  ·obtain ⟨g0,g1⟩:=ht.f.duo;obtain ⟨x0,x1,x2,x3,y0,y1,y2,y3⟩:=ht.x.four;have HT:=zn ht;clear ht;go_wp2_with fail;refine (Q1.out _ _ _ HT.out.x.lt x2 y2).mono ?_;rintro e w3 ⟨w4,rfl,aa,rfl⟩;have hR:=zn ((HT.out.on aa).set 2 (zk zm 0));obtain ⟨B0,-,hbw⟩:=cQ ae.out.symm hR.out (zx _ _);have HB:=zn hbw;obtain ⟨c0,c1,c2,c3,f0,f1,f2,f3⟩:=B0.four;clear hbw aa;go_wp2;exact zu (v:=pi (ni.none 18)) (by simp [zv,results52,go_sem,pi,ni.none,c0,c1,c2,c3]) rfl ⟨rfl,aG HB.out (zp _) _ _ _ _⟩
  ·cases hq
set_option maxHeartbeats 1600000 in
theorem MS (s T:ByteArray) (hs:s.size≤4294967296) (h0:0<s.size) (hk:s[0].toNat=2) (hT:s.extract 1 s.size=T) (h8:8≤T.size) (w:zq) :
 zz prog 52 #[zo s] w fun e w'=>e=zw (pi (qc 2 (pu T) (pu (my T)) (my (my T))))∧zt w w w':=by
 have hts:T.size≤4294967296:=by rw [← hT];simp;omega
 obtain ⟨R,hR⟩:∃ R,qc 2 (pu T) (pu (my T)) (my (my T))=R:=⟨_,rfl⟩;rw [hR];have he:=aE s;rw [decide_eq_false lg] at he;obtain ⟨W0,ac⟩:∃ W0,w.alloc (Aa #[zk zm 0,zk zm 0,zk zm 0,zo ⟨#[]⟩] 50)=W0:=⟨_,rfl⟩;have hz:W0.heap.size=w+1:=by rw [← ac];simp
 have ad:=zn ac;have hX:=l6.new W0 #[zk zm 2,zk zm 0,zk zm 0,zo ⟨#[]⟩] 50;rw [hz] at hX;have HX:=zn hX;have HH:=zn (nK _ _ _ _ _ hX);have hlo:W0.heap.size≤w+1:=Af hz;have HL:=zn hlo;rw [← ac] at HH HX;clear hX hz hlo ac;have hq:=dF 0 T lq;rw [bX T lg] at hq;unfold pu at hR;obtain ⟨x,ai⟩:∃ x,tp T.data.toList 0 4=x:=⟨_,rfl⟩;rw [ai] at hq hR;have hu:(my T).size≤4294967296:=by unfold my;simp;omega
 have am:4≤(my T).size:=by unfold my;simp;omega
 obtain ⟨U,hU⟩:∃ U,my T=U:=⟨_,rfl⟩;rw [hU] at hR hu am;have aq:T.extract 4 T.size=U:=hU;have Q0:=zn hq;clear hq ai hU;have ae:=dF 0 U lq;rw [bX U lg] at ae;obtain ⟨y,aj⟩:∃ y,tp U.data.toList 0 4=y:=⟨_,rfl⟩;rw [aj] at ae hR;obtain ⟨V,hV⟩:∃ V,my U=V:=⟨_,rfl⟩;rw [hV] at hR;have ar:U.extract 4 U.size=V:=hV;have Q1:=zn ae;clear ae aj hV;have ak:=aE V;have hr:=dK 2 x y ⟨#[]⟩ (by unfold maxLen;decide);obtain ⟨r,af⟩:∃ r,nh 2 x y (⟨#[]⟩:ByteArray).data.toList=r:=⟨_,rfl⟩;rw [af] at hr;have al:=zn af;have HR:=zn hr;have ag:=zn hR;clear af hr hR;go_enter func52,ntmps52;go_wp2_with fail;refine HH.out.mono ?_;rintro e w2 ⟨g,rfl,hg,hgl,ah⟩;rw [ad.out] at hgl ah HX;have HT:=zn (eL (w:=W0) HX.out ((zx W0 W0).alloc (zp _) _) HL.out hg hgl ah);clear hg hgl ah;go_wp2
 go_loopw [5,21] (fun t i wr=>Ft2 true T U V W0 (w+1) g #[.iface 143 (zr (some ⟨w+1,1,none⟩)),.iface 143 (zr (some ⟨w+1,2,none⟩))] #[zk zm 2,zk zm 0,zk zm 0,zo ⟨#[]⟩] #[zk zm 2,zk zm x,zk zm 0,zo ⟨#[]⟩] #[zk zm 2,zk zm x,zk zm y,zo ⟨#[]⟩] t i wr) (fun _ i _=>2 - (zy i).toNat)
 case atStart=>exact .inl ⟨rfl,rfl,HT.out⟩
 case round =>
  clear HT;rcases hrel with ⟨rfl,rfl,ht⟩|⟨rfl,rfl,ht⟩|⟨hq,rfl,rfl,ht⟩
  ·obtain ⟨g0,g1⟩:=ht.f.duo;obtain ⟨x0,x1,x2,x3,y0,y1,y2,y3⟩:=ht.x.four;have HT:=zn ht;clear ht;go_wp2_with fail;refine (Q0.out _ _ _ HT.out.x.lt x1 y1).mono ?_;rintro e w3 ⟨w4,rfl,aa,rfl⟩;have hR:=zn ((HT.out.on aa).set 1 (zk zm x));clear aa;go_wp2;go_roundw
   case rel=>exact .inr (.inl ⟨rfl,by go_num,by simpa using hR.out⟩)
   case measure=>simp [zy]
  ·obtain ⟨g0,g1⟩:=ht.f.duo;obtain ⟨x0,x1,x2,x3,y0,y1,y2,y3⟩:=ht.x.four;have HT:=zn ht;clear ht;go_wp2_with fail;refine (Q1.out _ _ _ HT.out.x.lt x2 y2).mono ?_;rintro e w3 ⟨w4,rfl,aa,rfl⟩;have hR:=zn ((HT.out.on aa).set 2 (zk zm y));clear aa;go_wp2;go_roundw
   case rel=>exact .inr (.inr ⟨rfl,rfl,by go_num,by simpa using hR.out⟩)
   case measure=>simp [zy]
  ·by_cases hz:V.size=0
   ·have an:=dE hz;subst an;clear hz ak;obtain ⟨x0,x1,x2,x3,-,-,-,-⟩:=ht.x.four;have HT:=zn ht;clear ht;cases r
    ·go_wp2_with fail;refine (HR.out _).mono ?_;rintro e w5 ⟨rfl,ab⟩;obtain ⟨B0,-,hbw⟩:=cQ ad.out.symm HT.out ab;have HB:=zn hbw;obtain ⟨c0,c1,c2,c3,f0,f1,f2,f3⟩:=B0.four;clear hbw ab;go_wp2;exact zu (v:=pi (ni.none 5)) (by simp [zv,results52,go_sem,pi,ni.none,c0,c1,c2,c3]) rfl ⟨dG (by rw [← ag.out,bP al.out]),aG HB.out (zp _) _ _ _ _⟩
    ·go_wp2_with fail;refine (HR.out _).mono ?_;rintro e w5 ⟨rfl,ab⟩;obtain ⟨B0,B1,hbw⟩:=cQ ad.out.symm HT.out ab;have HB:=zn hbw;obtain ⟨c0,c1,c2,c3,f0,f1,f2,f3⟩:=B0.four;obtain ⟨d0,d1,d2,d3,-,-,-,-⟩:=B1.four;clear hbw ab x0 x1 x2 x3;go_wp2;exact zu (v:=pi ⟨2,x,y,⟨#[]⟩,0⟩) (by simp [zv,results52,go_sem,pi,ni.none,c0,c1,c2,c3]) rfl ⟨dG (by rw [← ag.out,cZ al.out]),aG HB.out (zp _) _ _ _ _⟩
   ·have ao:=zn (bP (k:=2) (a:=x) (n:=y) (s:=V) (by rw [yk,bC,decide_eq_false hz,Bool.and_false]));rw [decide_eq_false hz] at ak;have HT:=zn ht;obtain ⟨B0,-,hbw⟩:=cQ ad.out.symm ht (zx _ _);have HB:=zn hbw;obtain ⟨c0,c1,c2,c3,f0,f1,f2,f3⟩:=B0.four;clear hbw ht;go_wp2;exact zu (v:=pi (ni.none 5)) (by simp [zv,results52,go_sem,pi,ni.none,c0,c1,c2,c3]) rfl ⟨dG (by rw [← ag.out,ao.out]),aG HB.out (zp _) _ _ _ _⟩
set_option maxHeartbeats 1600000 in
theorem pP (s T:ByteArray) (hs:s.size≤4294967296) (h0:0<s.size) (hk:s[0].toNat=3) (hT:s.extract 1 s.size=T) (h4:T.size<4) (w:zq) :
 zz prog 52 #[zo s] w fun e w'=>e=zw (pi (ni.none 18))∧zt w w w':=by
 have he:=aE s;rw [decide_eq_false lg] at he;obtain ⟨W0,aa⟩:∃ W0,w.alloc (Aa #[zk zm 0,zk zm 0,zk zm 0,zo ⟨#[]⟩] 50)=W0:=⟨_,rfl⟩;have hz:W0.heap.size=w+1:=by rw [← aa];simp
 have ac:=zn aa;have hX:=l6.new W0 #[zk zm 3,zk zm 0,zk zm 0,zo ⟨#[]⟩] 50;rw [hz] at hX;have HX:=zn hX;have HH:=zn (mN _ _ _ _ _ hX);have hlo:W0.heap.size≤w+1:=Af hz;have HL:=zn hlo;rw [← aa] at HH HX;clear hX hz hlo aa;have hq:=dF 0 T lq;rw [dY T h4] at hq;have Q0:=zn hq;clear hq;go_enter func52,ntmps52;go_wp2_with fail;refine HH.out.mono ?_;rintro e w2 ⟨g,rfl,hg,hgl,ab⟩;rw [ac.out] at hgl ab HX;have HT:=zn (eL (w:=W0) HX.out ((zx W0 W0).alloc (zp _) _) HL.out hg hgl ab);clear hg hgl ab;go_wp2
 go_loopw [5,21] (fun t i wr=>t=zo T∧i=zk zm 0∧Rt W0 (w+1) g #[zk zm 3,zk zm 0,zk zm 0,zo ⟨#[]⟩] #[.iface 143 (zr (some ⟨w+1,1,none⟩)),.iface 147 (zr (some ⟨w+1,3,none⟩))] wr) (fun _ i _=>2 - (zy i).toNat)
 case atStart=>exact ⟨rfl,rfl,HT.out⟩
 case round =>
  clear HT;obtain ⟨rfl,rfl,ht⟩:=hrel;obtain ⟨g0,g1⟩:=ht.f.duo;obtain ⟨x0,x1,x2,x3,y0,y1,y2,y3⟩:=ht.x.four;have HT:=zn ht;clear ht;go_wp2_with fail;refine (Q0.out _ _ _ HT.out.x.lt x1 y1).mono ?_;rintro e w3 ⟨w4,rfl,ad,rfl⟩;have hR:=zn ((HT.out.on ad).set 1 (zk zm 0));obtain ⟨B0,-,hbw⟩:=cQ ac.out.symm hR.out (zx _ _);have HB:=zn hbw;obtain ⟨c0,c1,c2,c3,f0,f1,f2,f3⟩:=B0.four;clear hbw ad;go_wp2;exact zu (v:=pi (ni.none 18)) (by simp [zv,results52,go_sem,pi,ni.none,c0,c1,c2,c3]) rfl ⟨rfl,aG HB.out (zp _) _ _ _ _⟩
set_option maxHeartbeats 1600000 in
theorem EQ (s T:ByteArray) (hs:s.size≤4294967296) (h0:0<s.size) (hk:s[0].toNat=3) (hT:s.extract 1 s.size=T) (h4:4≤T.size) (w:zq) :
 zz prog 52 #[zo s] w fun e w'=>e=zw (pi (qc 3 (pu T) 0 (my T)))∧zt w w w':=by
 have hts:T.size≤4294967296:=by rw [← hT];simp;omega
 obtain ⟨R,hR⟩:∃ R,qc 3 (pu T) 0 (my T)=R:=⟨_,rfl⟩;rw [hR];have he:=aE s;rw [decide_eq_false lg] at he;obtain ⟨W0,ab⟩:∃ W0,w.alloc (Aa #[zk zm 0,zk zm 0,zk zm 0,zo ⟨#[]⟩] 50)=W0:=⟨_,rfl⟩;have hz:W0.heap.size=w+1:=by rw [← ab];simp
 have ac:=zn ab;have hX:=l6.new W0 #[zk zm 3,zk zm 0,zk zm 0,zo ⟨#[]⟩] 50;rw [hz] at hX;have HX:=zn hX;have HH:=zn (mN _ _ _ _ _ hX);have hlo:W0.heap.size≤w+1:=Af hz;have HL:=zn hlo;rw [← ab] at HH HX;clear hX hz hlo ab;have hq:=dF 0 T lq;rw [bX T lg] at hq;unfold pu at hR;obtain ⟨x,af⟩:∃ x,tp T.data.toList 0 4=x:=⟨_,rfl⟩;rw [af] at hq hR;have hu:(my T).size≤4294967296:=by unfold my;simp;omega
 obtain ⟨U,hU⟩:∃ U,my T=U:=⟨_,rfl⟩;rw [hU] at hR hu;have aj:T.extract 4 T.size=U:=hU;have Q0:=zn hq;clear hq af hU;have hE:U.extract U.size U.size=⟨#[]⟩:=dE li;have hr:=dK 3 x 0 U lq;obtain ⟨r,ad⟩:∃ r,nh 3 x 0 U.data.toList=r:=⟨_,rfl⟩;rw [ad] at hr;have ag:=zn ad;have HR:=zn hr;have ah:=zn hR;clear ad hr hR;go_enter func52,ntmps52;go_wp2_with fail;refine HH.out.mono ?_;rintro e w2 ⟨g,rfl,hg,hgl,ae⟩;rw [ac.out] at hgl ae HX;have HT:=zn (eL (w:=W0) HX.out ((zx W0 W0).alloc (zp _) _) HL.out hg hgl ae);clear hg hgl ae;go_wp2
 go_loopw [5,21] (fun t i wr=>Ft2 true T U ⟨#[]⟩ W0 (w+1) g #[.iface 143 (zr (some ⟨w+1,1,none⟩)),.iface 147 (zr (some ⟨w+1,3,none⟩))] #[zk zm 3,zk zm 0,zk zm 0,zo ⟨#[]⟩] #[zk zm 3,zk zm x,zk zm 0,zo ⟨#[]⟩] #[zk zm 3,zk zm x,zk zm 0,zo U] t i wr) (fun _ i _=>2 - (zy i).toNat)
 case atStart=>exact .inl ⟨rfl,rfl,HT.out⟩
 case round =>
  clear HT;rcases hrel with ⟨rfl,rfl,ht⟩|⟨rfl,rfl,ht⟩|⟨hq,rfl,rfl,ht⟩
  ·obtain ⟨g0,g1⟩:=ht.f.duo;obtain ⟨x0,x1,x2,x3,y0,y1,y2,y3⟩:=ht.x.four;have HT:=zn ht;clear ht;go_wp2_with fail;refine (Q0.out _ _ _ HT.out.x.lt x1 y1).mono ?_;rintro e w3 ⟨w4,rfl,ai,rfl⟩;have hR:=zn ((HT.out.on ai).set 1 (zk zm x));clear ai;go_wp2;go_roundw
   case rel=>exact .inr (.inl ⟨rfl,by go_num,by simpa using hR.out⟩)
   case measure=>simp [zy]
  ·obtain ⟨g0,g1⟩:=ht.f.duo;obtain ⟨x0,x1,x2,x3,y0,y1,y2,y3⟩:=ht.x.four;have HT:=zn ht;clear ht;go_wp2_with fail;refine (wT _ U _ _ _ x3 y3).mono ?_;rintro e w3 ⟨rfl,rfl⟩;have hR:=zn (HT.out.set 3 (zo U));go_wp2;go_roundw
   case rel=>exact .inr (.inr ⟨rfl,rfl,by go_num,by simpa using hR.out⟩)
   case measure=>simp [zy]
  ·obtain ⟨x0,x1,x2,x3,-,-,-,-⟩:=ht.x.four;have HT:=zn ht;clear ht;cases r
   ·go_wp2_with fail;refine (HR.out _).mono ?_;rintro e w5 ⟨rfl,aa⟩;obtain ⟨B0,-,hbw⟩:=cQ ac.out.symm HT.out aa;have HB:=zn hbw;obtain ⟨c0,c1,c2,c3,f0,f1,f2,f3⟩:=B0.four;clear hbw aa;go_wp2;exact zu (v:=pi (ni.none 5)) (by simp [zv,results52,go_sem,pi,ni.none,c0,c1,c2,c3]) rfl ⟨dG (by rw [← ah.out,bP ag.out]),aG HB.out (zp _) _ _ _ _⟩
   ·go_wp2_with fail;refine (HR.out _).mono ?_;rintro e w5 ⟨rfl,aa⟩;obtain ⟨B0,B1,hbw⟩:=cQ ac.out.symm HT.out aa;have HB:=zn hbw;obtain ⟨c0,c1,c2,c3,f0,f1,f2,f3⟩:=B0.four;obtain ⟨d0,d1,d2,d3,-,-,-,-⟩:=B1.four;clear hbw aa x0 x1 x2 x3;go_wp2;exact zu (v:=pi ⟨3,x,0,U,0⟩) (by simp [zv,results52,go_sem,pi,ni.none,c0,c1,c2,c3]) rfl ⟨dG (by rw [← ah.out,cZ ag.out]),aG HB.out (zp _) _ _ _ _⟩
set_option maxHeartbeats 1600000 in
theorem LV (s T:ByteArray) (hs:s.size≤4294967296) (h0:0<s.size) (hk:s[0].toNat=4) (hT:s.extract 1 s.size=T) (w:zq) :
 zz prog 52 #[zo s] w fun e w'=>e=zw (pi (qc 4 0 0 T))∧zt w w w':=by
 have hts:T.size≤4294967296:=by rw [← hT];simp;omega
 obtain ⟨R,hR⟩:∃ R,qc 4 0 0 T=R:=⟨_,rfl⟩;rw [hR];have he:=aE s;rw [decide_eq_false lg] at he;obtain ⟨W0,ab⟩:∃ W0,w.alloc (Aa #[zk zm 0,zk zm 0,zk zm 0,zo ⟨#[]⟩] 50)=W0:=⟨_,rfl⟩;have hz:W0.heap.size=w+1:=by rw [← ab];simp
 have ac:=zn ab;have hX:=l6.new W0 #[zk zm 4,zk zm 0,zk zm 0,zo ⟨#[]⟩] 50;rw [hz] at hX;have HX:=zn hX;have HH:=zn (wF _ _ _ _ _ hX);have hlo:W0.heap.size≤w+1:=Af hz;have HL:=zn hlo;rw [← ab] at HH HX;clear hX hz hlo ab;have hE:T.extract T.size T.size=⟨#[]⟩:=dE li;have hr:=dK 4 0 0 T lq;obtain ⟨r,ad⟩:∃ r,nh 4 0 0 T.data.toList=r:=⟨_,rfl⟩;rw [ad] at hr;have af:=zn ad;have HR:=zn hr;have ag:=zn hR;clear ad hr hR;go_enter func52,ntmps52;go_wp2_with fail;refine HH.out.mono ?_;rintro e w2 ⟨g,rfl,hg,hgl,ae⟩;rw [ac.out] at hgl ae HX;have HT:=zn (eL (w:=W0) HX.out ((zx W0 W0).alloc (zp _) _) HL.out hg hgl ae);clear hg hgl ae;go_wp2
 go_loopw [5,21] (fun t i wr=>Ft2 false T ⟨#[]⟩ ⟨#[]⟩ W0 (w+1) g #[.iface 147 (zr (some ⟨w+1,3,none⟩))] #[zk zm 4,zk zm 0,zk zm 0,zo ⟨#[]⟩] #[zk zm 4,zk zm 0,zk zm 0,zo T] #[] t i wr) (fun _ i _=>2 - (zy i).toNat)
 case atStart=>exact .inl ⟨rfl,rfl,HT.out⟩
 case round =>
  clear HT;rcases hrel with ⟨rfl,rfl,ht⟩|⟨rfl,rfl,ht⟩|⟨hq,rfl,rfl,ht⟩
  ·have g0:=ht.f.lone;obtain ⟨x0,x1,x2,x3,y0,y1,y2,y3⟩:=ht.x.four;have HT:=zn ht;clear ht;go_wp2_with fail;refine (wT _ T _ _ _ x3 y3).mono ?_;rintro e w3 ⟨rfl,rfl⟩;have hR:=zn (HT.out.set 3 (zo T));go_wp2;go_roundw
   case rel=>exact .inr (.inl ⟨rfl,by go_num,by simpa using hR.out⟩)
   case measure=>simp [zy]
  ·obtain ⟨x0,x1,x2,x3,-,-,-,-⟩:=ht.x.four;have HT:=zn ht;clear ht;cases r
   ·go_wp2_with fail;refine (HR.out _).mono ?_;rintro e w5 ⟨rfl,aa⟩;obtain ⟨B0,-,hbw⟩:=cQ ac.out.symm HT.out aa;have HB:=zn hbw;obtain ⟨c0,c1,c2,c3,f0,f1,f2,f3⟩:=B0.four;clear hbw aa;go_wp2;exact zu (v:=pi (ni.none 5)) (by simp [zv,results52,go_sem,pi,ni.none,c0,c1,c2,c3]) rfl ⟨dG (by rw [← ag.out,bP af.out]),aG HB.out (zp _) _ _ _ _⟩
   ·go_wp2_with fail;refine (HR.out _).mono ?_;rintro e w5 ⟨rfl,aa⟩;obtain ⟨B0,B1,hbw⟩:=cQ ac.out.symm HT.out aa;have HB:=zn hbw;obtain ⟨c0,c1,c2,c3,f0,f1,f2,f3⟩:=B0.four;obtain ⟨d0,d1,d2,d3,-,-,-,-⟩:=B1.four;clear hbw aa x0 x1 x2 x3;go_wp2;exact zu (v:=pi ⟨4,0,0,T,0⟩) (by simp [zv,results52,go_sem,pi,ni.none,c0,c1,c2,c3]) rfl ⟨dG (by rw [← ag.out,cZ af.out]),aG HB.out (zp _) _ _ _ _⟩
  ·cases hq
theorem AQ (s:ByteArray) (hs:s.size≤4294967296) (w:zq) :
 zz prog 52 #[zo s] w fun e w'=>e=zw (pi (su s))∧zt w w w':=by
 unfold su;by_cases h0:0<s.size
 ·rw [dif_pos h0];obtain ⟨k,hk⟩:∃ k,s[0].toNat=k:=⟨_,rfl⟩;obtain ⟨T,hT⟩:∃ T,s.extract 1 s.size=T:=⟨_,rfl⟩;rw [hk,hT];unfold xj;by_cases ho:k<1∨8<k
  ·rw [if_pos lg,← bP (k:=k) (a:=0) (n:=0) (s:=T) (iW lg _ _ _)];exact sJ s T k hs h0 hk hT lg w
  rw [if_neg lg];by_cases h13:k=1∨k=3
  ·rw [if_pos lg];by_cases h4:T.size<4
   ·rw [if_pos h4];rcases h13 with rfl|rfl
    ·exact rD s T hs h0 hk hT h4 w
    ·exact pP s T hs h0 hk hT h4 w
   ·rw [if_neg h4];rcases h13 with rfl|rfl
    ·exact NH s T hs h0 hk hT lg w
    ·exact EQ s T hs h0 hk hT lg w
  rw [if_neg lg];by_cases h2:k=2
  ·subst h2;rw [if_pos lg];by_cases h8:T.size<8
   ·rw [if_pos h8];by_cases h4:T.size<4
    ·exact sA s T hs h0 hk hT h4 w
    ·exact qN s T hs h0 hk hT lg h8 w
   ·rw [if_neg h8];exact MS s T hs h0 hk hT lg w
  ·rw [if_neg lg];by_cases h4:k=4
   ·subst h4;exact LV s T hs h0 hk hT w
   ·exact sJ s T k hs h0 hk hT lg w
 ·rw [dif_neg h0,dE (show s.size=0 by omega)];exact EA w
end Go.Proofs.YtbagenpobcgjnaaGreat
