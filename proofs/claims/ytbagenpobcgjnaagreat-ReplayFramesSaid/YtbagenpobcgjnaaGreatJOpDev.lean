/-
  Joined: OpDev, OpHas, OpRight.
-/
import Derived.Test.YtbagenpobcgjnaaGreatJOpRef
import Derived.Handy
open Go renaming Calls->zr,Value->zt,World->zp,maxLen->zz
open Go.Ending renaming returned->zu
open Go.IntKind renaming i64->zm
open Go.Lib renaming hid->zn
open Go.RowKit renaming Below->zw,intOf->zv
open Go.RowKit.Below renaming refl->Aa
open Go.Value renaming agg->Ab,bool->zy,int->zk,pointer->zq,string->zo
open Nat renaming le_refl->zx
variable {b:Nat} {w:Go.World}
namespace Go.Proofs.YtbagenpobcgjnaaGreat
open Go.Proofs.Tryz
set_option maxRecDepth 100000
open Lib (hid)
open Go.RowKit
set_option maxHeartbeats 400000 in
theorem bJ (s:ByteArray) (hs:s.size≤zz) (w:zp) :
 zr prog 106 #[zo s] w fun e w'=>e=zu (zy (mv s.data.toList))∧w=w':=by
 unfold zz at hs;by_cases z1:s.size<1
 ·rw [AG (by rw [bC];exact z1)];go_enter func106,ntmps106;go_wp2;go_ret;exact ⟨rfl,rfl⟩
 by_cases z2:8<s.size
 ·have z3:1≤s.size:=lg;rw [EZ (by rw [bC];exact z2)];clear z1;go_enter func106,ntmps106;go_wp2;go_ret;exact ⟨rfl,rfl⟩
 have z3:1≤s.size:=lg;have z4:s.size≤8:=lg;clear z1 z2;obtain ⟨r,hr⟩:∃ r,mv s.data.toList=r:=⟨_,rfl⟩;rw [hr];have HR:=zn hr;clear hr;go_enter func106,ntmps106;go_wp2
 go_loop [14] (fun i=>∃ k:Nat,k≤s.size∧i=zk zm k∧(s.data.toList.take k).all vm=true) (fun i=>s.size - (zv i).toNat)
 case atStart=>exact ⟨0,Nat.zero_le _,rfl,rfl⟩
 case round =>
  obtain ⟨k,hk,rfl,hall⟩:=hrel;have HA:=zn hall;clear hall;by_cases hlt:k<s.size
  ·have aa:=s[k].toNat_lt;by_cases g1:97≤s[k].toNat
   ·by_cases g2:s[k].toNat≤122
    ·have h2:=zn (pJ hlt HA.out g1 g2);go_wp2
     go_round
     case rel=>exact ⟨k+1,lg,by go_num,h2.out⟩
     case measure=>simp [zv];omega
    ·have h2:=zn (gW hlt (.inr lg));have g2':122<s[k].toNat:=lg;go_wp2;go_ret;exact ⟨aA (by rw [← HR.out,h2.out]),rfl⟩
   ·have h2:=zn (gW hlt (.inl lg));have g1':s[k].toNat<97:=lg;go_wp2;go_ret;exact ⟨aA (by rw [← HR.out,h2.out]),rfl⟩
  ·obtain rfl:k=s.size:=lg;have h2:=zn (rR HA.out);go_wp2;go_ret;exact ⟨aA (by rw [← HR.out,h2.out,decide_eq_true z3,decide_eq_true z4];rfl),rfl⟩
theorem jG (v:Int) (b o:Nat) (w:zp) (hc:w ⟨b,o,none⟩=some (zk zm v)) :
 zr prog 234 #[zq (some ⟨b,o,none⟩)] w fun e w'=>e=zu (zy (wj v))∧w=w':=by
 by_cases h0:0≤v
 ·by_cases h1:v≤4096
  ·rw [BJ h0 h1];go_enter func234,ntmps234;go_wp2;go_ret;exact ⟨rfl,rfl⟩
  ·have h1':4096<v:=lg;rw [pT (.inr h1')];go_enter func234,ntmps234;go_wp2;go_ret;exact ⟨rfl,rfl⟩
 ·have h0':v<0:=lg;rw [pT (.inl h0')];go_enter func234,ntmps234;go_wp2;go_ret;exact ⟨rfl,rfl⟩
theorem JH (s:ByteArray) (hs:s.size≤zz) (b o:Nat) (w:zp) (hc:w ⟨b,o,none⟩=some (zo s)) :
 zr prog 236 #[zq (some ⟨b,o,none⟩)] w fun e w'=>e=zu (zy (decide (s.size≤512) && nx s.data.toList))∧zw w w w':=by
 have hv:=dU s hs;obtain ⟨v,aa⟩:∃ v,nx s.data.toList=v:=⟨_,rfl⟩;rw [aa] at hv ⊢;have HV:=zn hv;clear hv aa;unfold zz at hs;by_cases h5:s.size≤512
 ·rw [decide_eq_true h5];go_enter func236,ntmps236;go_wp2_with (go_at_call 105;refine (HV.out _).mono ?_;rintro e w' ⟨rfl,hb⟩);go_ret;exact ⟨rfl,hb⟩
 ·have h5':512<s.size:=lg;rw [decide_eq_false h5];go_enter func236,ntmps236;go_wp2;go_ret;exact ⟨rfl,Aa _ _⟩
theorem sZ (s:ByteArray) (hs:s.size≤zz) (b o:Nat) (w:zp) (hc:w ⟨b,o,none⟩=some (zo s)) :
 zr prog 238 #[zq (some ⟨b,o,none⟩)] w fun e w'=>e=zu (zy (mv s.data.toList))∧w=w':=by
 have hv:=bJ s hs;obtain ⟨v,aa⟩:∃ v,mv s.data.toList=v:=⟨_,rfl⟩;rw [aa] at hv ⊢;have HV:=zn hv;clear hv aa;go_enter func238,ntmps238;go_wp2_with (go_at_call 106;refine (HV.out _).mono ?_;rintro e w' ⟨rfl,rfl⟩);go_ret;exact ⟨rfl,rfl⟩
theorem jE (v:zt) (b o:Nat) (w:zp) (hc:w ⟨b,o,none⟩=some v) (hf:w.frozen? ⟨b,o,none⟩=false) :
 zr prog 233 #[zq (some ⟨b,o,none⟩)] w fun e w'=>e=zu (.tuple #[])∧w'=w.setCell ⟨b,o,none⟩ (zk zm 0):=by
 go_enter func233,ntmps233;go_wp2
 go_returns
 exact ⟨rfl,rfl⟩
theorem LK (v:zt) (b o:Nat) (w:zp) (hc:w ⟨b,o,none⟩=some v) (hf:w.frozen? ⟨b,o,none⟩=false) :
 zr prog 235 #[zq (some ⟨b,o,none⟩)] w fun e w'=>e=zu (.tuple #[])∧w'=w.setCell ⟨b,o,none⟩ (zo ⟨#[]⟩):=by
 go_enter func235,ntmps235;go_wp2
 go_returns
 exact ⟨rfl,rfl⟩
theorem sR (v:zt) (b o:Nat) (w:zp) (hc:w ⟨b,o,none⟩=some v) (hf:w.frozen? ⟨b,o,none⟩=false) :
 zr prog 237 #[zq (some ⟨b,o,none⟩)] w fun e w'=>e=zu (.tuple #[])∧w'=w.setCell ⟨b,o,none⟩ (zo ⟨#[]⟩):=by
 go_enter func237,ntmps237;go_wp2
 go_returns
 exact ⟨rfl,rfl⟩
def HasR (w:zp) (fs:Array zt) (e:Ending) (w':zp):Prop:=
 ∃ g,e=zu (.slice (some ⟨g,0,none⟩) fs.size fs.size)∧l6 w' g fs 125∧w.heap.size≤g∧zw w w w'
set_option maxHeartbeats 400000 in
theorem rI (a n s:zt) (b:Nat) (w:zp) (hB:l6 w b #[zk zm 1,a,n,s] 50) :
 zr prog 77 #[zq (some ⟨b,0,none⟩)] w (HasR w #[.iface 143 (zq (some ⟨b,1,none⟩)),.iface 145 (zq (some ⟨b,3,none⟩))]):=by
 obtain ⟨c0,-,-,-,-,-,-,-⟩:=hB.four;clear hB;go_enter func77,ntmps77;go_wp2;go_region;go_wp2;go_ret;exact ⟨w,rfl,l6.new w _ _,zx _,((Aa _ _).alloc (zx _) _).drew⟩
set_option maxHeartbeats 400000 in
theorem nK (a n s:zt) (b:Nat) (w:zp) (hB:l6 w b #[zk zm 2,a,n,s] 50) :
 zr prog 77 #[zq (some ⟨b,0,none⟩)] w (HasR w #[.iface 143 (zq (some ⟨b,1,none⟩)),.iface 143 (zq (some ⟨b,2,none⟩))]):=by
 obtain ⟨c0,-,-,-,-,-,-,-⟩:=hB.four;clear hB;go_enter func77,ntmps77;go_wp2;go_region;go_wp2;go_ret;exact ⟨w,rfl,l6.new w _ _,zx _,((Aa _ _).alloc (zx _) _).drew⟩
set_option maxHeartbeats 400000 in
theorem mN (a n s:zt) (b:Nat) (w:zp) (hB:l6 w b #[zk zm 3,a,n,s] 50) :
 zr prog 77 #[zq (some ⟨b,0,none⟩)] w (HasR w #[.iface 143 (zq (some ⟨b,1,none⟩)),.iface 147 (zq (some ⟨b,3,none⟩))]):=by
 obtain ⟨c0,-,-,-,-,-,-,-⟩:=hB.four;clear hB;go_enter func77,ntmps77;go_wp2;go_region;go_wp2;go_ret;exact ⟨w,rfl,l6.new w _ _,zx _,((Aa _ _).alloc (zx _) _).drew⟩
set_option maxHeartbeats 400000 in
theorem wF (a n s:zt) (b:Nat) (w:zp) (hB:l6 w b #[zk zm 4,a,n,s] 50) :
 zr prog 77 #[zq (some ⟨b,0,none⟩)] w (HasR w #[.iface 147 (zq (some ⟨b,3,none⟩))]):=by
 obtain ⟨c0,-,-,-,-,-,-,-⟩:=hB.four;clear hB;go_enter func77,ntmps77;go_wp2;go_region;go_wp2;go_ret;exact ⟨w,rfl,l6.new w _ _,zx _,((Aa _ _).alloc (zx _) _).drew⟩
set_option maxHeartbeats 400000 in
theorem wW (k:Int) (hk:k<1∨4<k) (a n s:zt) (b:Nat) (w:zp) (hB:l6 w b #[zk zm k,a,n,s] 50) :
 zr prog 77 #[zq (some ⟨b,0,none⟩)] w fun e w'=>e=zu (.slice none 0 0)∧w.drew=w':=by
 obtain ⟨c0,-,-,-,-,-,-,-⟩:=hB.four;have k1:k≠1:=lg;have k2:k≠2:=lg;have k3:k≠3:=lg;have k4:k≠4:=lg;clear hB hk;go_enter func77,ntmps77;go_wp2;go_region;go_wp2;go_ret;exact ⟨rfl,rfl⟩
set_option linter.unusedSimpArgs false
structure Rt (w:zp) (b g:Nat) (cs fs:Array zt) (wr:zp):Prop where
 x:l6 wr b cs 50
 f:l6 wr g fs 125
 B:zw w w wr
 ne:b<g
 lo:w≤b
def Rt2 (p0 p1:Bool) (w:zp) (b g:Nat) (fs c0 c1 c2:Array zt) (i:zt) (wr:zp):Prop:=
 (i=zk zm 0∧Rt w b g c0 fs wr)∨(i=zk zm 1∧p0=true∧Rt w b g c1 fs wr)∨(i=zk zm 2∧p0=true∧p1=true∧Rt w b g c2 fs wr)
theorem Rt.set {g:Nat} {cs fs:Array zt} {wr:zp} (h:Rt w b g cs fs wr) (i:Nat) (u:zt):Rt w b g (cs.set! i u) fs (wr.setCell ⟨b,i,none⟩ u):=
 ⟨h.x.set i u,h.f.other _ (by have:=h.ne;show b≠g;omega) u,h.B.setCell h.lo u,h.ne,h.lo⟩
theorem Rt.on {g:Nat} {cs fs:Array zt} {wr w1:zp} (h:Rt w b g cs fs wr) (hb:zw wr wr w1):Rt w b g cs fs w1:=
 ⟨h.x.onto hb,h.f.onto hb,h.B.trans (hb.mono h.B.size),h.ne,h.lo⟩
theorem l6.duo {x0 x1:zt} {t:TypeId} (h:l6 w b #[x0,x1] t):w ⟨b,0,none⟩=some x0∧w ⟨b,1,none⟩=some x1:=⟨h.cell 0 _ rfl,h.cell 1 _ rfl⟩
theorem l6.lone {x0:zt} {t:TypeId} (h:l6 w b #[x0] t):w ⟨b,0,none⟩=some x0:=h.cell 0 _ rfl
theorem kK {w1:zp} {g:Nat} {cs fs:Array zt} (hbx:l6 (w.alloc (.cells cs 50)) w cs 50) (hg:l6 w1 g fs 125)
 (hgl:(w.alloc (.cells cs 50))≤g) (hb1:zw (w.alloc (.cells cs 50)) (w.alloc (.cells cs 50)) w1):Rt w w g cs fs w1:=
 ⟨hbx.onto hb1,hg,((Aa _ _).alloc (zx _) _).trans (hb1.mono li),by simp at hgl;omega,zx _⟩
set_option maxHeartbeats 1600000 in
theorem MM (a n:Int) (s:ByteArray) (hs:s.size≤zz) (w:zp) :
 zr prog 79 #[Ab #[zk zm 1,zk zm a,zk zm n,zo s]] w fun e w'=>e=zu (zy (nh 1 a n s.data.toList))∧zw w w w':=by
 rw [right1,bC];have ab:=zn (l6.new w #[zk zm 1,zk zm a,zk zm n,zo s] 50);have HH:=zn (rI (zk zm a) (zk zm n) (zo s) w _ ab.out);have he:=aE s;have q0:=jG a;obtain ⟨p0,e0⟩:∃ p,wj a=p:=⟨_,rfl⟩;rw [e0] at q0 ⊢;have Q0:=zn q0;clear q0 e0;have q1:=JH s hs;obtain ⟨p1,e1⟩:∃ p,(decide (s.size≤512) && nx s.data.toList)=p:=⟨_,rfl⟩;rw [e1] at q1 ⊢;have Q1:=zn q1;clear q1 e1;go_enter func79,ntmps79;go_wp2_with fail;refine HH.out.mono ?_;rintro e w1 ⟨g,rfl,hg,hgl,ac⟩;go_wp2;have HT:=zn (kK ab.out hg hgl ac);clear ac hgl hg
 go_loopw [15] (fun i wr=>Rt2 p0 p1 w w g #[.iface 143 (zq (some ⟨w,1,none⟩)),.iface 145 (zq (some ⟨w,3,none⟩))] #[zk zm 1,zk zm a,zk zm n,zo s] #[zk zm 1,zk zm 0,zk zm n,zo s] #[zk zm 1,zk zm 0,zk zm n,zo ⟨#[]⟩] i wr) (fun i _=>2 - (zv i).toNat)
 case atStart=>exact .inl ⟨rfl,HT.out⟩
 case round =>
  clear HT;rcases hrel with ⟨rfl,ht⟩|⟨rfl,rfl,ht⟩|⟨rfl,rfl,rfl,ht⟩
  ·obtain ⟨g0,g1⟩:=ht.f.duo;obtain ⟨x0,x1,x2,x3,y0,y1,y2,y3⟩:=ht.x.four;have HT:=zn ht;clear ht he;go_wp2_with fail;refine (Q0.out _ _ _ x1).mono ?_;rintro e w2 ⟨rfl,rfl⟩;have aa:=zn HT.out;clear HT;cases p0
   ·go_wp2;go_ret;exact ⟨aA li,aa.out.B⟩
   ·go_wp2_with fail;refine (jE _ _ _ _ x1 y1).mono ?_;rintro e w3 ⟨rfl,rfl⟩;go_wp2;go_roundw
    case rel=>exact .inr (.inl ⟨by go_num,rfl,by simpa using aa.out.set 1 (zk zm 0)⟩)
    case measure=>simp [zv]
  ·obtain ⟨g0,g1⟩:=ht.f.duo;obtain ⟨x0,x1,x2,x3,y0,y1,y2,y3⟩:=ht.x.four;have HT:=zn ht;clear ht he;go_wp2_with fail;refine (Q1.out _ _ _ x3).mono ?_;rintro e w2 ⟨rfl,ad⟩;have aa:=zn (HT.out.on ad);clear HT ad g0 g1 x0 x1 x2 x3 y0 y1 y2 y3;obtain ⟨g0,g1⟩:=aa.out.f.duo;obtain ⟨x0,x1,x2,x3,y0,y1,y2,y3⟩:=aa.out.x.four;cases p1
   ·go_wp2;go_ret;exact ⟨aA li,aa.out.B⟩
   ·go_wp2_with fail;refine (LK _ _ _ _ x3 y3).mono ?_;rintro e w3 ⟨rfl,rfl⟩;go_wp2;go_roundw
    case rel=>exact .inr (.inr ⟨by go_num,rfl,rfl,by simpa using aa.out.set 3 (zo ⟨#[]⟩)⟩)
    case measure=>simp [zv]
  ·obtain ⟨x0,x1,x2,x3,y0,y1,y2,y3⟩:=ht.x.four;have aa:=zn ht;clear ht;clear he;by_cases n0:n=0
   ·subst n0;go_wp2;go_ret;exact ⟨aA li,aa.out.B⟩
   ·go_wp2;go_ret;exact ⟨aA (by simp [n0]),aa.out.B⟩
set_option maxHeartbeats 1600000 in
theorem LB (a n:Int) (s:ByteArray) (w:zp) :
 zr prog 79 #[Ab #[zk zm 2,zk zm a,zk zm n,zo s]] w fun e w'=>e=zu (zy (nh 2 a n s.data.toList))∧zw w w w':=by
 rw [yk,bC];have ab:=zn (l6.new w #[zk zm 2,zk zm a,zk zm n,zo s] 50);have HH:=zn (nK (zk zm a) (zk zm n) (zo s) w _ ab.out);have he:=aE s;have q0:=jG a;obtain ⟨p0,e0⟩:∃ p,wj a=p:=⟨_,rfl⟩;rw [e0] at q0 ⊢;have Q0:=zn q0;clear q0 e0;have q1:=jG n;obtain ⟨p1,e1⟩:∃ p,wj n=p:=⟨_,rfl⟩;rw [e1] at q1 ⊢;have Q1:=zn q1;clear q1 e1;go_enter func79,ntmps79;go_wp2_with fail;refine HH.out.mono ?_;rintro e w1 ⟨g,rfl,hg,hgl,ac⟩;go_wp2;have HT:=zn (kK ab.out hg hgl ac);clear ac hgl hg
 go_loopw [15] (fun i wr=>Rt2 p0 p1 w w g #[.iface 143 (zq (some ⟨w,1,none⟩)),.iface 143 (zq (some ⟨w,2,none⟩))] #[zk zm 2,zk zm a,zk zm n,zo s] #[zk zm 2,zk zm 0,zk zm n,zo s] #[zk zm 2,zk zm 0,zk zm 0,zo s] i wr) (fun i _=>2 - (zv i).toNat)
 case atStart=>exact .inl ⟨rfl,HT.out⟩
 case round =>
  clear HT;rcases hrel with ⟨rfl,ht⟩|⟨rfl,rfl,ht⟩|⟨rfl,rfl,rfl,ht⟩
  ·obtain ⟨g0,g1⟩:=ht.f.duo;obtain ⟨x0,x1,x2,x3,y0,y1,y2,y3⟩:=ht.x.four;have HT:=zn ht;clear ht he;go_wp2_with fail;refine (Q0.out _ _ _ x1).mono ?_;rintro e w2 ⟨rfl,rfl⟩;have aa:=zn HT.out;clear HT;cases p0
   ·go_wp2;go_ret;exact ⟨aA li,aa.out.B⟩
   ·go_wp2_with fail;refine (jE _ _ _ _ x1 y1).mono ?_;rintro e w3 ⟨rfl,rfl⟩;go_wp2;go_roundw
    case rel=>exact .inr (.inl ⟨by go_num,rfl,by simpa using aa.out.set 1 (zk zm 0)⟩)
    case measure=>simp [zv]
  ·obtain ⟨g0,g1⟩:=ht.f.duo;obtain ⟨x0,x1,x2,x3,y0,y1,y2,y3⟩:=ht.x.four;have HT:=zn ht;clear ht he;go_wp2_with fail;refine (Q1.out _ _ _ x2).mono ?_;rintro e w2 ⟨rfl,rfl⟩;have aa:=zn HT.out;clear HT;cases p1
   ·go_wp2;go_ret;exact ⟨aA li,aa.out.B⟩
   ·go_wp2_with fail;refine (jE _ _ _ _ x2 y2).mono ?_;rintro e w3 ⟨rfl,rfl⟩;go_wp2;go_roundw
    case rel=>exact .inr (.inr ⟨by go_num,rfl,rfl,by simpa using aa.out.set 2 (zk zm 0)⟩)
    case measure=>simp [zv]
  ·obtain ⟨x0,x1,x2,x3,y0,y1,y2,y3⟩:=ht.x.four;have aa:=zn ht;clear ht;by_cases hz:s.size=0
   ·rw [decide_eq_true hz] at he;go_wp2;go_ret;exact ⟨aA (by simp [hz]),aa.out.B⟩
   ·rw [decide_eq_false hz] at he;go_wp2;go_ret;exact ⟨aA (by simp [hz]),aa.out.B⟩
set_option maxHeartbeats 1600000 in
theorem AH (a n:Int) (s:ByteArray) (hs:s.size≤zz) (w:zp) :
 zr prog 79 #[Ab #[zk zm 3,zk zm a,zk zm n,zo s]] w fun e w'=>e=zu (zy (nh 3 a n s.data.toList))∧zw w w w':=by
 rw [right3];have ab:=zn (l6.new w #[zk zm 3,zk zm a,zk zm n,zo s] 50);have HH:=zn (mN (zk zm a) (zk zm n) (zo s) w _ ab.out);have he:=aE s;have q0:=jG a;obtain ⟨p0,e0⟩:∃ p,wj a=p:=⟨_,rfl⟩;rw [e0] at q0 ⊢;have Q0:=zn q0;clear q0 e0;have q1:=sZ s hs;obtain ⟨p1,e1⟩:∃ p,mv s.data.toList=p:=⟨_,rfl⟩;rw [e1] at q1 ⊢;have Q1:=zn q1;clear q1 e1;go_enter func79,ntmps79;go_wp2_with fail;refine HH.out.mono ?_;rintro e w1 ⟨g,rfl,hg,hgl,ac⟩;go_wp2;have HT:=zn (kK ab.out hg hgl ac);clear ac hgl hg
 go_loopw [15] (fun i wr=>Rt2 p0 p1 w w g #[.iface 143 (zq (some ⟨w,1,none⟩)),.iface 147 (zq (some ⟨w,3,none⟩))] #[zk zm 3,zk zm a,zk zm n,zo s] #[zk zm 3,zk zm 0,zk zm n,zo s] #[zk zm 3,zk zm 0,zk zm n,zo ⟨#[]⟩] i wr) (fun i _=>2 - (zv i).toNat)
 case atStart=>exact .inl ⟨rfl,HT.out⟩
 case round =>
  clear HT;rcases hrel with ⟨rfl,ht⟩|⟨rfl,rfl,ht⟩|⟨rfl,rfl,rfl,ht⟩
  ·obtain ⟨g0,g1⟩:=ht.f.duo;obtain ⟨x0,x1,x2,x3,y0,y1,y2,y3⟩:=ht.x.four;have HT:=zn ht;clear ht he;go_wp2_with fail;refine (Q0.out _ _ _ x1).mono ?_;rintro e w2 ⟨rfl,rfl⟩;have aa:=zn HT.out;clear HT;cases p0
   ·go_wp2;go_ret;exact ⟨aA li,aa.out.B⟩
   ·go_wp2_with fail;refine (jE _ _ _ _ x1 y1).mono ?_;rintro e w3 ⟨rfl,rfl⟩;go_wp2;go_roundw
    case rel=>exact .inr (.inl ⟨by go_num,rfl,by simpa using aa.out.set 1 (zk zm 0)⟩)
    case measure=>simp [zv]
  ·obtain ⟨g0,g1⟩:=ht.f.duo;obtain ⟨x0,x1,x2,x3,y0,y1,y2,y3⟩:=ht.x.four;have HT:=zn ht;clear ht he;go_wp2_with fail;refine (Q1.out _ _ _ x3).mono ?_;rintro e w2 ⟨rfl,rfl⟩;have aa:=zn HT.out;clear HT;cases p1
   ·go_wp2;go_ret;exact ⟨aA li,aa.out.B⟩
   ·go_wp2_with fail;refine (sR _ _ _ _ x3 y3).mono ?_;rintro e w3 ⟨rfl,rfl⟩;go_wp2;go_roundw
    case rel=>exact .inr (.inr ⟨by go_num,rfl,rfl,by simpa using aa.out.set 3 (zo ⟨#[]⟩)⟩)
    case measure=>simp [zv]
  ·obtain ⟨x0,x1,x2,x3,y0,y1,y2,y3⟩:=ht.x.four;have aa:=zn ht;clear ht;clear he;by_cases n0:n=0
   ·subst n0;go_wp2;go_ret;exact ⟨aA li,aa.out.B⟩
   ·go_wp2;go_ret;exact ⟨aA (by simp [n0]),aa.out.B⟩
set_option maxHeartbeats 1600000 in
theorem GK (a n:Int) (s:ByteArray) (hs:s.size≤zz) (w:zp) :
 zr prog 79 #[Ab #[zk zm 4,zk zm a,zk zm n,zo s]] w fun e w'=>e=zu (zy (nh 4 a n s.data.toList))∧zw w w w':=by
 rw [right4];have ab:=zn (l6.new w #[zk zm 4,zk zm a,zk zm n,zo s] 50);have HH:=zn (wF (zk zm a) (zk zm n) (zo s) w _ ab.out);have q0:=sZ s hs;obtain ⟨p0,e0⟩:∃ p,mv s.data.toList=p:=⟨_,rfl⟩;rw [e0] at q0 ⊢;have Q0:=zn q0;clear q0 e0;go_enter func79,ntmps79;go_wp2_with fail;refine HH.out.mono ?_;rintro e w1 ⟨g,rfl,hg,hgl,ac⟩;go_wp2;have HT:=zn (kK ab.out hg hgl ac);clear ac hgl hg
 go_loopw [15] (fun i wr=>Rt2 p0 false w w g #[.iface 147 (zq (some ⟨w,3,none⟩))] #[zk zm 4,zk zm a,zk zm n,zo s] #[zk zm 4,zk zm a,zk zm n,zo ⟨#[]⟩] #[] i wr) (fun i _=>2 - (zv i).toNat)
 case atStart=>exact .inl ⟨rfl,HT.out⟩
 case round =>
  clear HT;rcases hrel with ⟨rfl,ht⟩|⟨rfl,rfl,ht⟩|⟨rfl,rfl,hz,ht⟩
  ·have g0:=ht.f.lone;obtain ⟨x0,x1,x2,x3,y0,y1,y2,y3⟩:=ht.x.four;have HT:=zn ht;clear ht;go_wp2_with fail;refine (Q0.out _ _ _ x3).mono ?_;rintro e w2 ⟨rfl,rfl⟩;have aa:=zn HT.out;clear HT;cases p0
   ·go_wp2;go_ret;exact ⟨aA li,aa.out.B⟩
   ·go_wp2_with fail;refine (sR _ _ _ _ x3 y3).mono ?_;rintro e w3 ⟨rfl,rfl⟩;go_wp2;go_roundw
    case rel=>exact .inr (.inl ⟨by go_num,rfl,by simpa using aa.out.set 3 (zo ⟨#[]⟩)⟩)
    case measure=>simp [zv]
  ·obtain ⟨x0,x1,x2,x3,y0,y1,y2,y3⟩:=ht.x.four;have aa:=zn ht;clear ht;by_cases a0:a=0
   ·subst a0;by_cases n0:n=0
    ·subst n0;go_wp2;go_ret;exact ⟨aA li,aa.out.B⟩
    ·go_wp2;go_ret;exact ⟨aA (by simp [n0]),aa.out.B⟩
   ·go_wp2;go_ret;exact ⟨aA (by simp [a0]),aa.out.B⟩
  ·cases hz
set_option maxHeartbeats 1600000 in
theorem ER (k a n:Int) (hk:5≤k) (hk2:k≤8) (s:ByteArray) (w:zp) :
 zr prog 79 #[Ab #[zk zm k,zk zm a,zk zm n,zo s]] w fun e w'=>e=zu (zy (nh k a n s.data.toList))∧zw w w w':=by
 rw [yj hk hk2,bC];have aa:=zn (l6.new w #[zk zm k,zk zm a,zk zm n,zo s] 50);have HH:=zn (wW k (.inr lg) (zk zm a) (zk zm n) (zo s) w _ aa.out);have he:=aE s;have HB:=zn (show zw w.heap.size w (w.alloc (.cells #[zk zm k,zk zm a,zk zm n,zo s] 50)).drew from ((Aa _ _).alloc (zx _) _).drew);have k1:1≤k:=lg;clear hk;go_enter func79,ntmps79;go_wp2_with fail;refine HH.out.mono ?_;rintro e w1 ⟨rfl,rfl⟩;go_wp2
 go_loopw [15] (fun i wr=>i=zk zm 0∧wr=(w.alloc (.cells #[zk zm k,zk zm a,zk zm n,zo s] 50)).drew) (fun _ _=>0)
 case atStart=>exact ⟨rfl,rfl⟩
 case round =>
  obtain ⟨rfl,rfl⟩:=hrel;by_cases a0:a=0
  ·subst a0;by_cases n0:n=0
   ·subst n0;by_cases hz:s.size=0
    ·rw [decide_eq_true hz] at he;go_wp2;go_ret;exact ⟨aA (by simp [hz]),HB.out⟩
    ·rw [decide_eq_false hz] at he;go_wp2;go_ret;exact ⟨aA (by simp [hz]),HB.out⟩
   ·clear he;go_wp2;go_ret;exact ⟨aA (by simp [n0]),HB.out⟩
  ·clear he;go_wp2;go_ret;exact ⟨aA (by simp [a0]),HB.out⟩
theorem QS (k a n:Int) (hk:k<1∨8<k) (s:ByteArray) (w:zp) :
 zr prog 79 #[Ab #[zk zm k,zk zm a,zk zm n,zo s]] w fun e w'=>e=zu (zy (nh k a n s.data.toList))∧zw w w w':=by
 rw [iW hk];by_cases k1:k<1
 ·go_enter func79,ntmps79;go_wp2;go_ret;exact ⟨rfl,(Aa _ _).alloc (zx _) _⟩
 ·have k8:8<k:=lg;go_enter func79,ntmps79;go_wp2;go_ret;exact ⟨rfl,(Aa _ _).alloc (zx _) _⟩
theorem dK (k a n:Int) (s:ByteArray) (hs:s.size≤zz) (w:zp) :
 zr prog 79 #[Ab #[zk zm k,zk zm a,zk zm n,zo s]] w fun e w'=>e=zu (zy (nh k a n s.data.toList))∧zw w w w':=by
 rcases xi k with rfl|rfl|rfl|rfl|g|g
 ·exact MM a n s hs w
 ·exact LB a n s w
 ·exact AH a n s hs w
 ·exact GK a n s hs w
 ·exact ER k a n g.1 g.2 s w
 ·exact QS k a n g s w
end Go.Proofs.YtbagenpobcgjnaaGreat
