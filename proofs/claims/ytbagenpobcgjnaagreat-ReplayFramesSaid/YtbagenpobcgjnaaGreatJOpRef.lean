/-
  Joined: OpRef, OpRef2, OpRef3.
-/
import Derived.Test.YtbagenpobcgjnaaGreatJUtfRTake
import Derived.Test.YtbagenpobcgjnaaGreatJCells
open Go renaming Calls->zt,World->zq,bodyPost_ret->zw,results->zx
open Go.Ending renaming returned->zv
open Go.IntKind renaming i64->zo
open Go.Lib renaming hid->zk
open Go.RowKit renaming Below->zr
open Go.RowKit.Below renaming refl->zp
open Go.Value renaming agg->zz,bool->zy,int->zn,string->zu
open Nat renaming le_refl->zm
namespace Go.Proofs.YtbagenpobcgjnaaGreat
open Go.Proofs.Tryz
set_option maxRecDepth 100000
open Lib (hid)
open Go.RowKit
set_option maxHeartbeats 400000 in
theorem tW (s:ByteArray) (hs:s.size≤4294967296) (w:zq) :
 zt prog 63 #[zu s] w fun e w'=>e=zv (zy (mv s.data.toList))∧w=w':=by
 obtain ⟨r,hr⟩:∃ r,mv s.data.toList=r:=⟨_,rfl⟩;rw [hr];have HR:=zk hr;clear hr;go_enter func63,ntmps63;go_wp2
 go_loop [3] (fun i=>∃ k:Nat,k≤s.size∧i=zn zo k∧(s.data.toList.take k).all vm=true) (fun i=>s.size - (intOf i).toNat)
 case atStart=>exact ⟨0,Nat.zero_le _,rfl,rfl⟩
 case round =>
  obtain ⟨k,hk,rfl,hall⟩:=hrel;have HA:=zk hall;clear hall;by_cases hlt:k<s.size
  ·have aa:=s[k].toNat_lt;by_cases g1:97≤s[k].toNat
   ·by_cases g2:s[k].toNat≤122
    ·have h2:=zk (pJ hlt HA.out g1 g2);go_wp2
     go_round
     case rel=>exact ⟨k+1,lg,by go_num,h2.out⟩
     case measure=>simp [intOf];omega
    ·have h2:=zk (gW hlt (.inr lg));have g2':122<s[k].toNat:=lg;go_wp2;go_ret;exact ⟨aA (by rw [← HR.out,h2.out]),rfl⟩
   ·have h2:=zk (gW hlt (.inl lg));have g1':s[k].toNat<97:=lg;go_wp2;go_ret;exact ⟨aA (by rw [← HR.out,h2.out]),rfl⟩
  ·obtain rfl:k=s.size:=lg;have h2:=zk (rR HA.out);by_cases z1:1≤s.size
   ·by_cases z2:s.size≤8
    ·have z0:0<s.size:=lg;go_wp2;go_ret;exact ⟨aA (by rw [← HR.out,h2.out,decide_eq_true z1,Bool.true_and];exact decide_eq_decide.2 lg),rfl⟩
    ·have z0:0<s.size:=lg;have z3:8<s.size:=lg;go_wp2;go_ret;exact ⟨aA (by rw [← HR.out,h2.out,decide_eq_true z1,Bool.true_and];exact decide_eq_decide.2 lg),rfl⟩
   ·have z0:s.size=0:=lg;have z3:s.size<1:=lg;go_wp2;go_ret;exact ⟨aA (by rw [← HR.out,h2.out,decide_eq_false z1,Bool.false_and]),rfl⟩
theorem gP (n:Int) (w:zq) :
 zt prog 62 #[zn zo n] w fun e w'=>e=zv (zy (wj n))∧w=w':=by
 by_cases h0:0≤n
 ·by_cases h1:n≤4096
  ·rw [BJ h0 h1];go_enter func62,ntmps62;go_wp2;go_ret;exact ⟨rfl,rfl⟩
  ·have h1':4096<n:=lg;rw [pT (.inr h1')];go_enter func62,ntmps62;go_wp2;go_ret;exact ⟨rfl,rfl⟩
 ·have h0':n<0:=lg;rw [pT (.inl h0')];go_enter func62,ntmps62;go_wp2;go_ret;exact ⟨rfl,rfl⟩
theorem dE {s:ByteArray} (h:s.size=0):s=⟨#[]⟩:=ByteArray.ext (Array.eq_empty_of_size_eq_zero (by simpa using h))
theorem bC (s:ByteArray):s.data.toList.length=s.size:=li
set_option maxHeartbeats 1600000 in
theorem DM (a n:Int) (s:ByteArray) (hs:s.size≤4294967296) (w:zq) :
 zt prog 34 #[zz #[zn zo 1,zn zo a,zn zo n,zu s]] w fun e w'=>e=zv (zy (nh 1 a n s.data.toList))∧zr w w w':=by
 rw [right1,bC];have hp:=gP a;have hv:=eT s (Nat.le_trans hs lj);obtain ⟨p,aa⟩:∃ p,wj a=p:=⟨_,rfl⟩;obtain ⟨v,ab⟩:∃ v,nx s.data.toList=v:=⟨_,rfl⟩;rw [aa] at hp ⊢;rw [ab] at hv ⊢;have HP:=zk hp;have HV:=zk hv;clear hp hv aa ab;by_cases n0:n=0
 ·subst n0;by_cases h5:s.size≤512
  ·cases p <;>
   ·go_enter func34,ntmps34;go_wp2_with fail;refine (HP.out _).mono ?_;rintro e w' ⟨rfl,rfl⟩;go_wp2_with (go_at_call 37;refine (HV.out _).mono ?_;rintro e w' ⟨rfl,hb⟩);go_ret
    first|exact ⟨aA (by simp [h5]),((zp _ _).alloc (zm _) _).trans (hb.mono li)⟩|exact ⟨aA li,(zp _ _).alloc (zm _) _⟩
  ·have h5':512<s.size:=lg;cases p <;>
   ·go_enter func34,ntmps34;go_wp2_with fail;refine (HP.out _).mono ?_;rintro e w' ⟨rfl,rfl⟩;go_wp2;go_ret;exact ⟨aA (by simp;try omega),(zp _ _).alloc (zm _) _⟩
 ·cases p <;>
  ·go_enter func34,ntmps34;go_wp2_with fail;refine (HP.out _).mono ?_;rintro e w' ⟨rfl,rfl⟩;go_wp2;go_ret;exact ⟨aA (by simp [n0]),(zp _ _).alloc (zm _) _⟩
set_option maxHeartbeats 1600000 in
theorem EK (a n:Int) (s:ByteArray) (w:zq) :
 zt prog 34 #[zz #[zn zo 2,zn zo a,zn zo n,zu s]] w fun e w'=>e=zv (zy (nh 2 a n s.data.toList))∧zr w w w':=by
 rw [yk,bC];have hp:=gP a;have hq:=gP n;obtain ⟨p,aa⟩:∃ p,wj a=p:=⟨_,rfl⟩;obtain ⟨q,ab⟩:∃ q,wj n=q:=⟨_,rfl⟩;rw [aa] at hp ⊢;rw [ab] at hq ⊢;have HP:=zk hp;have HQ:=zk hq;clear hp hq aa ab;have he:=aE s;by_cases hz:s.size=0
 ·rw [dE hz];clear hz he;cases p <;> cases q <;>
  ·go_enter func34,ntmps34;go_wp2_with fail;refine (HP.out _).mono ?_;rintro e w' ⟨rfl,rfl⟩;go_wp2_with (go_at_call 62;refine (HQ.out _).mono ?_;rintro e w' ⟨rfl,rfl⟩);go_ret;exact ⟨aA (by first|(simp;done)|(simp;rfl)),(zp _ _).alloc (zm _) _⟩
 ·rw [decide_eq_false hz] at he ⊢;cases p <;> cases q <;>
  ·go_enter func34,ntmps34;go_wp2_with fail;refine (HP.out _).mono ?_;rintro e w' ⟨rfl,rfl⟩;go_wp2_with (go_at_call 62;refine (HQ.out _).mono ?_;rintro e w' ⟨rfl,rfl⟩);go_ret;exact ⟨aA (by first|(simp;done)|simp [he]),(zp _ _).alloc (zm _) _⟩
set_option maxHeartbeats 1600000 in
theorem wY (a n:Int) (s:ByteArray) (hs:s.size≤4294967296) (w:zq) :
 zt prog 34 #[zz #[zn zo 3,zn zo a,zn zo n,zu s]] w fun e w'=>e=zv (zy (nh 3 a n s.data.toList))∧zr w w w':=by
 rw [right3];have hp:=gP a;have hv:=tW s hs;obtain ⟨p,aa⟩:∃ p,wj a=p:=⟨_,rfl⟩;obtain ⟨v,ab⟩:∃ v,mv s.data.toList=v:=⟨_,rfl⟩;rw [aa] at hp ⊢;rw [ab] at hv ⊢;have HP:=zk hp;have HV:=zk hv;clear hp hv aa ab;by_cases n0:n=0
 ·subst n0;cases p <;>
  ·go_enter func34,ntmps34;go_wp2_with fail;refine (HP.out _).mono ?_;rintro e w' ⟨rfl,rfl⟩;go_wp2_with (go_at_call 63;refine (HV.out _).mono ?_;rintro e w' ⟨rfl,rfl⟩);go_ret;exact ⟨aA li,(zp _ _).alloc (zm _) _⟩
 ·cases p <;>
  ·go_enter func34,ntmps34;go_wp2_with fail;refine (HP.out _).mono ?_;rintro e w' ⟨rfl,rfl⟩;go_wp2;go_ret;exact ⟨aA (by simp [n0]),(zp _ _).alloc (zm _) _⟩
set_option maxHeartbeats 1600000 in
theorem zO (a n:Int) (s:ByteArray) (hs:s.size≤4294967296) (w:zq) :
 zt prog 34 #[zz #[zn zo 4,zn zo a,zn zo n,zu s]] w fun e w'=>e=zv (zy (nh 4 a n s.data.toList))∧zr w w w':=by
 rw [right4];have hv:=tW s hs;obtain ⟨v,aa⟩:∃ v,mv s.data.toList=v:=⟨_,rfl⟩;rw [aa] at hv ⊢;have HV:=zk hv;clear hv aa;by_cases a0:a=0
 ·subst a0;by_cases n0:n=0
  ·subst n0;go_enter func34,ntmps34;go_wp2_with (go_at_call 63;refine (HV.out _).mono ?_;rintro e w' ⟨rfl,rfl⟩);go_ret;exact ⟨aA li,(zp _ _).alloc (zm _) _⟩
  ·go_enter func34,ntmps34;go_wp2;go_ret;exact ⟨aA (by simp [n0]),(zp _ _).alloc (zm _) _⟩
 ·go_enter func34,ntmps34;go_wp2;go_ret;exact ⟨aA (by simp [a0]),(zp _ _).alloc (zm _) _⟩
set_option maxHeartbeats 1600000 in
theorem AN (k a n:Int) (hk:k=5∨k=6∨k=7∨k=8) (s:ByteArray) (w:zq) :
 zt prog 34 #[zz #[zn zo k,zn zo a,zn zo n,zu s]] w fun e w'=>e=zv (zy (nh k a n s.data.toList))∧zr w w w':=by
 rw [yj lg lg,bC];have he:=aE s;by_cases a0:a=0
 ·subst a0;by_cases n0:n=0
  ·subst n0;by_cases hz:s.size=0
   ·rw [dE hz];clear hz he;rcases hk with rfl|rfl|rfl|rfl <;>
    ·go_enter func34,ntmps34;go_wp2;go_ret;exact ⟨aA (by first|(simp;done)|(simp;rfl)),(zp _ _).alloc (zm _) _⟩
   ·rw [decide_eq_false hz] at he ⊢;rcases hk with rfl|rfl|rfl|rfl <;>
    ·go_enter func34,ntmps34;go_wp2;go_ret;exact ⟨aA (by first|(simp;done)|simp [he]),(zp _ _).alloc (zm _) _⟩
  ·clear he;rcases hk with rfl|rfl|rfl|rfl <;>
   ·go_enter func34,ntmps34;go_wp2;go_ret;exact ⟨aA (by simp [n0]),(zp _ _).alloc (zm _) _⟩
 ·clear he;rcases hk with rfl|rfl|rfl|rfl <;>
  ·go_enter func34,ntmps34;go_wp2;go_ret;exact ⟨aA (by simp [a0]),(zp _ _).alloc (zm _) _⟩
set_option maxHeartbeats 1600000 in
theorem FA (k a n:Int) (hk:k<1∨8<k) (s:ByteArray) (w:zq) :
 zt prog 34 #[zz #[zn zo k,zn zo a,zn zo n,zu s]] w fun e w'=>e=zv (zy (nh k a n s.data.toList))∧zr w w w':=by
 rw [iW hk];have h1:k≠1:=lg;have h2:k≠2:=lg;have h3:k≠3:=lg;have h4:k≠4:=lg;have h5:k≠5:=lg;have h6:k≠6:=lg;have h7:k≠7:=lg;have h8:k≠8:=lg;clear hk;go_enter func34,ntmps34;go_wp2;go_ret;exact ⟨rfl,(zp _ _).alloc (zm _) _⟩
theorem kH (k a n:Int) (s:ByteArray) (hs:s.size≤4294967296) (w:zq) :
 zt prog 34 #[zz #[zn zo k,zn zo a,zn zo n,zu s]] w fun e w'=>e=zv (zy (nh k a n s.data.toList))∧zr w w w':=by
 rcases xi k with rfl|rfl|rfl|rfl|g|g
 ·exact DM a n s hs w
 ·exact EK a n s w
 ·exact wY a n s hs w
 ·exact zO a n s hs w
 ·exact AN k a n lg s w
 ·exact FA k a n g s w
def pi (r:ni):Value:=.tuple #[zz #[zn zo r.k,zn zo r.a,zn zo r.n,zu r.s],zn zo r.e]
theorem dY (s:ByteArray) (h:s.size<4):sa s.data.toList 0 4=(0,false):=by
 unfold sa;rw [if_pos (by rw [bC];omega)]
theorem bX (s:ByteArray) (h:4≤s.size):sa s.data.toList 0 4=(tp s.data.toList 0 4,true):=by
 unfold sa;rw [if_neg (by rw [bC];omega)];rfl
theorem cZ {k a n:Int} {s:ByteArray} (h:nh k a n s.data.toList=true):qc k a n s=⟨k,a,n,s,0⟩:=by unfold qc;rw [if_pos h]
theorem bP {k a n:Int} {s:ByteArray} (h:nh k a n s.data.toList=false):qc k a n s=ni.none 5:=by unfold qc;rw [if_neg (by rw [h];decide)]
set_option maxHeartbeats 1600000 in
theorem zU (w:zq) :
 zt prog 27 #[zu ⟨#[]⟩] w fun e w'=>e=zv (pi (ni.none 18))∧zr w w w':=by
 go_enter func27,ntmps27;go_wp2;exact zw (v:=pi (ni.none 18)) (by simp [zx,results27,go_sem,pi,ni.none]) rfl ⟨rfl,(zp _ _).alloc (zm _) _⟩
set_option maxHeartbeats 1600000 in
theorem LM (s:ByteArray) (k:Nat) (h0:0<s.size) (hk:s[0].toNat=k) (ho:k<1∨8<k) (w:zq) :
 zt prog 27 #[zu s] w fun e w'=>e=zv (pi (ni.none 5))∧zr w w w':=by
 have he:=aE s;rw [decide_eq_false lg] at he;have aa:k<256:=by rw [← hk];exact s[0].toNat_lt
 by_cases k0:k<1
 ·go_enter func27,ntmps27;go_wp2;exact zw (v:=pi (ni.none 5)) (by simp [zx,results27,go_sem,pi,ni.none]) rfl ⟨rfl,((zp _ _).alloc (zm _) _).alloc li _⟩
 ·have k1:8<k:=lg;go_enter func27,ntmps27;go_wp2;exact zw (v:=pi (ni.none 5)) (by simp [zx,results27,go_sem,pi,ni.none]) rfl ⟨rfl,((zp _ _).alloc (zm _) _).alloc li _⟩
theorem fG {w w1:zq} {cs ds:Array Value} {T:TypeId} (hb:zr ((w.alloc (.cells cs T)).alloc (.cells ds T)) ((w.alloc (.cells cs T)).alloc (.cells ds T)) w1) :
 l6 w1 w cs T∧l6 w1 (w+1) ds T∧zr w w w1∧w.heap.size+2≤w1:=by
 have e:(w.alloc (.cells cs T)).heap.size=w+1:=li;refine ⟨((l6.new w cs T).alloc _).onto hb,?_,?_,?_⟩
 ·have:=(l6.new (w.alloc (.cells cs T)) ds T).onto hb;rwa [e] at this
 ·exact (((zp _ _).alloc (zm _) _).alloc li _).trans (hb.mono lr)
 ·have:=hb.size;simp at this;omega
theorem aG {B b:Nat} {w W:zq} (h:zr B w W) (hb:B≤b) (u0 u1 u2 u3:Value) :
 zr B w ((((W.setCell ⟨b,0,none⟩ u0).setCell ⟨b,1,none⟩ u1).setCell ⟨b,2,none⟩ u2).setCell ⟨b,3,none⟩ u3):=
 (((h.setCell hb _).setCell hb _).setCell hb _).setCell hb _
set_option maxHeartbeats 1600000 in
theorem GH (s T:ByteArray) (k:Nat) (hs:s.size≤4294967296) (h0:0<s.size) (hk:s[0].toNat=k) (hT:s.extract 1 s.size=T) (hk1:4≤k) (hk2:k≤8) (w:zq) :
 zt prog 27 #[zu s] w fun e w'=>e=zv (pi (qc k 0 0 T))∧zr w w w':=by
 have he:=aE s;rw [decide_eq_false lg] at he;have hts:T.size≤4294967296:=by rw [← hT];simp;omega
 have hr:=kH k 0 0 T hts;have ae:k≠2:=lg;obtain ⟨r,ab⟩:∃ r,nh k 0 0 T.data.toList=r:=⟨_,rfl⟩;rw [ab] at hr;have ad:=zk ab;have HR:=zk hr;clear hr ab;cases r
 ·rw [bP ad.out];go_enter func27,ntmps27;go_wp2_with fail;refine (HR.out _).mono ?_;rintro e w1 ⟨rfl,aa⟩;obtain ⟨B0,B1,hbw,-⟩:=fG aa;have ac:=zk hbw;clear aa hbw;obtain ⟨c0,c1,c2,c3,f0,f1,f2,f3⟩:=B0.four;go_wp2;exact zw (v:=pi (ni.none 5)) (by simp [zx,results27,go_sem,pi,ni.none,c0,c1,c2,c3]) rfl ⟨rfl,aG ac.out (zm _) _ _ _ _⟩
 ·rw [cZ ad.out];go_enter func27,ntmps27;go_wp2_with fail;refine (HR.out _).mono ?_;rintro e w1 ⟨rfl,aa⟩;obtain ⟨B0,B1,hbw,-⟩:=fG aa;have ac:=zk hbw;clear aa hbw;obtain ⟨c0,c1,c2,c3,f0,f1,f2,f3⟩:=B0.four;obtain ⟨d0,d1,d2,d3,-,-,-,-⟩:=B1.four;go_wp2;exact zw (v:=pi ⟨k,0,0,T,0⟩) (by simp [zx,results27,go_sem,pi,c0,c1,c2,c3]) rfl ⟨rfl,aG ac.out (zm _) _ _ _ _⟩
set_option maxHeartbeats 1600000 in
theorem nB (s T:ByteArray) (k:Nat) (hs:s.size≤4294967296) (h0:0<s.size) (hk:s[0].toNat=k) (hT:s.extract 1 s.size=T) (hk1:1≤k) (hk2:k≤3) (h4:T.size<4) (w:zq) :
 zt prog 27 #[zu s] w fun e w'=>e=zv (pi (ni.none 18))∧zr w w w':=by
 have he:=aE s;rw [decide_eq_false lg] at he;have hg:=dZ T lq 0;rw [dY T h4] at hg;have HG:=zk hg;clear hg;go_enter func27,ntmps27;go_wp2_with fail;refine (HG.out _).mono ?_;rintro e w1 ⟨rfl,rfl⟩;go_wp2;exact zw (v:=pi (ni.none 18)) (by simp [zx,results27,go_sem,pi,ni.none]) rfl ⟨rfl,((zp _ _).alloc (zm _) _).alloc li _⟩
set_option maxHeartbeats 1600000 in
theorem IT (s T:ByteArray) (k:Nat) (hs:s.size≤4294967296) (h0:0<s.size) (hk:s[0].toNat=k) (hT:s.extract 1 s.size=T) (hk1:k=1∨k=3) (h4:4≤T.size) (w:zq) :
 zt prog 27 #[zu s] w fun e w'=>e=zv (pi (qc k (pu T) 0 (my T)))∧zr w w w':=by
 have he:=aE s;rw [decide_eq_false lg] at he;have hts:T.size≤4294967296:=by rw [← hT];simp;omega
 have hg:=dZ T lq 0;rw [bX T h4] at hg;have hr:=kH k (pu T) 0 (my T) (by unfold my;simp;omega);have hx:=hP T.data.toList 4 0;unfold pu at hr ⊢;obtain ⟨x,ad⟩:∃ x,tp T.data.toList 0 4=x:=⟨_,rfl⟩;rw [ad] at hg hr hx ⊢;obtain ⟨U,hU⟩:∃ U,my T=U:=⟨_,rfl⟩;rw [hU] at hr ⊢;have af:T.extract 4 T.size=U:=hU;obtain ⟨r,ab⟩:∃ r,nh k x 0 U.data.toList=r:=⟨_,rfl⟩;rw [ab] at hr;have ae:=zk ab;have HR:=zk hr;have HG:=zk hg;clear hr ab hg ad hU;have ag:k≠2:=lg;have ah:k≤3:=lg;have ai:1≤k:=lg;clear hk1;cases r
 ·rw [bP ae.out];go_enter func27,ntmps27;go_wp2_with fail;refine (HG.out _).mono ?_;rintro e w1 ⟨rfl,rfl⟩;go_wp2_with fail;refine (HR.out _).mono ?_;rintro e w1 ⟨rfl,aa⟩;obtain ⟨B0,B1,hbw,-⟩:=fG aa;have ac:=zk hbw;clear aa hbw;obtain ⟨c0,c1,c2,c3,f0,f1,f2,f3⟩:=B0.four;go_wp2;exact zw (v:=pi (ni.none 5)) (by simp [zx,results27,go_sem,pi,ni.none,c0,c1,c2,c3]) rfl ⟨rfl,aG ac.out (zm _) _ _ _ _⟩
 ·rw [cZ ae.out];go_enter func27,ntmps27;go_wp2_with fail;refine (HG.out _).mono ?_;rintro e w1 ⟨rfl,rfl⟩;go_wp2_with fail;refine (HR.out _).mono ?_;rintro e w1 ⟨rfl,aa⟩;obtain ⟨B0,B1,hbw,-⟩:=fG aa;have ac:=zk hbw;clear aa hbw;obtain ⟨c0,c1,c2,c3,f0,f1,f2,f3⟩:=B0.four;obtain ⟨d0,d1,d2,d3,-,-,-,-⟩:=B1.four;go_wp2;exact zw (v:=pi ⟨k,x,0,U,0⟩) (by simp [zx,results27,go_sem,pi,c0,c1,c2,c3]) rfl ⟨rfl,aG ac.out (zm _) _ _ _ _⟩
set_option maxHeartbeats 1600000 in
theorem wA (s T:ByteArray) (hs:s.size≤4294967296) (h0:0<s.size) (hk:s[0].toNat=2) (hT:s.extract 1 s.size=T) (h4:4≤T.size) (h8:T.size<8) (w:zq) :
 zt prog 27 #[zu s] w fun e w'=>e=zv (pi (ni.none 18))∧zr w w w':=by
 have he:=aE s;rw [decide_eq_false lg] at he;have hg:=dZ T lq 0;rw [bX T h4] at hg;have hu:(my T).size<4:=by unfold my;simp;omega
 have aa:=dZ (my T) lq 0;rw [dY _ hu] at aa;obtain ⟨U,hU⟩:∃ U,my T=U:=⟨_,rfl⟩;rw [hU] at aa hu;have ad:T.extract 4 T.size=U:=hU;have hx:=hP T.data.toList 4 0;obtain ⟨x,ab⟩:∃ x,tp T.data.toList 0 4=x:=⟨_,rfl⟩;rw [ab] at hg hx;have HG:=zk hg;have ac:=zk aa;clear hg aa hU ab;go_enter func27,ntmps27;go_wp2_with fail;refine (HG.out _).mono ?_;rintro e w1 ⟨rfl,rfl⟩;go_wp2_with fail;refine (ac.out _).mono ?_;rintro e w1 ⟨rfl,rfl⟩;go_wp2;exact zw (v:=pi (ni.none 18)) (by simp [zx,results27,go_sem,pi,ni.none]) rfl ⟨rfl,((zp _ _).alloc (zm _) _).alloc li _⟩
set_option maxHeartbeats 1600000 in
theorem LS (s T:ByteArray) (hs:s.size≤4294967296) (h0:0<s.size) (hk:s[0].toNat=2) (hT:s.extract 1 s.size=T) (h8:8≤T.size) (w:zq) :
 zt prog 27 #[zu s] w fun e w'=>e=zv (pi (qc 2 (pu T) (pu (my T)) (my (my T))))∧zr w w w':=by
 have he:=aE s;rw [decide_eq_false lg] at he;have hts:T.size≤4294967296:=by rw [← hT];simp;omega
 have hg:=dZ T lq 0;rw [bX T lg] at hg;have hu:(my T).size≤4294967296:=by unfold my;simp;omega
 have ae:4≤(my T).size:=by unfold my;simp;omega
 have aa:=dZ (my T) lq 0;rw [bX _ ae] at aa;have hr:=kH 2 (pu T) (pu (my T)) (my (my T)) (by unfold my;simp;omega);have hx:=hP T.data.toList 4 0;have hy:=hP (my T).data.toList 4 0;unfold pu at hr ⊢;obtain ⟨x,af⟩:∃ x,tp T.data.toList 0 4=x:=⟨_,rfl⟩;rw [af] at hg hr hx ⊢;obtain ⟨U,hU⟩:∃ U,my T=U:=⟨_,rfl⟩;rw [hU] at hr aa hy ae ⊢;have aj:T.extract 4 T.size=U:=hU;obtain ⟨y,ag⟩:∃ y,tp U.data.toList 0 4=y:=⟨_,rfl⟩;rw [ag] at aa hr hy ⊢;obtain ⟨V,hV⟩:∃ V,my U=V:=⟨_,rfl⟩;rw [hV] at hr ⊢;have ak:U.extract 4 U.size=V:=hV;obtain ⟨r,ac⟩:∃ r,nh 2 x y V.data.toList=r:=⟨_,rfl⟩;rw [ac] at hr;have ah:=zk ac;have HR:=zk hr;have HG:=zk hg;have ai:=zk aa;clear hr ac hg aa af ag hU hV hu;cases r
 ·rw [bP ah.out];go_enter func27,ntmps27;go_wp2_with fail;refine (HG.out _).mono ?_;rintro e w1 ⟨rfl,rfl⟩;go_wp2_with fail;refine (ai.out _).mono ?_;rintro e w1 ⟨rfl,rfl⟩;go_wp2_with fail;refine (HR.out _).mono ?_;rintro e w1 ⟨rfl,ab⟩;obtain ⟨B0,B1,hbw,-⟩:=fG ab;have ad:=zk hbw;clear ab hbw;obtain ⟨c0,c1,c2,c3,f0,f1,f2,f3⟩:=B0.four;go_wp2;exact zw (v:=pi (ni.none 5)) (by simp [zx,results27,go_sem,pi,ni.none,c0,c1,c2,c3]) rfl ⟨rfl,aG ad.out (zm _) _ _ _ _⟩
 ·rw [cZ ah.out];go_enter func27,ntmps27;go_wp2_with fail;refine (HG.out _).mono ?_;rintro e w1 ⟨rfl,rfl⟩;go_wp2_with fail;refine (ai.out _).mono ?_;rintro e w1 ⟨rfl,rfl⟩;go_wp2_with fail;refine (HR.out _).mono ?_;rintro e w1 ⟨rfl,ab⟩;obtain ⟨B0,B1,hbw,-⟩:=fG ab;have ad:=zk hbw;clear ab hbw;obtain ⟨c0,c1,c2,c3,f0,f1,f2,f3⟩:=B0.four;obtain ⟨d0,d1,d2,d3,-,-,-,-⟩:=B1.four;go_wp2;exact zw (v:=pi ⟨2,x,y,V,0⟩) (by simp [zx,results27,go_sem,pi,c0,c1,c2,c3]) rfl ⟨rfl,aG ad.out (zm _) _ _ _ _⟩
theorem yN (s:ByteArray) (hs:s.size≤4294967296) (w:zq) :
 zt prog 27 #[zu s] w fun e w'=>e=zv (pi (su s))∧zr w w w':=by
 unfold su;by_cases h0:0<s.size
 ·rw [dif_pos h0];obtain ⟨k,hk⟩:∃ k,s[0].toNat=k:=⟨_,rfl⟩;obtain ⟨T,hT⟩:∃ T,s.extract 1 s.size=T:=⟨_,rfl⟩;rw [hk,hT];unfold xj;by_cases ho:k<1∨8<k
  ·rw [if_pos lg];exact LM s k h0 hk ho w
  rw [if_neg lg];by_cases h13:k=1∨k=3
  ·rw [if_pos lg];by_cases h4:T.size<4
   ·rw [if_pos h4];exact nB s T k hs h0 hk hT lg lg h4 w
   ·rw [if_neg h4];exact IT s T k hs h0 hk hT h13 lg w
  rw [if_neg lg];by_cases h2:k=2
  ·subst h2;rw [if_pos lg];by_cases h8:T.size<8
   ·rw [if_pos h8];by_cases h4:T.size<4
    ·exact nB s T 2 hs h0 hk hT lg lg h4 w
    ·exact wA s T hs h0 hk hT lg h8 w
   ·rw [if_neg h8];exact LS s T hs h0 hk hT lg w
  ·rw [if_neg lg];exact GH s T k hs h0 hk hT lg lg w
 ·rw [dif_neg h0,dE (show s.size=0 by omega)];exact zU w
end Go.Proofs.YtbagenpobcgjnaaGreat
