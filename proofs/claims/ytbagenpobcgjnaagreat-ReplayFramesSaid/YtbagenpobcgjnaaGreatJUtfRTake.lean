/-
  Joined: UtfRTake, LawTakes, UtfBad, ChunkMath, UtfCount, TallyOf, OpMath, EditMath, EditBack.
-/
import Derived.Test.YtbagenpobcgjnaaGreatJUtfLeaf
import Derived.Deep.RegionHeld3
import Derived.Deep.QuietTactic
import Derived.BigQuiet
open Bool renaming and_eq_false_iff->A0,and_eq_true->Az,and_false->Ar
open ByteArray renaming ext->A8,size->A9,size_extract->A3
open Go renaming Calls->zv,World->zr,maxLen->zy,run_next_any->Ao,run_next_end->Ap,strOfNums->zu
open Go.Ending renaming returned->zx
open Go.IntKind renaming i32->Av,i64->zm
open Go.Lib renaming hid->zk
open Go.RowKit renaming Below->zo,intOf->Ah
open Go.RowKit.Below renaming mono->Ax,refl->zt
open Go.Value renaming int->zn,string->zw
open Int renaming eq_ofNat_of_zero_le->A4,toNat_natCast->Aj
open List renaming append_assoc->Aa,drop_left'->A6,drop_zero->Ad,getD_cons_succ->An,getD_cons_zero->Al,length->Ay,length_append->zp,length_drop->Am,length_take->Af,take_append_drop->Ak,take_left'->A7,take_of_length_le->zz
open Nat renaming le_refl->zq,lt_or_ge->Ai,sub_self->A5,sub_zero->Ae,zero_le->Ab
open Prod.mk renaming injEq->Ag
variable {n o s t:ByteArray} {p:Int} {L:List ByteArray} {k:Nat}
namespace Go.Proofs.YtbagenpobcgjnaaGreat
open Go.Proofs.Tryz
set_option maxRecDepth 100000
open Lib (hid)
open Go.RowKit
def xv (l:List UInt8) (n:Nat):Prop:=0≤si (l.take n)∧(ry (si (l.take n))).data.toList=l.take n
theorem IK (c:Int):(ry c).data.toList.length=(ry c).size:=li
theorem EV (l:List UInt8) (n:Nat) (h1:1≤n) (hn:n≤l.length) (h:xv l n):px l=((si (l.take n)).toNat,n):=by
 obtain ⟨h0,he⟩:=h;have hlen:(l.take n).length=n:=by rw [Af];omega
 have hs:sz (si (l.take n))≠0:=by
  intro hz;have e:ry (si (l.take n))=⟨#[]⟩:=by unfold ry;rw [if_pos hz]
  rw [e] at he;rw [← he] at hlen;simp at hlen;omega
 obtain ⟨_,ht,hsz⟩:=GY _ hs;rw [he] at ht;have hn':sz (si (l.take n))=n:=by rw [← hsz,← IK,he,hlen]
 rw [hn'] at ht;have:=BQ (l.take n) (l.drop n) (by rw [ht];show n≠0;omega);rw [Ak] at this;rw [this,ht]
theorem FE (l:List UInt8) (c n:Nat) (h:px l=(c,n)) (hn:n≠0):xv l n:=by
 have hne:l≠[]:=fun e=>by subst e;simp [px] at h;exact hn h.2.symm
 have hle:=eD l;rw [h] at hle;simp only at hle;have hlen:(l.take n).length=n:=by rw [Af];omega
 have b:∀ i,i<n→bt (l.take n) i=bt l i:=fun i hi=>RO l n i hi;unfold px at h;rw [if_neg hne] at h;have m0:=jV l 0;have m1:=jV l 1;have m2:=jV l 2;have m3:=jV l 3
 suffices hN:si (l.take n)=c∧(ry (c:Int)).data.toList=l.take n by
  unfold xv;rw [hN.1];exact ⟨lg,hN.2⟩
 rcases fL (bt l 0) (bt l 1) (bt l 2) (bt l 3) with ⟨g1,e⟩|⟨g1,g2,g3,g4,e⟩|⟨g1,g2,g3,g4,g5,g6,g7,g8,e⟩|⟨g1,g2,g3,g4,g5,g6,g7,g8,g9,g10,e⟩|⟨_,_,_,_,e⟩
 all_goals rw [e] at h;simp only [Ag] at h;obtain ⟨hc,rfl⟩:=h
 ·refine ⟨by unfold si;rw [if_pos hlen,b 0 lg,hc],?_⟩;rw [xH c lg lg];refine qF _ _ (by rw [hlen];simp [zu]) fun i hi=>?_;have hi':i<1:=by simpa [zu] using hi
  obtain rfl:i=0:=lg;rw [bH _ 0 li,b 0 lg];simp only [Al];omega
 ·refine ⟨by unfold si;rw [hlen,if_neg lg,b 0 lg,show tj 2=192 from rfl,if_neg lg];simp only [ti];rw [b (0+1+0) lg];simp only [Nat.reduceAdd];omega,?_⟩;rw [vH c lg lg];refine qF _ _ (by rw [hlen];simp [zu]) fun i hi=>?_;have hi':i<2:=by simpa [zu] using hi
  obtain rfl|rfl:i=0∨i=1:=lg
  all_goals rw [bH _ _ li,b _ lg];simp only [Al,An];omega
 ·refine ⟨by unfold si;rw [hlen,if_neg lg,b 0 lg,show tj 3=224 from rfl,if_neg lg];simp only [ti];rw [b (0+1+0) lg,b (0+1+1) lg];simp only [Nat.reduceAdd];omega,?_⟩;rw [yA c lg lg lg];refine qF _ _ (by rw [hlen];simp [zu]) fun i hi=>?_;have hi':i<3:=by simpa [zu] using hi
  obtain rfl|rfl|rfl:i=0∨i=1∨i=2:=lg
  all_goals rw [bH _ _ li,b _ lg];simp only [Al,An];omega
 ·refine ⟨by unfold si;rw [hlen,if_neg lg,b 0 lg,show tj 4=240 from rfl,if_neg lg];simp only [ti];rw [b (0+1+0) lg,b (0+1+1) lg,b (0+1+2) lg];simp only [Nat.reduceAdd];omega,?_⟩;rw [xZ c lg lg];refine qF _ _ (by rw [hlen];simp [zu]) fun i hi=>?_;have hi':i<4:=by simpa [zu] using hi
  obtain rfl|rfl|rfl|rfl:i=0∨i=1∨i=2∨i=3:=lg
  all_goals rw [bH _ _ li,b _ lg];simp only [Al,An];omega
 ·exact absurd rfl hn
theorem tP (l:List UInt8) (h:∀ n,1≤n→n≤4→n≤l.length→¬ xv l n):px l=(0,0):=by
 obtain ⟨c,n,e⟩:∃ c n,px l=(c,n):=⟨_,_,rfl⟩;by_cases hn:n=0
 ·by_cases hl:l=[]
  ·subst hl;rfl
  have e':=e;unfold px at e';rw [if_neg hl] at e';rcases fL (bt l 0) (bt l 1) (bt l 2) (bt l 3) with ⟨g1,g⟩|⟨g1,g2,g3,g4,g⟩|⟨g1,g2,g3,g4,g5,g6,g7,g8,g⟩|⟨g1,g2,g3,g4,g5,g6,g7,g8,g9,g10,g⟩|⟨_,_,_,_,g⟩
  all_goals rw [g] at e';simp only [Ag] at e'
  all_goals first|omega|skip
  rw [e];simp [← e'.1,← e'.2]
 ·have h1:=eD l;rw [e] at h1;have h4:n≤4:=by
   have:=qU (bt l 0) (bt l 1) (bt l 2) (bt l 3);unfold px at e;split at e
   ·simp at e;omega
   ·rw [e] at this;exact this
  exact absurd (FE l c n e hn) (h n lg h4 h1)
theorem SL (l:List UInt8) (h4:l.length≤4):-1≤si l∧si l<2147483647:=by
 have hb:=jV l 0;unfold si;split
 ·omega
 split
 ·omega
 ·have:=qP l (bt l 0 - tj l.length) lg (l.length - 1) lg;omega
def NoFit (l:List UInt8) (j:Nat):Prop:=∀ n,1≤n→n<j→n≤l.length→¬ xv l n
theorem qQ {l:List UInt8} {j:Nat} (h:NoFit l j) (g:¬ xv l j):NoFit l (j+1):=fun n h1 h2 h3=>by
 by_cases e:n=j
 ·subst e;exact g
 ·exact h n h1 lg h3
set_option maxHeartbeats 1000000 in
theorem PM (s:ByteArray) (hs:s.size≤140737488355328) (k:Nat) (hk:k<s.size) (w:zr) (r m:Nat) (hR0:px (s.data.toList.drop k)=(r,m)) :
 zv prog 98 #[zw s,zn zm k] w fun e w'=>e=zx (.tuple #[zn .i32 r,zn zm m])∧zo w w w':=by
 have HR:=zk hR0;clear hR0;have hlen:(s.data.toList.drop k).length=s.size - k:=li;have HN:=zk hlen;clear hlen;have ag:decide (s.size≤k)=false:=lr;have ah:decide ((k:Int)<0)=false:=li;go_enter func98,ntmps98;go_wp2
 go_loopw [6] (fun i wr=>∃ j:Nat,1≤j∧j≤5∧i=zn zm j∧zo w w wr∧NoFit (s.data.toList.drop k) j) (fun i _=>5 - (Ah i).toNat)
 case atStart=>exact ⟨1,lg,lg,rfl,zt _ _,fun n h1 h2=>lg⟩
 case round =>
  obtain ⟨j,ad,ai,rfl,hbel,hno⟩:=hrel;have HB:=zk hbel;clear hbel;by_cases hlt:j≤4∧k+j≤s.size
  ·obtain ⟨h4,hkj⟩:=hlt;have hts:(s.extract k (k+j)).size=j:=lr;have htl:(s.extract k (k+j)).data.toList=(s.data.toList.drop k).take j:=by rw [aH,Nat.add_sub_cancel_left]
   have hnum:=EB (s.extract k (k+j)) lg lg;have hle:=SL (s.extract k (k+j)).data.toList (by rw [htl,Af];omega);obtain ⟨c,hc⟩:∃ c,si (s.extract k (k+j)).data.toList=c:=⟨_,rfl⟩;rw [hc] at hnum hle;obtain ⟨aj,ak⟩:=hle;have aa:=zk hnum;clear hnum;have HC:=zk hc;clear hc;have HT:=zk htl;clear htl;have al:=zk hts;clear hts;have ae:(k:Int)≤(k:Int)+(j:Int):=lg;have af:(k:Int)+(j:Int)≤(s.size:Int):=lg;have am:(0:Int)≤(k:Int):=lg;by_cases hneg:0≤c
   ·by_cases heq:ry c=s.extract k (k+j)
    ·have hput:=yI c lg lg;rw [heq] at hput;have hfit:px (s.data.toList.drop k)=(c.toNat,j):=by
      have hf:=EV (s.data.toList.drop k) j ad (by rw [HN.out];omega) (by
       unfold xv;rw [← HT.out,HC.out,heq];exact ⟨hneg,rfl⟩)
      rw [← HT.out,HC.out] at hf;exact hf
     rw [HR.out] at hfit;simp only [Ag] at hfit;clear heq;have HF:=zk hfit;clear hfit;have ab:=zk hput;clear hput;go_wp2_with (go_at_call 126;refine (aa.out _).mono ?_;rintro e w' ⟨rfl,rfl⟩);have z1:zm.wrap ((k:Int)+(j:Int))=(k:Int)+(j:Int):=IntWalk.i64_in _ lg;have z2:Av.wrap c=c:=IntWalk.i32_in _ lg;have z3:((k:Int)+(j:Int)).toNat=k+j:=lg;have z4:(0:Int)≤(k:Int)+(j:Int):=lg
     go_region_held3 (fun _=>True) (trivial) (first|(go_at_call 127;refine (ab.out _).mono ?_;rintro e w1 ⟨rfl,ac⟩))
     go_wp2;go_ret2;refine ⟨gT ?_ ?_,HB.out.trans ((zt _ _).drew.trans (ac.mono ?_))⟩
     ·have:=HF.out;omega
     ·have:=HF.out;omega
     ·exact HB.out.size
    ·have hput:=yI c lg lg;obtain ⟨q,hq⟩:∃ q,ry c=q:=⟨_,rfl⟩;rw [hq] at hput heq;have hnf:¬ xv (s.data.toList.drop k) j:=by
      rintro ⟨_,hf⟩;rw [← HT.out,HC.out,hq] at hf;exact heq (A8 (Array.toList_inj.1 hf))
     have hne:=dQ heq;clear hq heq;have HX:=zk hnf;clear hnf;have ab:=zk hput;clear hput;go_wp2_with (go_at_call 126;refine (aa.out _).mono ?_;rintro e w' ⟨rfl,rfl⟩);have z1:zm.wrap ((k:Int)+(j:Int))=(k:Int)+(j:Int):=IntWalk.i64_in _ lg;have z2:Av.wrap c=c:=IntWalk.i32_in _ lg;have z3:((k:Int)+(j:Int)).toNat=k+j:=lg;have z4:(0:Int)≤(k:Int)+(j:Int):=lg
     go_region_held3 (fun _=>True) (trivial) (first|(go_at_call 127;refine (ab.out _).mono ?_;rintro e w1 ⟨rfl,ac⟩))
     clear z1 z2 z3 z4;go_wp2;go_roundw
     case rel=>exact ⟨j+1,lg,lg,by go_num,HB.out.trans ((zt _ _).drew.trans (ac.mono HB.out.size)),qQ hno HX.out⟩
     case measure=>simp [Ah];omega
   ·have hnf:¬ xv (s.data.toList.drop k) j:=by
     rintro ⟨hf,_⟩;rw [← HT.out,HC.out] at hf;exact hneg hf
    have HX:=zk hnf;clear hnf;have hd:decide (0≤c)=false:=lr;go_wp2_with (go_at_call 126;refine (aa.out _).mono ?_;rintro e w' ⟨rfl,rfl⟩);go_quiet (fail);go_wp2;go_roundw
    case rel=>exact ⟨j+1,lg,lg,by go_num,aC HB.out _,qQ hno HX.out⟩
    case measure=>simp [Ah];omega
  ·by_cases h4:j≤4
   ·have hkj:¬ (j:Int)≤(s.size:Int) - (k:Int):=lg;have h0:px (s.data.toList.drop k)=(0,0):=tP _ fun n h1 h2 h3=>hno n h1 (by rw [HN.out] at h3;omega) h3;rw [HR.out] at h0;simp only [Ag] at h0;have H0:=zk h0;clear h0 hlt;go_wp2;go_ret2;exact ⟨gT (by rw [H0.out.1];rfl) (by rw [H0.out.2];rfl),HB.out⟩
   ·have hj:¬ (j:Int)≤4:=lg;have h0:px (s.data.toList.drop k)=(0,0):=tP _ fun n h1 h2 h3=>hno n h1 lg h3;rw [HR.out] at h0;simp only [Ag] at h0;have H0:=zk h0;clear h0 hlt;go_wp2;go_ret2;exact ⟨gT (by rw [H0.out.1];rfl) (by rw [H0.out.2];rfl),HB.out⟩
def uv (l:List UInt8) (p:Nat):Int:=sj (l.length+1) (l.drop p) p
theorem tD (l:List UInt8) (p:Nat) (h:l.length≤p):uv l p=-1:=by
 unfold uv;rw [List.drop_eq_nil_of_le h];simp [sj]
theorem sW (l:List UInt8) (p:Nat) (h:p<l.length) (e:(px (l.drop p)).2=0):uv l p=p:=by
 unfold uv;simp only [sj];rw [if_neg lr,if_pos e]
theorem qM (l:List UInt8) (p:Nat) (h:p<l.length) (e:(px (l.drop p)).2≠0):uv l p=uv l (p+(px (l.drop p)).2):=by
 unfold uv
 conv=>lhs;rw [show sj (l.length+1) (l.drop p) p=if l.drop p=[] then (-1:Int) else if (px (l.drop p)).2=0 then (p:Int) else sj l.length ((l.drop p).drop (px (l.drop p)).2) (p+(px (l.drop p)).2) from rfl]
 rw [if_neg lr,if_neg e,List.drop_drop];exact sN _ _ _ _ lr lr
set_option maxHeartbeats 400000 in
theorem RC (s:ByteArray) (hs:s.size≤zy) (w:zr) :
 zv prog 134 #[zw s] w fun e w'=>e=zx (zn zm (zg s.data.toList))∧zo w w w':=by
 have hlen:s.data.toList.length=s.size:=li;have HN:=zk hlen;clear hlen;have HM:=zk hs;clear hs;obtain ⟨r,hr⟩:∃ r,zg s.data.toList=r:=⟨_,rfl⟩;rw [hr];have HR:=zk hr;clear hr;go_enter func134,ntmps134;go_wp2
 go_loopw [3] (fun _ wr=>∃ pos:Nat,wr=w.iter s pos∧uv s.data.toList pos=r) (fun _ wr=>s.size - wr.iterPos w)
 case atStart=>exact ⟨0,rfl,HR.out⟩
 case round =>
  obtain ⟨pos,rfl,hb⟩:=hrel;have HB:=zk hb;clear hb;by_cases hp:pos<s.size
  ·have hd:=mM s pos hp;obtain ⟨c,n,hcn⟩:∃ c n,px (s.data.toList.drop pos)=(c,n):=⟨_,_,rfl⟩;rw [hcn] at hd;have aa:=fun ty=>Ao (P:=prog) w s pos ty hp;have ht:=NA s HM.out pos hp;have hpl:pos<s.data.toList.length:=by rw [HN.out];exact hp
   by_cases hn:n=0
   ·rw [if_pos hn] at hd;rw [hd] at aa;have hres:r=pos:=by rw [← HB.out,sW _ _ hpl (by rw [hcn];exact hn)]
    have ht':=fun w=>ht w c n hcn;rw [hn] at ht';have HT:=zk ht';clear ht ht' hd hcn hn hpl;have HRes:=zk hres;clear hres;go_wp2_with (go_at_call 159;refine (HT.out _).mono ?_;rintro e w' ⟨rfl,rfl⟩);go_ret;exact ⟨aM HRes.out.symm,(zt _ _).alloc (zq _) _⟩
   ·rw [if_neg hn] at hd;rw [hd] at aa;have hstep:uv s.data.toList (pos+n)=r:=by
     rw [← HB.out,qM _ _ hpl (by rw [hcn];exact hn),hcn]
    have HS:=zk hstep;clear hstep;have hz:((n:Int) == 0)=false:=lr;by_cases hc:c=65533
    ·have ht':=fun w=>ht w c n hcn;rw [hc] at ht' aa;have HT:=zk ht';clear ht ht' hd hcn hpl hc;go_wp2_with (go_at_call 159;refine (HT.out _).mono ?_;rintro e w' ⟨rfl,rfl⟩);go_roundw
     case rel=>exact ⟨pos+n,rfl,HS.out⟩
     case measure=>simp;omega
    ·have hne:((c:Int) != 65533)=true:=lr;clear ht hd hcn hpl hc;go_wp2;go_roundw
     case rel=>exact ⟨pos+n,rfl,HS.out⟩
     case measure=>simp;omega
  ·have aa:=fun ty=>Ap (P:=prog) w s pos ty hp;have hres:r=-1:=by rw [← HB.out,tD _ _ (by rw [HN.out];omega)]
   have HRes:=zk hres;clear hres;go_wp2;go_ret;exact ⟨aM HRes.out.symm,(zt _ _).alloc (zq _) _⟩
set_option maxHeartbeats 400000 in
theorem QQ (s:ByteArray) (hs:s.size≤140737488355328) (w:zr) :
 zv prog 65 #[zw s] w fun e w'=>e=zx (zn zm (zg s.data.toList))∧zo w w w':=by
 have hlen:s.data.toList.length=s.size:=li;have HN:=zk hlen;clear hlen;obtain ⟨r,hr⟩:∃ r,zg s.data.toList=r:=⟨_,rfl⟩;rw [hr];have HR:=zk hr;clear hr;go_enter func65,ntmps65;go_wp2
 go_loopw [3] (fun i wr=>∃ pos:Nat,i=zn zm pos∧uv s.data.toList pos=r∧pos≤s.size∧zo w w wr) (fun i _=>s.size - (Ah i).toNat)
 case atStart=>exact ⟨0,rfl,HR.out,Ab _,zt _ _⟩
 case round =>
  obtain ⟨pos,rfl,hb,hle,hbel⟩:=hrel;have HB:=zk hb;clear hb;have HL:=zk hbel;clear hbel;by_cases hp:pos<s.size
  ·obtain ⟨c,n,hcn⟩:∃ c n,px (s.data.toList.drop pos)=(c,n):=⟨_,_,rfl⟩;have ht:=fun w=>PM s hs pos hp w c n hcn;have HT:=zk ht;clear ht;have hpl:pos<s.data.toList.length:=by rw [HN.out];exact hp
   by_cases hn:n=0
   ·have hres:r=pos:=by rw [← HB.out,sW _ _ hpl (by rw [hcn];exact hn)]
    have HRes:=zk hres;clear hres;have hz:((n:Int) == 0)=true:=lr;clear hcn hn hpl;go_wp2_with (go_at_call 98;refine (HT.out _).mono ?_;rintro e w' ⟨rfl,aa⟩);go_ret;exact ⟨aM HRes.out.symm,HL.out.trans (Ax ln HL.out.size)⟩
   ·have hstep:uv s.data.toList (pos+n)=r:=by
     rw [← HB.out,qM _ _ hpl (by rw [hcn];exact hn),hcn]
    have hnle:n≤s.size - pos:=by
     have:=eD (s.data.toList.drop pos);rw [hcn,Am,HN.out] at this;exact this
    have HS:=zk hstep;clear hstep;have hz:((n:Int) == 0)=false:=lr;clear hcn hpl;go_wp2_with (go_at_call 98;refine (HT.out _).mono ?_;rintro e w' ⟨rfl,aa⟩);go_roundw
    case rel=>exact ⟨pos+n,by go_num,HS.out,lg,HL.out.trans (Ax ln HL.out.size)⟩
    case measure=>simp [Ah];omega
  ·have hres:r=-1:=by rw [← HB.out,tD _ _ (by rw [HN.out];omega)]
   have HRes:=zk hres;clear hres;go_wp2;go_ret;exact ⟨aM HRes.out.symm,HL.out⟩
theorem UI (l:List UInt8):-1≤zg l:=by
 have:=FJ (l.length+1) l 0;unfold zg;omega
def nx (l:List UInt8):Bool:=decide (zg l<0)
theorem bI (l:List UInt8):nx l=true↔rm l:=by
 unfold nx rm;have:=UI l;simp;omega
theorem dU (s:ByteArray) (hs:s.size≤zy) (w:zr) :
 zv prog 105 #[zw s] w fun e w'=>e=zx (.bool (nx s.data.toList))∧zo w w w':=by
 have hb:=RC s hs;have e:nx s.data.toList=decide (zg s.data.toList<0):=rfl;rw [e];clear e;obtain ⟨r,hr⟩:∃ r,zg s.data.toList=r:=⟨_,rfl⟩;rw [hr] at hb ⊢;have HB:=zk hb;clear hb hr;go_enter func105,ntmps105;go_wp2_with (go_at_call 134;refine (HB.out _).mono ?_;rintro e w' ⟨rfl,aa⟩);go_ret;exact ⟨rfl,ln⟩
theorem eT (s:ByteArray) (hs:s.size≤140737488355328) (w:zr) :
 zv prog 37 #[zw s] w fun e w'=>e=zx (.bool (nx s.data.toList))∧zo w w w':=by
 have hb:=QQ s hs;have e:nx s.data.toList=decide (zg s.data.toList<0):=rfl;rw [e];clear e;obtain ⟨r,hr⟩:∃ r,zg s.data.toList=r:=⟨_,rfl⟩;rw [hr] at hb ⊢;have HB:=zk hb;clear hb hr;go_enter func37,ntmps37;go_wp2_with (go_at_call 65;refine (HB.out _).mono ?_;rintro e w' ⟨rfl,aa⟩);go_ret;exact ⟨rfl,ln⟩
set_option linter.unusedVariables false
theorem jN (l:List UInt8) (k:Nat):o6 l (qv l k):=by
 induction k with
 | zero=>exact bZ l
 | succ k ih =>
  by_cases h:o6 l (k+1)
  ·rw [dM l _ h];exact h
  ·rw [iO l k h];exact ih
theorem rJ (l:List UInt8) (e k:Nat) (h:o6 l e) (hk:e≤k):e≤qv l k:=by
 induction k with
 | zero=>omega
 | succ k ih =>
  by_cases h2:o6 l (k+1)
  ·rw [dM l _ h2];exact hk
  ·rw [iO l k h2];refine ih ?_;rcases Ai k e with g|g
   ·obtain rfl:e=k+1:=lg;exact absurd h h2
   ·exact g
theorem QN (l:List UInt8):(px l).2≤4:=by
 unfold px;split
 ·simp
 ·exact qU _ _ _ _
theorem MA (n:Nat):∀ (l:List UInt8) (k:Nat),l.length≤n→rm l→k≤l.length→∃ e,o6 l e∧e≤k∧k≤e+3:=by
 induction n with
 | zero=>intro l k hn _ hk;exact ⟨0,bZ l,Ab _,lg⟩
 | succ n ih =>
  intro l k hn hv hk;by_cases hl:l=[]
  ·subst hl;exact ⟨0,bZ _,Ab _,by simp at hk;omega⟩
  obtain ⟨h1,h2⟩:=(eZ l hl).1 hv;have h3:=eD l;have h4:=QN l;have h0:=cK hl;rcases Ai k (px l).2 with g|g
  ·exact ⟨0,bZ l,Ab _,lg⟩
  ·obtain ⟨e,he,e1,e2⟩:=ih (l.drop (px l).2) (k - (px l).2) lr h2 lr;refine ⟨(px l).2+e,?_,lg,lg⟩;rcases he with rfl|he|⟨he,hb⟩
   ·rcases eM _ h2 with hc|hc
    ·right;left;have:=congrArg Ay hc;simp at this;omega
    ·rw [nE] at hc;rcases Ai (px l).2 l.length with q|q
     ·exact .inr (.inr ⟨lg,hc⟩)
     ·exact .inr (.inl lg)
   ·simp at he;exact .inr (.inl lg)
   ·simp at he;rw [nE] at hb;exact .inr (.inr ⟨lg,hb⟩)
theorem LL (l:List UInt8) (k:Nat) (hv:rm l) (hk:k≤l.length):k≤qv l k+3:=by
 obtain ⟨e,he,h1,h2⟩:=MA l.length l k (zq _) hv hk;have:=rJ l e k he h1;omega
theorem mT (l:List UInt8) (k:Nat) (h:k≤l.length):mi l k=qv l k:=by
 unfold mi;rw [if_neg lg,if_neg lg,Aj]
theorem KY (s:ByteArray) (n:Nat) (h:n≤s.size):s.extract 0 n++s.extract n s.size=s:=by
 apply aW;rw [aI,aH,aH];rw [Ad,Ae,zz (l:=s.data.toList.drop n) li];exact Ak n _
theorem bK (s:ByteArray) (n:Nat) (h:n≤s.size):(s.extract 0 n).size=n:=lr
theorem dA (s:ByteArray) (n:Nat):(s.extract n s.size).size=s.size - n:=li
theorem mA (s:ByteArray) (n:Nat) (hv:rm s.data.toList) (he:o6 s.data.toList n):rm (s.extract 0 n).data.toList∧rm (s.extract n s.size).data.toList:=by
 rw [aH,aH,Ad,Ae,zz (l:=s.data.toList.drop n) li];exact iJ _ n hv he
def qt (s:ByteArray):Prop:=1≤s.size∧s.size≤16∧rm s.data.toList
def oe (s:ByteArray):Bool:=decide (1≤s.size) && (decide (s.size≤16) && nx s.data.toList)
theorem aV (s:ByteArray):oe s=true↔qt s:=by
 unfold oe qt;rw [Az,Az,decide_eq_true_iff,decide_eq_true_iff,bI]
def sx (s:ByteArray):Nat:=qv s.data.toList 16
theorem jS (s:ByteArray):sx s≤16:=jM _ _
theorem nG (s:ByteArray) (hv:rm s.data.toList) (h:16<s.size):13≤sx s:=by
 have:=LL s.data.toList 16 hv lr;unfold sx;omega
theorem uA (s:ByteArray):o6 s.data.toList (sx s):=jN _ _
inductive Ctd:ByteArray→List ByteArray→Prop
 | none {s:ByteArray}:s.size=0→Ctd s []
 | last {s:ByteArray}:0<s.size→s.size≤16→Ctd s [s]
 | more {s:ByteArray} {L:List ByteArray}:16<s.size→Ctd (s.extract (sx s) s.size) L→Ctd s (s.extract 0 (sx s)::L)
def CutP (s:ByteArray) (L:List ByteArray):Prop:=(rm s.data.toList∧Ctd s L)∨(¬ rm s.data.toList∧L=[])
def ly (L:List ByteArray):ByteArray:=L.foldl (·++·) ⟨#[]⟩
theorem pM (p:ByteArray) (s:ByteArray) (h:s.size=0):p++s=p:=by
 apply aW;rw [aI,List.eq_nil_of_length_eq_zero (l:=s.data.toList) (by simpa using h),List.append_nil]
theorem gK (a b c:ByteArray):a++b++c=a++(b++c):=by
 apply aW;rw [aI,aI,aI,aI,Aa]
theorem PE (h:Ctd s L):∀ p,L.foldl (·++·) p=p++s:=by
 induction h with
 | none h=>intro p;exact (pM p _ h).symm
 | last _ _=>intro p;rfl
 | @more s L h1 _ ih =>
  intro p;rw [List.foldl_cons,ih,gK,KY _ _ (by have:=jS s;omega)]
theorem BG (s:ByteArray):(⟨#[]⟩:ByteArray)++s=s:=by
 apply aW;rw [aI];rfl
theorem MQ (h:Ctd s L):ly L=s:=by
 unfold ly;rw [PE h,BG]
def mr (L:List ByteArray):Prop:=∀ (k:Nat) (h:k<L.length),qt L[k]∧∀ (h0:0<k),16<(L[k - 1]' lg).size+L[k].size
theorem aR:mr []:=fun k h=>absurd h li
theorem lA {x:ByteArray} (hx:qt x) (hy:∀ h:0<L.length,16<x.size+(L[0]'h).size) (hL:mr L):mr (x::L):=by
 intro k h;cases k with
 | zero=>exact ⟨hx,fun h0=>absurd h0 (Nat.lt_irrefl _)⟩
 | succ k =>
  have hk:k<L.length:=by simpa using h
  refine ⟨(hL k hk).1,fun _=>?_⟩;cases k with
  | zero=>exact hy hk
  | succ k=>exact (hL (k+1) hk).2 (Nat.succ_pos _)
theorem LG (h:Ctd s L) (hv:rm s.data.toList):mr L∧(∀ h0:0<L.length,(L[0]'h0).size=s.size∨13≤(L[0]'h0).size)∧L.length≤s.size:=by
 induction h with
 | none h=>exact ⟨aR,fun h0=>absurd h0 li,li⟩
 | last h1 h2=>exact ⟨lA ⟨h1,h2,hv⟩ (fun h=>absurd h li) aR,fun _=>.inl rfl,lr⟩
 | @more s L h1 h2 ih =>
  have hn:=jS s;have aa:=nG s hv h1;have hp:=mA s (sx s) hv (uA s);have z1:=bK s (sx s) lg;have z2:=dA s (sx s);obtain ⟨i1,i2,i3⟩:=ih hp.2;refine ⟨lA ⟨lg,lg,hp.1⟩ (fun h=>?_) i1,fun _=>.inr ?_,?_⟩
  ·rcases i2 h with g|g <;> omega
  ·show 13≤(s.extract 0 (sx s)).size;omega
  ·simp only [List.length_cons];omega
def qh (s:ByteArray):Nat:=qv s.data.toList ((s.size+1) / 2)
theorem pI (s:ByteArray):qh s≤s.size:=by have:=jM s.data.toList ((s.size+1) / 2);unfold qh;omega
def rf (a b:ByteArray):List ByteArray:=
 if oe a=true∧oe b=true then
  if (a++b).size≤16 then [a++b]
  else if oe ((a++b).extract 0 (qh (a++b)))=true∧oe ((a++b).extract (qh (a++b)) (a++b).size)=true then [(a++b).extract 0 (qh (a++b)),(a++b).extract (qh (a++b)) (a++b).size]
  else [a,b]
 else []
theorem EP (l:List UInt8) (k j:Nat) (h:k+j≤l.length) (on:∀ m,m<j→128≤bt l (k+m)∧bt l (k+m)≤191):oo (l.take (k+j))=oo (l.take k)∧op (l.take (k+j))=op (l.take k):=by
 induction j with
 | zero=>exact ⟨rfl,rfl⟩
 | succ j ih =>
  obtain ⟨i1,i2⟩:=ih lg (fun m hm=>on m lg);have g:=on j lg;rw [show k+(j+1)=(k+j)+1 by omega,kW _ _ lg,lN _ _ lg,if_pos g,if_neg lg,i1,i2];exact ⟨rfl,rfl⟩
def vn (l:List UInt8) (p:Nat):Nat:=if (px (l.drop p)).2=0 then 1 else (px (l.drop p)).2
theorem mQ (s:ByteArray) (p:Nat) (h:p<s.size):(Utf8.decode s p).2=vn s.data.toList p:=by
 rw [mM s p h];unfold vn;split <;> rfl
theorem EE (s:ByteArray) (p:Nat) (h:p<s.size):(Utf8.decode s p).1=10↔bt s.data.toList p=10:=by
 rw [mM s p h];have hl:p<s.data.toList.length:=by simpa using h
 rw [fA _ _ hl];rcases fL (bt s.data.toList p) (bt s.data.toList (p+1)) (bt s.data.toList (p+1+1)) (bt s.data.toList (p+1+2)) with ⟨g1,e⟩|⟨g1,g2,g3,g4,e⟩|⟨g1,g2,g3,g4,g5,g6,g7,g8,e⟩|⟨g1,g2,g3,g4,g5,g6,g7,g8,g9,g10,e⟩|⟨g1,_,_,_,e⟩
 all_goals rw [e];simp only [if_pos]
 ·simp
 ·simp;omega
 ·simp;omega
 ·simp;omega
 ·simp;omega
theorem qT (l:List UInt8) (p:Nat) (h:p<l.length) :
 1≤vn l p∧p+vn l p≤l.length∧oo (l.take (p+vn l p))=oo (l.take p)+(if 128≤bt l p∧bt l p≤191 then 0 else 1)∧op (l.take (p+vn l p))=op (l.take p)+(if bt l p=10 then 1 else 0):=by
 unfold vn;by_cases hz:(px (l.drop p)).2=0
 ·rw [if_pos hz];exact ⟨zq _,h,kW l p h,lN l p h⟩
 ·rw [if_neg hz];have hle:=eD (l.drop p);rw [Am] at hle;rw [fA l p h] at hz hle ⊢;obtain ⟨g0,g1,g2,g3⟩:=uU _ _ _ _ hz;have h4:=qU (bt l p) (bt l (p+1)) (bt l (p+1+1)) (bt l (p+1+2));obtain ⟨n,hn⟩:∃ n,(tk (bt l p) (bt l (p+1)) (bt l (p+1+1)) (bt l (p+1+2))).2=n:=⟨_,rfl⟩;rw [hn] at hz hle h4 g1 g2 g3 ⊢;have sk:=EP l (p+1) (n - 1) lg (fun m hm=>by
   obtain rfl|rfl|rfl:m=0∨m=1∨m=2:=lg
   ·exact g1 lg
   ·exact g2 lg
   ·exact g3 lg)
  rw [show p+1+(n - 1)=p+n by omega] at sk;refine ⟨lg,lg,?_,?_⟩
  ·rw [sk.1,kW l p h]
  ·rw [sk.2,lN l p h]
set_option maxHeartbeats 400000 in
theorem IA (s:ByteArray) (hs:s.size≤zy) (w:zr) :
 zv prog 209 #[zw s] w fun e w'=>e=zx (zn zm (oo s.data.toList))∧zo w w w':=by
 have hlen:s.data.toList.length=s.size:=li;have HN:=zk hlen;clear hlen;unfold zy at hs;go_enter func209,ntmps209;go_wp2
 go_loopw [3] (fun n wr=>∃ pos:Nat,pos≤s.size∧wr=w.iter s pos∧n=zn zm (oo (s.data.toList.take pos))) (fun _ wr=>s.size - wr.iterPos w)
 case atStart=>exact ⟨0,Ab _,rfl,rfl⟩
 case round =>
  obtain ⟨pos,hle,rfl,rfl⟩:=hrel;have hrl:=uX (s.data.toList.take pos);rw [Af] at hrl;by_cases hp:pos<s.size
  ·have hb:=bD s pos hp;obtain ⟨k1,k2,k3,_⟩:=qT s.data.toList pos (by rw [HN.out];exact hp);rw [HN.out] at k2;rw [hb] at k3;have aa:=fun ty=>Ao (P:=prog) w s pos ty hp;rw [mQ s pos hp] at aa;obtain ⟨x,hx⟩:∃ x,oo (s.data.toList.take pos)=x:=⟨_,rfl⟩;obtain ⟨d,hd⟩:∃ d,vn s.data.toList pos=d:=⟨_,rfl⟩;rw [hx] at k3 hrl ⊢;rw [hd] at k1 k2 k3 aa;have ab:x<9223372036854775807:=lg;clear hb hx hd hrl;by_cases g:128≤s[pos].toNat∧s[pos].toNat≤191
   ·rw [if_pos g] at k3;have K3:=zk k3;clear k3;obtain ⟨g1,g2⟩:=g;go_wp2_with (go_at_call 135;refine (kV _ g1 g2 _).mono ?_;rintro e w' ⟨rfl,rfl⟩);go_roundw
    case rel=>exact ⟨pos+d,k2,rfl,by rw [K3.out];rfl⟩
    case measure=>simp;omega
   ·rw [if_neg g] at k3;have K3:=zk k3;clear k3;have G:=zk g;clear g;go_wp2_with (go_at_call 135;refine (lZ _ G.out _).mono ?_;rintro e w' ⟨rfl,rfl⟩);go_roundw
    case rel=>exact ⟨pos+d,k2,rfl,by rw [K3.out];go_num⟩
    case measure=>simp;omega
  ·have aa:=fun ty=>Ap (P:=prog) w s pos ty hp;have hend:s.data.toList.take pos=s.data.toList:=zz (by rw [HN.out];omega);rw [hend];clear hend hrl;go_wp2;go_ret;exact ⟨rfl,(zt _ _).alloc (zq _) _⟩
set_option maxHeartbeats 400000 in
theorem LP (s:ByteArray) (hs:s.size≤zy) (w:zr) :
 zv prog 210 #[zw s] w fun e w'=>e=zx (zn zm (op s.data.toList))∧zo w w w':=by
 have hlen:s.data.toList.length=s.size:=li;have HN:=zk hlen;clear hlen;unfold zy at hs;go_enter func210,ntmps210;go_wp2
 go_loopw [3] (fun n wr=>∃ pos:Nat,pos≤s.size∧wr=w.iter s pos∧n=zn zm (op (s.data.toList.take pos))) (fun _ wr=>s.size - wr.iterPos w)
 case atStart=>exact ⟨0,Ab _,rfl,rfl⟩
 case round =>
  obtain ⟨pos,hle,rfl,rfl⟩:=hrel;have hrl:=xF (s.data.toList.take pos);rw [Af] at hrl;by_cases hp:pos<s.size
  ·obtain ⟨k1,k2,_,k3⟩:=qT s.data.toList pos (by rw [HN.out];exact hp);rw [HN.out] at k2;have ht:=EE s pos hp;have aa:=fun ty=>Ao (P:=prog) w s pos ty hp;rw [mQ s pos hp] at aa;obtain ⟨x,hx⟩:∃ x,op (s.data.toList.take pos)=x:=⟨_,rfl⟩;obtain ⟨d,hd⟩:∃ d,vn s.data.toList pos=d:=⟨_,rfl⟩;obtain ⟨c,hc⟩:∃ c,(Utf8.decode s pos).1=c:=⟨_,rfl⟩;rw [hx] at k3 hrl ⊢;rw [hd] at k1 k2 k3 aa;rw [hc] at aa ht;have ab:x<9223372036854775807:=lg;clear hx hd hrl hc;by_cases g:bt s.data.toList pos=10
   ·rw [if_pos g] at k3;have K3:=zk k3;clear k3;have hq:((c:Int) == 10)=true:=by simp;have:=ht.2 g;omega
    clear ht g;go_wp2;go_roundw
    case rel=>exact ⟨pos+d,k2,rfl,by rw [K3.out];go_num⟩
    case measure=>simp;omega
   ·rw [if_neg g] at k3;have K3:=zk k3;clear k3;have hq:((c:Int) == 10)=false:=by
     have:c≠10:=fun e=>g (ht.1 e);simp;omega
    clear ht g;go_wp2;go_roundw
    case rel=>exact ⟨pos+d,k2,rfl,by rw [K3.out];rfl⟩
    case measure=>simp;omega
  ·have aa:=fun ty=>Ap (P:=prog) w s pos ty hp;have hend:s.data.toList.take pos=s.data.toList:=zz (by rw [HN.out];omega);rw [hend];clear hend hrl;go_wp2;go_ret;exact ⟨rfl,(zt _ _).alloc (zq _) _⟩
abbrev cntV (b r l:Int):Value:=.agg #[zn zm b,zn zm r,zn zm l]
theorem bcell {W w1:zr} (hb:zo W W w1):(∀ b o,b<W.heap.size→w1 ⟨b,o,none⟩=W ⟨b,o,none⟩)∧(∀ b o,b<W.heap.size→w1.frozen? ⟨b,o,none⟩=W.frozen? ⟨b,o,none⟩):=
 ⟨fun b o h=>hb.cell (p:=⟨b,o,none⟩) h,fun b o h=>hb.frozen (p:=⟨b,o,none⟩) h⟩
theorem gR {w w2:zr} {o:Obj} (hb:zo (w.alloc o) (w.alloc o) w2) (u0 u1 u2:Value) :
 zo w w (((w2.setCell ⟨w,0,none⟩ u0).setCell ⟨w,1,none⟩ u1).setCell ⟨w,2,none⟩ u2):=
 ((((((zt _ _).alloc (zq _) _).trans (hb.mono li)).setCell (p:=⟨w,0,none⟩) (zq _) _).setCell (p:=⟨w,1,none⟩) (zq _) _)).setCell (p:=⟨w,2,none⟩) (zq _) _
set_option maxHeartbeats 400000 in
theorem SI (s:ByteArray) (hs:s.size≤zy) (w:zr) :
 zv prog 194 #[zw s] w fun e w'=>e=zx (cntV s.size (oo s.data.toList) (op s.data.toList))∧zo w w w':=by
 have c1:=IA s hs;have c2:=LP s hs;obtain ⟨x,hx⟩:∃ x,oo s.data.toList=x:=⟨_,rfl⟩;obtain ⟨y,hy⟩:∃ y,op s.data.toList=y:=⟨_,rfl⟩;rw [hx] at c1 ⊢;rw [hy] at c2 ⊢;have C1:=zk c1;have C2:=zk c2;clear c1 c2 hx hy;unfold zy at hs;go_enter func194,ntmps194;go_wp2_with fail;refine (C1.out _).mono ?_;rintro e w1 ⟨rfl,ab⟩;go_wp2_with fail;refine (mw ab (C2.out _)).mono ?_;rintro e w2 ⟨rfl,aa⟩;obtain ⟨hc,hf⟩:=bcell aa;go_wp2;refine bodyPost_ret (v:=cntV s.size x y) (by simp [results,results194,hc,go_sem]) rfl ⟨rfl,?_⟩;exact gR aa _ _ _
def wj (n:Int):Bool:=decide (0≤n) && decide (n≤4096)
theorem BJ {n:Int} (h:0≤n) (k:n≤4096):wj n=true:=by unfold wj;simp;omega
theorem pT {n:Int} (h:n<0∨4096<n):wj n=false:=by unfold wj;simp;omega
def vm (c:UInt8):Bool:=decide (97≤c.toNat) && decide (c.toNat≤122)
def mv (l:List UInt8):Bool:=(decide (1≤l.length) && decide (l.length≤8)) && l.all vm
theorem AG {l:List UInt8} (h:l.length<1):mv l=false:=by unfold mv;rw [decide_eq_false lg];rfl
theorem EZ {l:List UInt8} (h:8<l.length):mv l=false:=by unfold mv;rw [decide_eq_false (by omega:¬ l.length≤8),Ar];rfl
theorem uR {l:List UInt8} (h:k<l.length):(l.take (k+1)).all vm=((l.take k).all vm && vm (l[k]'h)):=by
 rw [List.take_succ_eq_append_getElem h,List.all_append];simp
theorem RK {l:List UInt8} (h:k<l.length) (g:vm (l[k]'h)=false):l.all vm=false:=by
 rw [List.all_eq_false];exact ⟨l[k],List.getElem_mem h,by simp [g]⟩
theorem BK (h:k<s.size):vm (s.data.toList[k]'(by simpa using h))=(decide (97≤s[k].toNat) && decide (s[k].toNat≤122)):=rfl
theorem pJ (h:k<s.size) (hall:(s.data.toList.take k).all vm=true) (h1:97≤s[k].toNat) (h2:s[k].toNat≤122):(s.data.toList.take (k+1)).all vm=true:=by
 rw [uR (by simpa using h),hall,BK h,decide_eq_true h1,decide_eq_true h2];rfl
theorem gW (h:k<s.size) (g:s[k].toNat<97∨122<s[k].toNat):mv s.data.toList=false:=by
 have e:s.data.toList.all vm=false:=RK (k:=k) (by simpa using h) (by
  rw [BK h];rcases g with g|g
  ·rw [decide_eq_false lg];rfl
  ·rw [decide_eq_false (by omega:¬ s[k].toNat≤122),Ar])
 unfold mv;rw [e,Ar]
theorem rR (h:(s.data.toList.take s.size).all vm=true):mv s.data.toList=(decide (1≤s.size) && decide (s.size≤8)):=by
 have e:s.data.toList.length=s.size:=li;rw [zz lg] at h;unfold mv;rw [h,Bool.and_true,e]
def nh (k a n:Int) (l:List UInt8):Bool:=
 if k=1 then (wj a && decide (n=0)) && (decide (l.length≤512) && nx l)
 else if k=2 then (wj a && wj n) && decide (l.length=0)
 else if k=3 then (wj a && decide (n=0)) && mv l
 else if k=4 then (decide (a=0) && decide (n=0)) && mv l
 else if 5≤k∧k≤8 then (decide (a=0) && decide (n=0)) && decide (l.length=0)
 else false
theorem right1 (a n:Int) (l:List UInt8):nh 1 a n l=((wj a && decide (n=0)) && (decide (l.length≤512) && nx l)):=rfl
theorem yk (a n:Int) (l:List UInt8):nh 2 a n l=((wj a && wj n) && decide (l.length=0)):=rfl
theorem right3 (a n:Int) (l:List UInt8):nh 3 a n l=((wj a && decide (n=0)) && mv l):=rfl
theorem right4 (a n:Int) (l:List UInt8):nh 4 a n l=((decide (a=0) && decide (n=0)) && mv l):=rfl
theorem yj {k:Int} (h:5≤k) (g:k≤8) (a n:Int) (l:List UInt8):nh k a n l=((decide (a=0) && decide (n=0)) && decide (l.length=0)):=by
 unfold nh;rw [if_neg lg,if_neg lg,if_neg lg,if_neg lg,if_pos ⟨h,g⟩]
theorem iW {k:Int} (h:k<1∨8<k) (a n:Int) (l:List UInt8):nh k a n l=false:=by
 unfold nh;rw [if_neg lg,if_neg lg,if_neg lg,if_neg lg,if_neg lg]
theorem xi (k:Int):k=1∨k=2∨k=3∨k=4∨(5≤k∧k≤8)∨(k<1∨8<k):=lg
structure ni where
 k:Int
 a:Int
 n:Int
 s:ByteArray
 e:Int
def ni.none (e:Int):ni:=⟨0,0,0,⟨#[]⟩,e⟩
def qc (k a n:Int) (s:ByteArray):ni:=if nh k a n s.data.toList=true then ⟨k,a,n,s,0⟩ else ni.none 5
def pu (s:ByteArray):Int:=(tp s.data.toList 0 4:Nat)
def my (s:ByteArray):ByteArray:=s.extract 4 s.size
def xj (k:Int) (s:ByteArray):ni:=
 if k<1∨8<k then ni.none 5
 else if k=1∨k=3 then (if s.size<4 then ni.none 18 else qc k (pu s) 0 (my s))
 else if k=2 then (if s.size<8 then ni.none 18 else qc k (pu s) (pu (my s)) (my (my s)))
 else qc k 0 0 s
def su (s:ByteArray):ni:=if h:0<s.size then xj ((s[0]'h).toNat:Nat) (s.extract 1 s.size) else ni.none 18
def oq (t:ByteArray) (p:Int) (o n:ByteArray):ByteArray×Int:=
 if p<0∨(t.size:Int)<p then (⟨#[]⟩,3)
 else if ¬ t.extract p.toNat (p.toNat+o.size)=o then (⟨#[]⟩,8)
 else if (me t.data.toList p.toNat && me t.data.toList (p.toNat+o.size:Nat))=false then (⟨#[]⟩,4)
 else if (nx o.data.toList && nx n.data.toList)=false then (⟨#[]⟩,5)
 else if 4096+o.size<t.size+n.size then (⟨#[]⟩,6)
 else (t.extract 0 p.toNat++n++t.extract (p.toNat+o.size) t.size,0)
def mu (p:Int) (o n:Nat) (a:Int):Int:=if a≤p then a else if p+o≤a then a - o+n else p
theorem kY (h:p<0∨(t.size:Int)<p):oq t p o n=(⟨#[]⟩,3):=by unfold oq;rw [if_pos h]
theorem lX (hk:k≤t.size) (h:¬ t.extract k (k+o.size)=o):oq t k o n=(⟨#[]⟩,8):=by
 unfold oq;rw [if_neg lg,if_pos (by simpa using h)]
theorem eA (hk:k≤t.size) (h:t.extract k (k+o.size)=o) (he:me t.data.toList k=false∨me t.data.toList (k+o.size:Nat)=false):oq t k o n=(⟨#[]⟩,4):=by
 unfold oq;rw [if_neg lg,if_neg (by simpa using h),if_pos];simp only [Aj,A0];exact he
theorem eJ (hk:k≤t.size) (h:t.extract k (k+o.size)=o) (h1:me t.data.toList k=true) (h2:me t.data.toList (k+o.size:Nat)=true)
 (hv:nx o.data.toList=false∨nx n.data.toList=false):oq t k o n=(⟨#[]⟩,5):=by
 unfold oq;rw [if_neg lg,if_neg (by simpa using h),if_neg (by simp only [Aj];rw [h1,h2];decide),if_pos];simp only [A0];exact hv
theorem mU (hk:k≤t.size) (h:t.extract k (k+o.size)=o) (h1:me t.data.toList k=true) (h2:me t.data.toList (k+o.size:Nat)=true)
 (v1:nx o.data.toList=true) (v2:nx n.data.toList=true) (hl:4096+o.size<t.size+n.size):oq t k o n=(⟨#[]⟩,6):=by
 unfold oq;rw [if_neg lg,if_neg (by simpa using h),if_neg (by simp only [Aj];rw [h1,h2];decide),if_neg (by rw [v1,v2];decide),if_pos hl]
theorem gZ (hk:k≤t.size) (h:t.extract k (k+o.size)=o) (h1:me t.data.toList k=true) (h2:me t.data.toList (k+o.size:Nat)=true)
 (v1:nx o.data.toList=true) (v2:nx n.data.toList=true) (hl:¬ 4096+o.size<t.size+n.size):oq t k o n=(t.extract 0 k++n++t.extract (k+o.size) t.size,0):=by
 unfold oq;rw [if_neg lg,if_neg (by simpa using h),if_neg (by simp only [Aj];rw [h1,h2];decide),if_neg (by rw [v1,v2];decide),if_neg hl];simp
theorem gA (hk:k≤t.size) (h:t.extract k (k+o.size)=o):k+o.size≤t.size:=by
 have:=congrArg A9 h;rw [A3] at this;omega
theorem bT (l:List UInt8) (k:Nat):me l k=true↔o6 l k:=by unfold me;simp
theorem nA (h:oq t p o n=(s,0)) :
 ∃ k:Nat,p=k∧k≤t.size∧t.extract k (k+o.size)=o∧me t.data.toList k=true∧me t.data.toList (k+o.size:Nat)=true∧nx o.data.toList=true∧nx n.data.toList=true∧¬ 4096+o.size<t.size+n.size∧s=t.extract 0 k++n++t.extract (k+o.size) t.size:=by
 by_cases hp:p<0∨(t.size:Int)<p
 ·rw [kY hp] at h;cases h
 obtain ⟨k,rfl⟩:=A4 (show 0≤p by omega);have hk:k≤t.size:=lg;refine ⟨k,rfl,hk,?_⟩;by_cases ho:t.extract k (k+o.size)=o
 case neg=>rw [lX hk ho] at h;cases h
 cases h1:me t.data.toList k
 ·rw [eA hk ho (.inl h1)] at h;cases h
 cases h2:me t.data.toList (k+o.size:Nat)
 ·rw [eA hk ho (.inr h2)] at h;cases h
 cases v1:nx o.data.toList
 ·rw [eJ hk ho h1 h2 (.inl v1)] at h;cases h
 cases v2:nx n.data.toList
 ·rw [eJ hk ho h1 h2 (.inr v2)] at h;cases h
 by_cases hl:4096+o.size<t.size+n.size
 ·rw [mU hk ho h1 h2 v1 v2 hl] at h;cases h
 rw [gZ hk ho h1 h2 v1 v2 hl] at h;refine ⟨ho,rfl,rfl,rfl,rfl,hl,?_⟩;have:=congrArg Prod.fst h;exact this.symm
theorem QK (hk:k≤t.size) (h:t.extract k (k+o.size)=o):t.extract 0 k++o++t.extract (k+o.size) t.size=t:=by
 have hle:=gA hk h;have e:t.extract 0 k++o=t.extract 0 (k+o.size):=by
  apply aW;have ho:=congrArg (fun x=>x.data.toList) h;simp only [aH,Ae,Ad,aI] at ho ⊢
  conv=>lhs;rw [← ho]
  rw [show k+o.size - k=o.size by omega,← Ak k (t.data.toList.take (k+o.size))]
  congr 1
  ·rw [List.take_take,Nat.min_eq_left lg]
  ·rw [List.drop_take,show k+o.size - k=o.size by omega]
 rw [e];apply aW;simp only [aH,Ae,Ad,aI];have hlen:t.data.toList.length=t.size:=li;rw [zz (l:=t.data.toList.drop _) (by rw [Am];omega),Ak]
theorem GN {a b c:List UInt8} (hk:k≤a.length) (h:o6 (a++b) k) (hc:uu c):o6 (a++c) k:=by
 rcases Ai k a.length with hlt|hge
 ·unfold o6 at h ⊢;rcases h with h|h|⟨h,h1⟩
  ·exact .inl h
  ·exfalso;rw [zp] at h;omega
  ·refine .inr (.inr ⟨by rw [zp];omega,?_⟩);rw [bF _ _ _ hlt] at h1 ⊢;exact h1
 ·obtain rfl:k=a.length:=lg;rcases hc with rfl|hc
  ·exact .inr (.inl li)
  ·by_cases hz:c=[]
   ·subst hz;exact .inr (.inl li)
   ·refine .inr (.inr ⟨by rw [zp];have:=cK hz;omega,?_⟩);rw [dJ _ _ _ (zq _),A5];exact hc
theorem BD {a b c:List UInt8} (h:o6 (a++b) (a.length+k)) (hb:uu b) (hz:k≤b.length):o6 (c++b) (c.length+k):=by
 rcases Ai k b.length with hlt|hge
 ·refine .inr (.inr ⟨by rw [zp];omega,?_⟩);rw [dJ _ _ _ lg,show c.length+k - c.length=k by omega];rcases h with h|h|⟨_,h⟩
  ·obtain rfl:k=0:=lg;rcases hb with rfl|hb
   ·simp at hlt
   ·exact hb
  ·rw [zp] at h;omega
  ·rw [dJ _ _ _ lg,show a.length+k - a.length=k by omega] at h;exact h
 ·exact .inr (.inl (by rw [zp];omega))
structure wt (t o n s:ByteArray) (k:Nat) (A B:List UInt8):Prop where
 t:t.data.toList=A++(o.data.toList++B)
 s:s.data.toList=A++(n.data.toList++B)
 len:A.length=k
 vA:rm A
 vO:rm o.data.toList
 vN:rm n.data.toList
 vB:rm B
theorem cF (s:ByteArray):s.data.toList.length=s.size:=li
theorem cut3 (hv:rm t.data.toList) (h:oq t p o n=(s,0)):∃ (k:Nat) (A B:List UInt8),p=k∧wt t o n s k A B:=by
 obtain ⟨k,rfl,hk,ho,e1,e2,v1,v2,hl,hs⟩:=nA h;have h3:=QK hk ho;have hle:=gA hk ho;refine ⟨k,(t.extract 0 k).data.toList,(t.extract (k+o.size) t.size).data.toList,rfl,?_,?_,?_,?_,(bI _).1 v1,(bI _).1 v2,?_⟩
 ·have:=congrArg (fun x=>x.data.toList) h3;simp only [aI,Aa] at this;exact this.symm
 ·rw [hs,aI,aI,Aa]
 ·rw [cF,A3];omega
 ·rw [aH,Ad,Ae];exact (iJ _ k hv ((bT _ _).1 e1)).1
 ·rw [aH,zz (by rw [Am,cF];omega)];exact (iJ _ _ hv ((bT _ _).1 e2)).2
theorem wt.turn {A B:List UInt8} (h:wt t o n s k A B):wt s n o t k A B:=⟨h.s,h.t,h.len,h.vA,h.vN,h.vO,h.vB⟩
theorem wt.valid {A B:List UInt8} (h:wt t o n s k A B):nx s.data.toList=true:=by
 rw [bI,h.s];exact fD _ _ h.vA (fD _ _ h.vN h.vB)
theorem wt.size {A B:List UInt8} (h:wt t o n s k A B):t.size=k+o.size+B.length:=by
 have:=congrArg Ay h.t;rw [cF,zp,zp,cF,h.len] at this;omega
theorem gD {t:List UInt8} {A B:List UInt8} (h:t=A++B) (hA:A.length=k) (hc:uu B):o6 t k:=by
 subst h hA;rcases hc with rfl|hc
 ·exact .inr (.inl li)
 ·by_cases hz:B=[]
  ·subst hz;exact .inr (.inl li)
  ·refine .inr (.inr ⟨by rw [zp];have:=cK hz;omega,?_⟩);rw [dJ _ _ _ (zq _),A5];exact hc
theorem wt.app {A B:List UInt8} (h:wt t o n s k A B) (hl:s.size≤4096):oq t k o n=(s,0):=by
 have ht:=h.size;have hs:=h.turn.size;have c1:uu (o.data.toList++B):=eM _ (fD _ _ h.vO h.vB);have c2:uu B:=eM _ h.vB;have ho:t.extract k (k+o.size)=o:=by
  apply aW;rw [aH,h.t,A6 h.len,show k+o.size - k=o.size by omega,A7 (cF o)]
 rw [gZ lg ho ?_ ?_ ((bI _).2 h.vO) ((bI _).2 h.vN) lg]
 ·congr 1
  apply aW;rw [aI,aI,aH,aH,h.s,Ad,Ae,h.t,A7 h.len,Aa]
  congr 2
  rw [← Aa,A6 (by rw [zp,h.len,cF]),zz lg]
 ·rw [bT,h.t];exact gD rfl h.len c1
 ·rw [bT];exact gD (A:=A++o.data.toList) (by rw [h.t,Aa]) (by rw [zp,h.len,cF]) c2
theorem pC (hv:nx t.data.toList=true) (ht:t.size≤4096) (h:oq t p o n=(s,0)):oq s p n o=(t,0)∧nx s.data.toList=true:=by
 obtain ⟨k,A,B,rfl,hc⟩:=cut3 ((bI _).1 hv) h;exact ⟨hc.turn.app ht,hc.valid⟩
theorem EY {a:Int} (hv:nx t.data.toList=true) (h:oq t p o n=(s,0)) (ha:me t.data.toList a=true):me s.data.toList (mu p o.size n.size a)=true:=by
 obtain ⟨k,A,B,rfl,hc⟩:=cut3 ((bI _).1 hv) h;have aa:0≤a:=by unfold me at ha;simp at ha;exact ha.1
 obtain ⟨j,rfl⟩:=A4 aa;rw [bT] at ha;have cN:uu (n.data.toList++B):=eM _ (fD _ _ hc.vN hc.vB);have cB:uu B:=eM _ hc.vB;have ht:=hc.size;have hj:j≤t.size:=by rcases ha with h|h|h <;> rw [← cF] <;> omega
 by_cases h1:j≤k
 ·rw [show mu k o.size n.size j=j by unfold mu;rw [if_pos lg],bT,hc.s];rw [hc.t] at ha;exact GN (by rw [hc.len];exact h1) ha cN
 by_cases h2:k+o.size≤j
 ·rw [show mu k o.size n.size j=((k+n.size+(j - (k+o.size)):Nat):Int) by unfold mu;rw [if_neg lg,if_pos lg];omega,bT,hc.s,← Aa];have e1:(A++o.data.toList).length=k+o.size:=by rw [zp,hc.len,cF]
  have e2:(A++n.data.toList).length=k+n.size:=by rw [zp,hc.len,cF]
  rw [← e2];refine BD (a:=A++o.data.toList) ?_ cB lg;rw [e1,Aa,← hc.t,show k+o.size+(j - (k+o.size))=j by omega];exact ha
 ·rw [show mu k o.size n.size j=(k:Int) by unfold mu;rw [if_neg lg,if_neg lg],bT];exact gD hc.s hc.len cN
end Go.Proofs.YtbagenpobcgjnaaGreat
