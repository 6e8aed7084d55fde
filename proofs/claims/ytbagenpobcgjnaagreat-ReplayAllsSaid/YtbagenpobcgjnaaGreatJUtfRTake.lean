/-
  Joined: UtfRTake, LawTakes, UtfBad, ChunkMath, UtfCount, TallyOf, OpMath, EditMath, EditBack.
-/
import Derived.Test.YtbagenpobcgjnaaGreatJUtfLeaf
import Derived.Deep.RegionHeld3
import Derived.Deep.QuietTactic
import Derived.BigQuiet
open Bool renaming and_eq_false_iff->Al,and_eq_true->Ad,and_false->Af
open ByteArray renaming ext->Ar,size->Au,size_extract->Am
open Go renaming Calls->zh,World->ze,maxLen->zk,run_next_any->Aa,run_next_end->Ab,strOfNums->zg
open Go.Ending renaming returned->zj
open Go.IntKind renaming i32->Ah,i64->yw
open Go.Lib renaming hid->yv
open Go.RowKit renaming Below->yy,intOf->zt
open Go.RowKit.Below renaming mono->Aj,refl->zf
open Go.Value renaming int->yx,string->zi
open Int renaming eq_ofNat_of_zero_le->An,toNat_natCast->zv
open List renaming append_assoc->zn,drop_left'->Ap,drop_zero->zp,getD_cons_succ->zz,getD_cons_zero->zx,length->Ak,length_append->yz,length_drop->zy,length_take->zr,take_append_drop->zw,take_left'->Aq,take_of_length_le->zm
open Nat renaming le_refl->zd,lt_or_ge->zu,sub_self->Ao,sub_zero->zq,zero_le->zo
open Prod.mk renaming injEq->zs
variable {n o s t:ByteArray} {p:Int} {L:List ByteArray} {k:Nat}
namespace Go.Proofs.YtbagenpobcgjnaaGreat
open Go.Proofs.Tryz
set_option maxRecDepth 100000
open Lib (hid)
open Go.RowKit
def wy (l:List UInt8) (n:Nat):Prop:=0≤sg (l.take n)∧(rx (sg (l.take n))).data.toList=l.take n
theorem GJ (c:Int):(rx c).data.toList.length=(rx c).size:=lh
theorem ER (l:List UInt8) (n:Nat) (h1:1≤n) (hn:n≤l.length) (h:wy l n):pz l=((sg (l.take n)).toNat,n):=by
 obtain ⟨h0,he⟩:=h;have hlen:(l.take n).length=n:=by rw [zr];omega
 have hs:sz (sg (l.take n))≠0:=by
  intro hz;have e:rx (sg (l.take n))=⟨#[]⟩:=by unfold rx;rw [if_pos hz]
  rw [e] at he;rw [← he] at hlen;simp at hlen;omega
 obtain ⟨_,ht,hsz⟩:=EX _ hs;rw [he] at ht;have hn':sz (sg (l.take n))=n:=by rw [← hsz,← GJ,he,hlen]
 rw [hn'] at ht;have:=AJ (l.take n) (l.drop n) (by rw [ht];show n≠0;omega);rw [zw] at this;rw [this,ht]
theorem BX (l:List UInt8) (c n:Nat) (h:pz l=(c,n)) (hn:n≠0):wy l n:=by
 have hne:l≠[]:=fun e=>by subst e;simp [pz] at h;exact hn h.2.symm
 have hle:=dR l;rw [h] at hle;simp only at hle;have hlen:(l.take n).length=n:=by rw [zr];omega
 have b:∀ i,i<n→bt (l.take n) i=bt l i:=fun i hi=>OP l n i hi;unfold pz at h;rw [if_neg hne] at h;have m0:=mX l 0;have m1:=mX l 1;have m2:=mX l 2;have m3:=mX l 3
 suffices hN:sg (l.take n)=c∧(rx (c:Int)).data.toList=l.take n by
  unfold wy;rw [hN.1];exact ⟨lf,hN.2⟩
 rcases eR (bt l 0) (bt l 1) (bt l 2) (bt l 3) with ⟨g1,e⟩|⟨g1,g2,g3,g4,e⟩|⟨g1,g2,g3,g4,g5,g6,g7,g8,e⟩|⟨g1,g2,g3,g4,g5,g6,g7,g8,g9,g10,e⟩|⟨_,_,_,_,e⟩
 all_goals rw [e] at h;simp only [zs] at h;obtain ⟨hc,rfl⟩:=h
 ·refine ⟨by unfold sg;rw [if_pos hlen,b 0 lf,hc],?_⟩;rw [wN c lf lf];refine pY _ _ (by rw [hlen];simp [zg]) fun i hi=>?_;have hi':i<1:=by simpa [zg] using hi
  obtain rfl:i=0:=lf;rw [bD _ 0 lh,b 0 lf];simp only [zx];omega
 ·refine ⟨by unfold sg;rw [hlen,if_neg lf,b 0 lf,show td 2=192 from rfl,if_neg lf];simp only [s9];rw [b (0+1+0) lf];simp only [Nat.reduceAdd];omega,?_⟩;rw [vK c lf lf];refine pY _ _ (by rw [hlen];simp [zg]) fun i hi=>?_;have hi':i<2:=by simpa [zg] using hi
  obtain rfl|rfl:i=0∨i=1:=lf
  all_goals rw [bD _ _ lh,b _ lf];simp only [zx,zz];omega
 ·refine ⟨by unfold sg;rw [hlen,if_neg lf,b 0 lf,show td 3=224 from rfl,if_neg lf];simp only [s9];rw [b (0+1+0) lf,b (0+1+1) lf];simp only [Nat.reduceAdd];omega,?_⟩;rw [uN c lf lf lf];refine pY _ _ (by rw [hlen];simp [zg]) fun i hi=>?_;have hi':i<3:=by simpa [zg] using hi
  obtain rfl|rfl|rfl:i=0∨i=1∨i=2:=lf
  all_goals rw [bD _ _ lh,b _ lf];simp only [zx,zz];omega
 ·refine ⟨by unfold sg;rw [hlen,if_neg lf,b 0 lf,show td 4=240 from rfl,if_neg lf];simp only [s9];rw [b (0+1+0) lf,b (0+1+1) lf,b (0+1+2) lf];simp only [Nat.reduceAdd];omega,?_⟩;rw [uZ c lf lf];refine pY _ _ (by rw [hlen];simp [zg]) fun i hi=>?_;have hi':i<4:=by simpa [zg] using hi
  obtain rfl|rfl|rfl|rfl:i=0∨i=1∨i=2∨i=3:=lf
  all_goals rw [bD _ _ lh,b _ lf];simp only [zx,zz];omega
 ·exact absurd rfl hn
theorem rD (l:List UInt8) (h:∀ n,1≤n→n≤4→n≤l.length→¬ wy l n):pz l=(0,0):=by
 obtain ⟨c,n,e⟩:∃ c n,pz l=(c,n):=⟨_,_,rfl⟩;by_cases hn:n=0
 ·by_cases hl:l=[]
  ·subst hl;rfl
  have e':=e;unfold pz at e';rw [if_neg hl] at e';rcases eR (bt l 0) (bt l 1) (bt l 2) (bt l 3) with ⟨g1,g⟩|⟨g1,g2,g3,g4,g⟩|⟨g1,g2,g3,g4,g5,g6,g7,g8,g⟩|⟨g1,g2,g3,g4,g5,g6,g7,g8,g9,g10,g⟩|⟨_,_,_,_,g⟩
  all_goals rw [g] at e';simp only [zs] at e'
  all_goals first|omega|skip
  rw [e];simp [← e'.1,← e'.2]
 ·have h1:=dR l;rw [e] at h1;have h4:n≤4:=by
   have:=pK (bt l 0) (bt l 1) (bt l 2) (bt l 3);unfold pz at e;split at e
   ·simp at e;omega
   ·rw [e] at this;exact this
  exact absurd (BX l c n e hn) (h n lf h4 h1)
theorem OX (l:List UInt8) (h4:l.length≤4):-1≤sg l∧sg l<2147483647:=by
 have hb:=mX l 0;unfold sg;split
 ·omega
 split
 ·omega
 ·have:=pH l (bt l 0 - td l.length) lf (l.length - 1) lf;omega
def NoFit (l:List UInt8) (j:Nat):Prop:=∀ n,1≤n→n<j→n≤l.length→¬ wy l n
theorem pG {l:List UInt8} {j:Nat} (h:NoFit l j) (g:¬ wy l j):NoFit l (j+1):=fun n h1 h2 h3=>by
 by_cases e:n=j
 ·subst e;exact g
 ·exact h n h1 lf h3
set_option maxHeartbeats 1000000 in
theorem NJ (s:ByteArray) (hs:s.size≤140737488355328) (k:Nat) (hk:k<s.size) (w:ze) (r m:Nat) (hR0:pz (s.data.toList.drop k)=(r,m)) :
 zh prog 98 #[zi s,yx yw k] w fun e w'=>e=zj (.tuple #[yx .i32 r,yx yw m])∧yy w w w':=by
 have HR:=yv hR0;clear hR0;have hlen:(s.data.toList.drop k).length=s.size - k:=lh;have HN:=yv hlen;clear hlen;have ag:decide (s.size≤k)=false:=lq;have ah:decide ((k:Int)<0)=false:=lh;go_enter func98,ntmps98;go_wp2
 go_loopw [6] (fun i wr=>∃ j:Nat,1≤j∧j≤5∧i=yx yw j∧yy w w wr∧NoFit (s.data.toList.drop k) j) (fun i _=>5 - (zt i).toNat)
 case atStart=>exact ⟨1,lf,lf,rfl,zf _ _,fun n h1 h2=>lf⟩
 case round =>
  obtain ⟨j,ad,ai,rfl,hbel,hno⟩:=hrel;have HB:=yv hbel;clear hbel;by_cases hlt:j≤4∧k+j≤s.size
  ·obtain ⟨h4,hkj⟩:=hlt;have hts:(s.extract k (k+j)).size=j:=lq;have htl:(s.extract k (k+j)).data.toList=(s.data.toList.drop k).take j:=by rw [aE,Nat.add_sub_cancel_left]
   have hnum:=AN (s.extract k (k+j)) lf lf;have hle:=OX (s.extract k (k+j)).data.toList (by rw [htl,zr];omega);obtain ⟨c,hc⟩:∃ c,sg (s.extract k (k+j)).data.toList=c:=⟨_,rfl⟩;rw [hc] at hnum hle;obtain ⟨aj,ak⟩:=hle;have aa:=yv hnum;clear hnum;have HC:=yv hc;clear hc;have HT:=yv htl;clear htl;have al:=yv hts;clear hts;have ae:(k:Int)≤(k:Int)+(j:Int):=lf;have af:(k:Int)+(j:Int)≤(s.size:Int):=lf;have am:(0:Int)≤(k:Int):=lf;by_cases hneg:0≤c
   ·by_cases heq:rx c=s.extract k (k+j)
    ·have hput:=uJ c lf lf;rw [heq] at hput;have hfit:pz (s.data.toList.drop k)=(c.toNat,j):=by
      have hf:=ER (s.data.toList.drop k) j ad (by rw [HN.out];omega) (by
       unfold wy;rw [← HT.out,HC.out,heq];exact ⟨hneg,rfl⟩)
      rw [← HT.out,HC.out] at hf;exact hf
     rw [HR.out] at hfit;simp only [zs] at hfit;clear heq;have HF:=yv hfit;clear hfit;have ab:=yv hput;clear hput;go_wp2_with (go_at_call 126;refine (aa.out _).mono ?_;rintro e w' ⟨rfl,rfl⟩);have z1:yw.wrap ((k:Int)+(j:Int))=(k:Int)+(j:Int):=IntWalk.i64_in _ lf;have z2:Ah.wrap c=c:=IntWalk.i32_in _ lf;have z3:((k:Int)+(j:Int)).toNat=k+j:=lf;have z4:(0:Int)≤(k:Int)+(j:Int):=lf
     go_region_held3 (fun _=>True) (trivial) (first|(go_at_call 127;refine (ab.out _).mono ?_;rintro e w1 ⟨rfl,ac⟩))
     go_wp2;go_ret2;refine ⟨gG ?_ ?_,HB.out.trans ((zf _ _).drew.trans (ac.mono ?_))⟩
     ·have:=HF.out;omega
     ·have:=HF.out;omega
     ·exact HB.out.size
    ·have hput:=uJ c lf lf;obtain ⟨q,hq⟩:∃ q,rx c=q:=⟨_,rfl⟩;rw [hq] at hput heq;have hnf:¬ wy (s.data.toList.drop k) j:=by
      rintro ⟨_,hf⟩;rw [← HT.out,HC.out,hq] at hf;exact heq (Ar (Array.toList_inj.1 hf))
     have hne:=dG heq;clear hq heq;have HX:=yv hnf;clear hnf;have ab:=yv hput;clear hput;go_wp2_with (go_at_call 126;refine (aa.out _).mono ?_;rintro e w' ⟨rfl,rfl⟩);have z1:yw.wrap ((k:Int)+(j:Int))=(k:Int)+(j:Int):=IntWalk.i64_in _ lf;have z2:Ah.wrap c=c:=IntWalk.i32_in _ lf;have z3:((k:Int)+(j:Int)).toNat=k+j:=lf;have z4:(0:Int)≤(k:Int)+(j:Int):=lf
     go_region_held3 (fun _=>True) (trivial) (first|(go_at_call 127;refine (ab.out _).mono ?_;rintro e w1 ⟨rfl,ac⟩))
     clear z1 z2 z3 z4;go_wp2;go_roundw
     case rel=>exact ⟨j+1,lf,lf,by go_num,HB.out.trans ((zf _ _).drew.trans (ac.mono HB.out.size)),pG hno HX.out⟩
     case measure=>simp [zt];omega
   ·have hnf:¬ wy (s.data.toList.drop k) j:=by
     rintro ⟨hf,_⟩;rw [← HT.out,HC.out] at hf;exact hneg hf
    have HX:=yv hnf;clear hnf;have hd:decide (0≤c)=false:=lq;go_wp2_with (go_at_call 126;refine (aa.out _).mono ?_;rintro e w' ⟨rfl,rfl⟩);go_quiet (fail);go_wp2;go_roundw
    case rel=>exact ⟨j+1,lf,lf,by go_num,aB HB.out _,pG hno HX.out⟩
    case measure=>simp [zt];omega
  ·by_cases h4:j≤4
   ·have hkj:¬ (j:Int)≤(s.size:Int) - (k:Int):=lf;have h0:pz (s.data.toList.drop k)=(0,0):=rD _ fun n h1 h2 h3=>hno n h1 (by rw [HN.out] at h3;omega) h3;rw [HR.out] at h0;simp only [zs] at h0;have H0:=yv h0;clear h0 hlt;go_wp2;go_ret2;exact ⟨gG (by rw [H0.out.1];rfl) (by rw [H0.out.2];rfl),HB.out⟩
   ·have hj:¬ (j:Int)≤4:=lf;have h0:pz (s.data.toList.drop k)=(0,0):=rD _ fun n h1 h2 h3=>hno n h1 lf h3;rw [HR.out] at h0;simp only [zs] at h0;have H0:=yv h0;clear h0 hlt;go_wp2;go_ret2;exact ⟨gG (by rw [H0.out.1];rfl) (by rw [H0.out.2];rfl),HB.out⟩
def ud (l:List UInt8) (p:Nat):Int:=sh (l.length+1) (l.drop p) p
theorem qT (l:List UInt8) (p:Nat) (h:l.length≤p):ud l p=-1:=by
 unfold ud;rw [List.drop_eq_nil_of_le h];simp [sh]
theorem sS (l:List UInt8) (p:Nat) (h:p<l.length) (e:(pz (l.drop p)).2=0):ud l p=p:=by
 unfold ud;simp only [sh];rw [if_neg lq,if_pos e]
theorem pO (l:List UInt8) (p:Nat) (h:p<l.length) (e:(pz (l.drop p)).2≠0):ud l p=ud l (p+(pz (l.drop p)).2):=by
 unfold ud
 conv=>lhs;rw [show sh (l.length+1) (l.drop p) p=if l.drop p=[] then (-1:Int) else if (pz (l.drop p)).2=0 then (p:Int) else sh l.length ((l.drop p).drop (pz (l.drop p)).2) (p+(pz (l.drop p)).2) from rfl]
 rw [if_neg lq,if_neg e,List.drop_drop];exact sF _ _ _ _ lq lq
set_option maxHeartbeats 400000 in
theorem PF (s:ByteArray) (hs:s.size≤zk) (w:ze) :
 zh prog 134 #[zi s] w fun e w'=>e=zj (yx yw (yp s.data.toList))∧yy w w w':=by
 have hlen:s.data.toList.length=s.size:=lh;have HN:=yv hlen;clear hlen;have HM:=yv hs;clear hs;obtain ⟨r,hr⟩:∃ r,yp s.data.toList=r:=⟨_,rfl⟩;rw [hr];have HR:=yv hr;clear hr;go_enter func134,ntmps134;go_wp2
 go_loopw [3] (fun _ wr=>∃ pos:Nat,wr=w.iter s pos∧ud s.data.toList pos=r) (fun _ wr=>s.size - wr.iterPos w)
 case atStart=>exact ⟨0,rfl,HR.out⟩
 case round =>
  obtain ⟨pos,rfl,hb⟩:=hrel;have HB:=yv hb;clear hb;by_cases hp:pos<s.size
  ·have hd:=lW s pos hp;obtain ⟨c,n,hcn⟩:∃ c n,pz (s.data.toList.drop pos)=(c,n):=⟨_,_,rfl⟩;rw [hcn] at hd;have aa:=fun ty=>Aa (P:=prog) w s pos ty hp;have ht:=MC s HM.out pos hp;have hpl:pos<s.data.toList.length:=by rw [HN.out];exact hp
   by_cases hn:n=0
   ·rw [if_pos hn] at hd;rw [hd] at aa;have hres:r=pos:=by rw [← HB.out,sS _ _ hpl (by rw [hcn];exact hn)]
    have ht':=fun w=>ht w c n hcn;rw [hn] at ht';have HT:=yv ht';clear ht ht' hd hcn hn hpl;have HRes:=yv hres;clear hres;go_wp2_with (go_at_call 159;refine (HT.out _).mono ?_;rintro e w' ⟨rfl,rfl⟩);go_ret;exact ⟨aK HRes.out.symm,(zf _ _).alloc (zd _) _⟩
   ·rw [if_neg hn] at hd;rw [hd] at aa;have hstep:ud s.data.toList (pos+n)=r:=by
     rw [← HB.out,pO _ _ hpl (by rw [hcn];exact hn),hcn]
    have HS:=yv hstep;clear hstep;have hz:((n:Int) == 0)=false:=lq;by_cases hc:c=65533
    ·have ht':=fun w=>ht w c n hcn;rw [hc] at ht' aa;have HT:=yv ht';clear ht ht' hd hcn hpl hc;go_wp2_with (go_at_call 159;refine (HT.out _).mono ?_;rintro e w' ⟨rfl,rfl⟩);go_roundw
     case rel=>exact ⟨pos+n,rfl,HS.out⟩
     case measure=>simp;omega
    ·have hne:((c:Int) != 65533)=true:=lq;clear ht hd hcn hpl hc;go_wp2;go_roundw
     case rel=>exact ⟨pos+n,rfl,HS.out⟩
     case measure=>simp;omega
  ·have aa:=fun ty=>Ab (P:=prog) w s pos ty hp;have hres:r=-1:=by rw [← HB.out,qT _ _ (by rw [HN.out];omega)]
   have HRes:=yv hres;clear hres;go_wp2;go_ret;exact ⟨aK HRes.out.symm,(zf _ _).alloc (zd _) _⟩
set_option maxHeartbeats 400000 in
theorem OD (s:ByteArray) (hs:s.size≤140737488355328) (w:ze) :
 zh prog 65 #[zi s] w fun e w'=>e=zj (yx yw (yp s.data.toList))∧yy w w w':=by
 have hlen:s.data.toList.length=s.size:=lh;have HN:=yv hlen;clear hlen;obtain ⟨r,hr⟩:∃ r,yp s.data.toList=r:=⟨_,rfl⟩;rw [hr];have HR:=yv hr;clear hr;go_enter func65,ntmps65;go_wp2
 go_loopw [3] (fun i wr=>∃ pos:Nat,i=yx yw pos∧ud s.data.toList pos=r∧pos≤s.size∧yy w w wr) (fun i _=>s.size - (zt i).toNat)
 case atStart=>exact ⟨0,rfl,HR.out,zo _,zf _ _⟩
 case round =>
  obtain ⟨pos,rfl,hb,hle,hbel⟩:=hrel;have HB:=yv hb;clear hb;have HL:=yv hbel;clear hbel;by_cases hp:pos<s.size
  ·obtain ⟨c,n,hcn⟩:∃ c n,pz (s.data.toList.drop pos)=(c,n):=⟨_,_,rfl⟩;have ht:=fun w=>NJ s hs pos hp w c n hcn;have HT:=yv ht;clear ht;have hpl:pos<s.data.toList.length:=by rw [HN.out];exact hp
   by_cases hn:n=0
   ·have hres:r=pos:=by rw [← HB.out,sS _ _ hpl (by rw [hcn];exact hn)]
    have HRes:=yv hres;clear hres;have hz:((n:Int) == 0)=true:=lq;clear hcn hn hpl;go_wp2_with (go_at_call 98;refine (HT.out _).mono ?_;rintro e w' ⟨rfl,aa⟩);go_ret;exact ⟨aK HRes.out.symm,HL.out.trans (Aj lm HL.out.size)⟩
   ·have hstep:ud s.data.toList (pos+n)=r:=by
     rw [← HB.out,pO _ _ hpl (by rw [hcn];exact hn),hcn]
    have hnle:n≤s.size - pos:=by
     have:=dR (s.data.toList.drop pos);rw [hcn,zy,HN.out] at this;exact this
    have HS:=yv hstep;clear hstep;have hz:((n:Int) == 0)=false:=lq;clear hcn hpl;go_wp2_with (go_at_call 98;refine (HT.out _).mono ?_;rintro e w' ⟨rfl,aa⟩);go_roundw
    case rel=>exact ⟨pos+n,by go_num,HS.out,lf,HL.out.trans (Aj lm HL.out.size)⟩
    case measure=>simp [zt];omega
  ·have hres:r=-1:=by rw [← HB.out,qT _ _ (by rw [HN.out];omega)]
   have HRes:=yv hres;clear hres;go_wp2;go_ret;exact ⟨aK HRes.out.symm,HL.out⟩
theorem SF (l:List UInt8):-1≤yp l:=by
 have:=AQ (l.length+1) l 0;unfold yp;omega
def oa (l:List UInt8):Bool:=decide (yp l<0)
theorem bE (l:List UInt8):oa l=true↔rp l:=by
 unfold oa rp;have:=SF l;simp;omega
theorem eC (s:ByteArray) (hs:s.size≤zk) (w:ze) :
 zh prog 105 #[zi s] w fun e w'=>e=zj (.bool (oa s.data.toList))∧yy w w w':=by
 have hb:=PF s hs;have e:oa s.data.toList=decide (yp s.data.toList<0):=rfl;rw [e];clear e;obtain ⟨r,hr⟩:∃ r,yp s.data.toList=r:=⟨_,rfl⟩;rw [hr] at hb ⊢;have HB:=yv hb;clear hb hr;go_enter func105,ntmps105;go_wp2_with (go_at_call 134;refine (HB.out _).mono ?_;rintro e w' ⟨rfl,aa⟩);go_ret;exact ⟨rfl,lm⟩
theorem fU (s:ByteArray) (hs:s.size≤140737488355328) (w:ze) :
 zh prog 37 #[zi s] w fun e w'=>e=zj (.bool (oa s.data.toList))∧yy w w w':=by
 have hb:=OD s hs;have e:oa s.data.toList=decide (yp s.data.toList<0):=rfl;rw [e];clear e;obtain ⟨r,hr⟩:∃ r,yp s.data.toList=r:=⟨_,rfl⟩;rw [hr] at hb ⊢;have HB:=yv hb;clear hb hr;go_enter func37,ntmps37;go_wp2_with (go_at_call 65;refine (HB.out _).mono ?_;rintro e w' ⟨rfl,aa⟩);go_ret;exact ⟨rfl,lm⟩
set_option linter.unusedVariables false
theorem iY (l:List UInt8) (k:Nat):o9 l (qt l k):=by
 induction k with
 | zero=>exact bN l
 | succ k ih =>
  by_cases h:o9 l (k+1)
  ·rw [dE l _ h];exact h
  ·rw [gY l k h];exact ih
theorem qS (l:List UInt8) (e k:Nat) (h:o9 l e) (hk:e≤k):e≤qt l k:=by
 induction k with
 | zero=>omega
 | succ k ih =>
  by_cases h2:o9 l (k+1)
  ·rw [dE l _ h2];exact hk
  ·rw [gY l k h2];refine ih ?_;rcases zu k e with g|g
   ·obtain rfl:e=k+1:=lf;exact absurd h h2
   ·exact g
theorem NL (l:List UInt8):(pz l).2≤4:=by
 unfold pz;split
 ·simp
 ·exact pK _ _ _ _
theorem GV (n:Nat):∀ (l:List UInt8) (k:Nat),l.length≤n→rp l→k≤l.length→∃ e,o9 l e∧e≤k∧k≤e+3:=by
 induction n with
 | zero=>intro l k hn _ hk;exact ⟨0,bN l,zo _,lf⟩
 | succ n ih =>
  intro l k hn hv hk;by_cases hl:l=[]
  ·subst hl;exact ⟨0,bN _,zo _,by simp at hk;omega⟩
  obtain ⟨h1,h2⟩:=(eO l hl).1 hv;have h3:=dR l;have h4:=NL l;have h0:=cE hl;rcases zu k (pz l).2 with g|g
  ·exact ⟨0,bN l,zo _,lf⟩
  ·obtain ⟨e,he,e1,e2⟩:=ih (l.drop (pz l).2) (k - (pz l).2) lq h2 lq;refine ⟨(pz l).2+e,?_,lf,lf⟩;rcases he with rfl|he|⟨he,hb⟩
   ·rcases eF _ h2 with hc|hc
    ·right;left;have:=congrArg Ak hc;simp at this;omega
    ·rw [mR] at hc;rcases zu (pz l).2 l.length with q|q
     ·exact .inr (.inr ⟨lf,hc⟩)
     ·exact .inr (.inl lf)
   ·simp at he;exact .inr (.inl lf)
   ·simp at he;rw [mR] at hb;exact .inr (.inr ⟨lf,hb⟩)
theorem GF (l:List UInt8) (k:Nat) (hv:rp l) (hk:k≤l.length):k≤qt l k+3:=by
 obtain ⟨e,he,h1,h2⟩:=GV l.length l k (zd _) hv hk;have:=qS l e k he h1;omega
theorem lJ (l:List UInt8) (k:Nat) (h:k≤l.length):mi l k=qt l k:=by
 unfold mi;rw [if_neg lf,if_neg lf,zv]
theorem JZ (s:ByteArray) (n:Nat) (h:n≤s.size):s.extract 0 n++s.extract n s.size=s:=by
 apply aU;rw [aF,aE,aE];rw [zp,zq,zm (l:=s.data.toList.drop n) lh];exact zw n _
theorem bF (s:ByteArray) (n:Nat) (h:n≤s.size):(s.extract 0 n).size=n:=lq
theorem cL (s:ByteArray) (n:Nat):(s.extract n s.size).size=s.size - n:=lh
theorem mM (s:ByteArray) (n:Nat) (hv:rp s.data.toList) (he:o9 s.data.toList n):rp (s.extract 0 n).data.toList∧rp (s.extract n s.size).data.toList:=by
 rw [aE,aE,zp,zq,zm (l:=s.data.toList.drop n) lh];exact gX _ n hv he
def qq (s:ByteArray):Prop:=1≤s.size∧s.size≤16∧rp s.data.toList
def oe (s:ByteArray):Bool:=decide (1≤s.size) && (decide (s.size≤16) && oa s.data.toList)
theorem aQ (s:ByteArray):oe s=true↔qq s:=by
 unfold oe qq;rw [Ad,Ad,decide_eq_true_iff,decide_eq_true_iff,bE]
def sw (s:ByteArray):Nat:=qt s.data.toList 16
theorem jA (s:ByteArray):sw s≤16:=jE _ _
theorem mU (s:ByteArray) (hv:rp s.data.toList) (h:16<s.size):13≤sw s:=by
 have:=GF s.data.toList 16 hv lq;unfold sw;omega
theorem tD (s:ByteArray):o9 s.data.toList (sw s):=iY _ _
inductive Ctd:ByteArray→List ByteArray→Prop
 | none {s:ByteArray}:s.size=0→Ctd s []
 | last {s:ByteArray}:0<s.size→s.size≤16→Ctd s [s]
 | more {s:ByteArray} {L:List ByteArray}:16<s.size→Ctd (s.extract (sw s) s.size) L→Ctd s (s.extract 0 (sw s)::L)
def CutP (s:ByteArray) (L:List ByteArray):Prop:=(rp s.data.toList∧Ctd s L)∨(¬ rp s.data.toList∧L=[])
def lx (L:List ByteArray):ByteArray:=L.foldl (·++·) ⟨#[]⟩
theorem oL (p:ByteArray) (s:ByteArray) (h:s.size=0):p++s=p:=by
 apply aU;rw [aF,List.eq_nil_of_length_eq_zero (l:=s.data.toList) (by simpa using h),List.append_nil]
theorem fZ (a b c:ByteArray):a++b++c=a++(b++c):=by
 apply aU;rw [aF,aF,aF,aF,zn]
theorem KZ (h:Ctd s L):∀ p,L.foldl (·++·) p=p++s:=by
 induction h with
 | none h=>intro p;exact (oL p _ h).symm
 | last _ _=>intro p;rfl
 | @more s L h1 _ ih =>
  intro p;rw [List.foldl_cons,ih,fZ,JZ _ _ (by have:=jA s;omega)]
theorem AI (s:ByteArray):(⟨#[]⟩:ByteArray)++s=s:=by
 apply aU;rw [aF];rfl
theorem EW (h:Ctd s L):lx L=s:=by
 unfold lx;rw [KZ h,AI]
def ms (L:List ByteArray):Prop:=∀ (k:Nat) (h:k<L.length),qq L[k]∧∀ (h0:0<k),16<(L[k - 1]' lf).size+L[k].size
theorem aR:ms []:=fun k h=>absurd h lh
theorem jQ {x:ByteArray} (hx:qq x) (hy:∀ h:0<L.length,16<x.size+(L[0]'h).size) (hL:ms L):ms (x::L):=by
 intro k h;cases k with
 | zero=>exact ⟨hx,fun h0=>absurd h0 (Nat.lt_irrefl _)⟩
 | succ k =>
  have hk:k<L.length:=by simpa using h
  refine ⟨(hL k hk).1,fun _=>?_⟩;cases k with
  | zero=>exact hy hk
  | succ k=>exact (hL (k+1) hk).2 (Nat.succ_pos _)
theorem IK (h:Ctd s L) (hv:rp s.data.toList):ms L∧(∀ h0:0<L.length,(L[0]'h0).size=s.size∨13≤(L[0]'h0).size)∧L.length≤s.size:=by
 induction h with
 | none h=>exact ⟨aR,fun h0=>absurd h0 lh,lh⟩
 | last h1 h2=>exact ⟨jQ ⟨h1,h2,hv⟩ (fun h=>absurd h lh) aR,fun _=>.inl rfl,lq⟩
 | @more s L h1 h2 ih =>
  have hn:=jA s;have aa:=mU s hv h1;have hp:=mM s (sw s) hv (tD s);have z1:=bF s (sw s) lf;have z2:=cL s (sw s);obtain ⟨i1,i2,i3⟩:=ih hp.2;refine ⟨jQ ⟨lf,lf,hp.1⟩ (fun h=>?_) i1,fun _=>.inr ?_,?_⟩
  ·rcases i2 h with g|g <;> omega
  ·show 13≤(s.extract 0 (sw s)).size;omega
  ·simp only [List.length_cons];omega
def qg (s:ByteArray):Nat:=qt s.data.toList ((s.size+1) / 2)
theorem pA (s:ByteArray):qg s≤s.size:=by have:=jE s.data.toList ((s.size+1) / 2);unfold qg;omega
def rg (a b:ByteArray):List ByteArray:=
 if oe a=true∧oe b=true then
  if (a++b).size≤16 then [a++b]
  else if oe ((a++b).extract 0 (qg (a++b)))=true∧oe ((a++b).extract (qg (a++b)) (a++b).size)=true then [(a++b).extract 0 (qg (a++b)),(a++b).extract (qg (a++b)) (a++b).size]
  else [a,b]
 else []
theorem DK (l:List UInt8) (k j:Nat) (h:k+j≤l.length) (on:∀ m,m<j→128≤bt l (k+m)∧bt l (k+m)≤191):op (l.take (k+j))=op (l.take k)∧oq (l.take (k+j))=oq (l.take k):=by
 induction j with
 | zero=>exact ⟨rfl,rfl⟩
 | succ j ih =>
  obtain ⟨i1,i2⟩:=ih lf (fun m hm=>on m lf);have g:=on j lf;rw [show k+(j+1)=(k+j)+1 by omega,kU _ _ lf,jU _ _ lf,if_pos g,if_neg lf,i1,i2];exact ⟨rfl,rfl⟩
def vh (l:List UInt8) (p:Nat):Nat:=if (pz (l.drop p)).2=0 then 1 else (pz (l.drop p)).2
theorem mH (s:ByteArray) (p:Nat) (h:p<s.size):(Utf8.decode s p).2=vh s.data.toList p:=by
 rw [lW s p h];unfold vh;split <;> rfl
theorem EA (s:ByteArray) (p:Nat) (h:p<s.size):(Utf8.decode s p).1=10↔bt s.data.toList p=10:=by
 rw [lW s p h];have hl:p<s.data.toList.length:=by simpa using h
 rw [eQ _ _ hl];rcases eR (bt s.data.toList p) (bt s.data.toList (p+1)) (bt s.data.toList (p+1+1)) (bt s.data.toList (p+1+2)) with ⟨g1,e⟩|⟨g1,g2,g3,g4,e⟩|⟨g1,g2,g3,g4,g5,g6,g7,g8,e⟩|⟨g1,g2,g3,g4,g5,g6,g7,g8,g9,g10,e⟩|⟨g1,_,_,_,e⟩
 all_goals rw [e];simp only [if_pos]
 ·simp
 ·simp;omega
 ·simp;omega
 ·simp;omega
 ·simp;omega
theorem pB (l:List UInt8) (p:Nat) (h:p<l.length) :
 1≤vh l p∧p+vh l p≤l.length∧op (l.take (p+vh l p))=op (l.take p)+(if 128≤bt l p∧bt l p≤191 then 0 else 1)∧oq (l.take (p+vh l p))=oq (l.take p)+(if bt l p=10 then 1 else 0):=by
 unfold vh;by_cases hz:(pz (l.drop p)).2=0
 ·rw [if_pos hz];exact ⟨zd _,h,kU l p h,jU l p h⟩
 ·rw [if_neg hz];have hle:=dR (l.drop p);rw [zy] at hle;rw [eQ l p h] at hz hle ⊢;obtain ⟨g0,g1,g2,g3⟩:=tS _ _ _ _ hz;have h4:=pK (bt l p) (bt l (p+1)) (bt l (p+1+1)) (bt l (p+1+2));obtain ⟨n,hn⟩:∃ n,(tk (bt l p) (bt l (p+1)) (bt l (p+1+1)) (bt l (p+1+2))).2=n:=⟨_,rfl⟩;rw [hn] at hz hle h4 g1 g2 g3 ⊢;have sk:=DK l (p+1) (n - 1) lf (fun m hm=>by
   obtain rfl|rfl|rfl:m=0∨m=1∨m=2:=lf
   ·exact g1 lf
   ·exact g2 lf
   ·exact g3 lf)
  rw [show p+1+(n - 1)=p+n by omega] at sk;refine ⟨lf,lf,?_,?_⟩
  ·rw [sk.1,kU l p h]
  ·rw [sk.2,jU l p h]
set_option maxHeartbeats 400000 in
theorem JF (s:ByteArray) (hs:s.size≤zk) (w:ze) :
 zh prog 209 #[zi s] w fun e w'=>e=zj (yx yw (op s.data.toList))∧yy w w w':=by
 have hlen:s.data.toList.length=s.size:=lh;have HN:=yv hlen;clear hlen;unfold zk at hs;go_enter func209,ntmps209;go_wp2
 go_loopw [3] (fun n wr=>∃ pos:Nat,pos≤s.size∧wr=w.iter s pos∧n=yx yw (op (s.data.toList.take pos))) (fun _ wr=>s.size - wr.iterPos w)
 case atStart=>exact ⟨0,zo _,rfl,rfl⟩
 case round =>
  obtain ⟨pos,hle,rfl,rfl⟩:=hrel;have hrl:=wQ (s.data.toList.take pos);rw [zr] at hrl;by_cases hp:pos<s.size
  ·have hb:=cF s pos hp;obtain ⟨k1,k2,k3,_⟩:=pB s.data.toList pos (by rw [HN.out];exact hp);rw [HN.out] at k2;rw [hb] at k3;have aa:=fun ty=>Aa (P:=prog) w s pos ty hp;rw [mH s pos hp] at aa;obtain ⟨x,hx⟩:∃ x,op (s.data.toList.take pos)=x:=⟨_,rfl⟩;obtain ⟨d,hd⟩:∃ d,vh s.data.toList pos=d:=⟨_,rfl⟩;rw [hx] at k3 hrl ⊢;rw [hd] at k1 k2 k3 aa;have ab:x<9223372036854775807:=lf;clear hb hx hd hrl;by_cases g:128≤s[pos].toNat∧s[pos].toNat≤191
   ·rw [if_pos g] at k3;have K3:=yv k3;clear k3;obtain ⟨g1,g2⟩:=g;go_wp2_with (go_at_call 135;refine (kV _ g1 g2 _).mono ?_;rintro e w' ⟨rfl,rfl⟩);go_roundw
    case rel=>exact ⟨pos+d,k2,rfl,by rw [K3.out];rfl⟩
    case measure=>simp;omega
   ·rw [if_neg g] at k3;have K3:=yv k3;clear k3;have G:=yv g;clear g;go_wp2_with (go_at_call 135;refine (lF _ G.out _).mono ?_;rintro e w' ⟨rfl,rfl⟩);go_roundw
    case rel=>exact ⟨pos+d,k2,rfl,by rw [K3.out];go_num⟩
    case measure=>simp;omega
  ·have aa:=fun ty=>Ab (P:=prog) w s pos ty hp;have hend:s.data.toList.take pos=s.data.toList:=zm (by rw [HN.out];omega);rw [hend];clear hend hrl;go_wp2;go_ret;exact ⟨rfl,(zf _ _).alloc (zd _) _⟩
set_option maxHeartbeats 400000 in
theorem FM (s:ByteArray) (hs:s.size≤zk) (w:ze) :
 zh prog 210 #[zi s] w fun e w'=>e=zj (yx yw (oq s.data.toList))∧yy w w w':=by
 have hlen:s.data.toList.length=s.size:=lh;have HN:=yv hlen;clear hlen;unfold zk at hs;go_enter func210,ntmps210;go_wp2
 go_loopw [3] (fun n wr=>∃ pos:Nat,pos≤s.size∧wr=w.iter s pos∧n=yx yw (oq (s.data.toList.take pos))) (fun _ wr=>s.size - wr.iterPos w)
 case atStart=>exact ⟨0,zo _,rfl,rfl⟩
 case round =>
  obtain ⟨pos,hle,rfl,rfl⟩:=hrel;have hrl:=xC (s.data.toList.take pos);rw [zr] at hrl;by_cases hp:pos<s.size
  ·obtain ⟨k1,k2,_,k3⟩:=pB s.data.toList pos (by rw [HN.out];exact hp);rw [HN.out] at k2;have ht:=EA s pos hp;have aa:=fun ty=>Aa (P:=prog) w s pos ty hp;rw [mH s pos hp] at aa;obtain ⟨x,hx⟩:∃ x,oq (s.data.toList.take pos)=x:=⟨_,rfl⟩;obtain ⟨d,hd⟩:∃ d,vh s.data.toList pos=d:=⟨_,rfl⟩;obtain ⟨c,hc⟩:∃ c,(Utf8.decode s pos).1=c:=⟨_,rfl⟩;rw [hx] at k3 hrl ⊢;rw [hd] at k1 k2 k3 aa;rw [hc] at aa ht;have ab:x<9223372036854775807:=lf;clear hx hd hrl hc;by_cases g:bt s.data.toList pos=10
   ·rw [if_pos g] at k3;have K3:=yv k3;clear k3;have hq:((c:Int) == 10)=true:=by simp;have:=ht.2 g;omega
    clear ht g;go_wp2;go_roundw
    case rel=>exact ⟨pos+d,k2,rfl,by rw [K3.out];go_num⟩
    case measure=>simp;omega
   ·rw [if_neg g] at k3;have K3:=yv k3;clear k3;have hq:((c:Int) == 10)=false:=by
     have:c≠10:=fun e=>g (ht.1 e);simp;omega
    clear ht g;go_wp2;go_roundw
    case rel=>exact ⟨pos+d,k2,rfl,by rw [K3.out];rfl⟩
    case measure=>simp;omega
  ·have aa:=fun ty=>Ab (P:=prog) w s pos ty hp;have hend:s.data.toList.take pos=s.data.toList:=zm (by rw [HN.out];omega);rw [hend];clear hend hrl;go_wp2;go_ret;exact ⟨rfl,(zf _ _).alloc (zd _) _⟩
abbrev cntV (b r l:Int):Value:=.agg #[yx yw b,yx yw r,yx yw l]
theorem bcell {W w1:ze} (hb:yy W W w1):(∀ b o,b<W.heap.size→w1 ⟨b,o,none⟩=W ⟨b,o,none⟩)∧(∀ b o,b<W.heap.size→w1.frozen? ⟨b,o,none⟩=W.frozen? ⟨b,o,none⟩):=
 ⟨fun b o h=>hb.cell (p:=⟨b,o,none⟩) h,fun b o h=>hb.frozen (p:=⟨b,o,none⟩) h⟩
theorem gB {w w2:ze} {o:Obj} (hb:yy (w.alloc o) (w.alloc o) w2) (u0 u1 u2:Value) :
 yy w w (((w2.setCell ⟨w,0,none⟩ u0).setCell ⟨w,1,none⟩ u1).setCell ⟨w,2,none⟩ u2):=
 ((((((zf _ _).alloc (zd _) _).trans (hb.mono lh)).setCell (p:=⟨w,0,none⟩) (zd _) _).setCell (p:=⟨w,1,none⟩) (zd _) _)).setCell (p:=⟨w,2,none⟩) (zd _) _
set_option maxHeartbeats 400000 in
theorem QC (s:ByteArray) (hs:s.size≤zk) (w:ze) :
 zh prog 194 #[zi s] w fun e w'=>e=zj (cntV s.size (op s.data.toList) (oq s.data.toList))∧yy w w w':=by
 have c1:=JF s hs;have c2:=FM s hs;obtain ⟨x,hx⟩:∃ x,op s.data.toList=x:=⟨_,rfl⟩;obtain ⟨y,hy⟩:∃ y,oq s.data.toList=y:=⟨_,rfl⟩;rw [hx] at c1 ⊢;rw [hy] at c2 ⊢;have C1:=yv c1;have C2:=yv c2;clear c1 c2 hx hy;unfold zk at hs;go_enter func194,ntmps194;go_wp2_with fail;refine (C1.out _).mono ?_;rintro e w1 ⟨rfl,ab⟩;go_wp2_with fail;refine (my ab (C2.out _)).mono ?_;rintro e w2 ⟨rfl,aa⟩;obtain ⟨hc,hf⟩:=bcell aa;go_wp2;refine bodyPost_ret (v:=cntV s.size x y) (by simp [results,results194,hc,go_sem]) rfl ⟨rfl,?_⟩;exact gB aa _ _ _
def vf (c:UInt8):Bool:=decide (97≤c.toNat) && decide (c.toNat≤122)
def ng (l:List UInt8):Bool:=(decide (1≤l.length) && decide (l.length≤8)) && l.all vf
theorem zC {l:List UInt8} (h:l.length<1):ng l=false:=by unfold ng;rw [decide_eq_false lf];rfl
theorem BK {l:List UInt8} (h:8<l.length):ng l=false:=by unfold ng;rw [decide_eq_false (by omega:¬ l.length≤8),Af];rfl
theorem MD {l:List UInt8} (h:ng l=true):1≤l.length∧l.length≤8∧l.all vf=true:=by
 unfold ng at h;simp only [Ad,decide_eq_true_eq] at h;exact ⟨h.1.1,h.1.2,h.2⟩
theorem tP {l:List UInt8} (h:k<l.length):(l.take (k+1)).all vf=((l.take k).all vf && vf (l[k]'h)):=by
 rw [List.take_succ_eq_append_getElem h,List.all_append];simp
theorem PT {l:List UInt8} (h:k<l.length) (g:vf (l[k]'h)=false):l.all vf=false:=by
 rw [List.all_eq_false];exact ⟨l[k],List.getElem_mem h,by simp [g]⟩
theorem zN (h:k<s.size):vf (s.data.toList[k]'(by simpa using h))=(decide (97≤s[k].toNat) && decide (s[k].toNat≤122)):=rfl
theorem xF (h:k<s.size) (hall:(s.data.toList.take k).all vf=true) (h1:97≤s[k].toNat) (h2:s[k].toNat≤122):(s.data.toList.take (k+1)).all vf=true:=by
 rw [tP (by simpa using h),hall,zN h,decide_eq_true h1,decide_eq_true h2];rfl
theorem mS (h:k<s.size) (g:s[k].toNat<97∨122<s[k].toNat):ng s.data.toList=false:=by
 have e:s.data.toList.all vf=false:=PT (k:=k) (by simpa using h) (by
  rw [zN h];rcases g with g|g
  ·rw [decide_eq_false lf];rfl
  ·rw [decide_eq_false (by omega:¬ s[k].toNat≤122),Af])
 unfold ng;rw [e,Af]
theorem zY (h:(s.data.toList.take s.size).all vf=true):ng s.data.toList=(decide (1≤s.size) && decide (s.size≤8)):=by
 have e:s.data.toList.length=s.size:=lh;rw [zm lf] at h;unfold ng;rw [h,Bool.and_true,e]
def ot (t:ByteArray) (p:Int) (o n:ByteArray):ByteArray×Int:=
 if p<0∨(t.size:Int)<p then (⟨#[]⟩,3)
 else if ¬ t.extract p.toNat (p.toNat+o.size)=o then (⟨#[]⟩,8)
 else if (mg t.data.toList p.toNat && mg t.data.toList (p.toNat+o.size:Nat))=false then (⟨#[]⟩,4)
 else if (oa o.data.toList && oa n.data.toList)=false then (⟨#[]⟩,5)
 else if 4096+o.size<t.size+n.size then (⟨#[]⟩,6)
 else (t.extract 0 p.toNat++n++t.extract (p.toNat+o.size) t.size,0)
def mw (p:Int) (o n:Nat) (a:Int):Int:=if a≤p then a else if p+o≤a then a - o+n else p
theorem jI (h:p<0∨(t.size:Int)<p):ot t p o n=(⟨#[]⟩,3):=by unfold ot;rw [if_pos h]
theorem mA (hk:k≤t.size) (h:¬ t.extract k (k+o.size)=o):ot t k o n=(⟨#[]⟩,8):=by
 unfold ot;rw [if_neg lf,if_pos (by simpa using h)]
theorem dP (hk:k≤t.size) (h:t.extract k (k+o.size)=o) (he:mg t.data.toList k=false∨mg t.data.toList (k+o.size:Nat)=false):ot t k o n=(⟨#[]⟩,4):=by
 unfold ot;rw [if_neg lf,if_neg (by simpa using h),if_pos];simp only [zv,Al];exact he
theorem eA (hk:k≤t.size) (h:t.extract k (k+o.size)=o) (h1:mg t.data.toList k=true) (h2:mg t.data.toList (k+o.size:Nat)=true)
 (hv:oa o.data.toList=false∨oa n.data.toList=false):ot t k o n=(⟨#[]⟩,5):=by
 unfold ot;rw [if_neg lf,if_neg (by simpa using h),if_neg (by simp only [zv];rw [h1,h2];decide),if_pos];simp only [Al];exact hv
theorem mE (hk:k≤t.size) (h:t.extract k (k+o.size)=o) (h1:mg t.data.toList k=true) (h2:mg t.data.toList (k+o.size:Nat)=true)
 (v1:oa o.data.toList=true) (v2:oa n.data.toList=true) (hl:4096+o.size<t.size+n.size):ot t k o n=(⟨#[]⟩,6):=by
 unfold ot;rw [if_neg lf,if_neg (by simpa using h),if_neg (by simp only [zv];rw [h1,h2];decide),if_neg (by rw [v1,v2];decide),if_pos hl]
theorem gH (hk:k≤t.size) (h:t.extract k (k+o.size)=o) (h1:mg t.data.toList k=true) (h2:mg t.data.toList (k+o.size:Nat)=true)
 (v1:oa o.data.toList=true) (v2:oa n.data.toList=true) (hl:¬ 4096+o.size<t.size+n.size):ot t k o n=(t.extract 0 k++n++t.extract (k+o.size) t.size,0):=by
 unfold ot;rw [if_neg lf,if_neg (by simpa using h),if_neg (by simp only [zv];rw [h1,h2];decide),if_neg (by rw [v1,v2];decide),if_neg hl];simp
theorem fH (hk:k≤t.size) (h:t.extract k (k+o.size)=o):k+o.size≤t.size:=by
 have:=congrArg Au h;rw [Am] at this;omega
theorem bT (l:List UInt8) (k:Nat):mg l k=true↔o9 l k:=by unfold mg;simp
theorem lO (h:ot t p o n=(s,0)) :
 ∃ k:Nat,p=k∧k≤t.size∧t.extract k (k+o.size)=o∧mg t.data.toList k=true∧mg t.data.toList (k+o.size:Nat)=true∧oa o.data.toList=true∧oa n.data.toList=true∧¬ 4096+o.size<t.size+n.size∧s=t.extract 0 k++n++t.extract (k+o.size) t.size:=by
 by_cases hp:p<0∨(t.size:Int)<p
 ·rw [jI hp] at h;cases h
 obtain ⟨k,rfl⟩:=An (show 0≤p by omega);have hk:k≤t.size:=lf;refine ⟨k,rfl,hk,?_⟩;by_cases ho:t.extract k (k+o.size)=o
 case neg=>rw [mA hk ho] at h;cases h
 cases h1:mg t.data.toList k
 ·rw [dP hk ho (.inl h1)] at h;cases h
 cases h2:mg t.data.toList (k+o.size:Nat)
 ·rw [dP hk ho (.inr h2)] at h;cases h
 cases v1:oa o.data.toList
 ·rw [eA hk ho h1 h2 (.inl v1)] at h;cases h
 cases v2:oa n.data.toList
 ·rw [eA hk ho h1 h2 (.inr v2)] at h;cases h
 by_cases hl:4096+o.size<t.size+n.size
 ·rw [mE hk ho h1 h2 v1 v2 hl] at h;cases h
 rw [gH hk ho h1 h2 v1 v2 hl] at h;refine ⟨ho,rfl,rfl,rfl,rfl,hl,?_⟩;have:=congrArg Prod.fst h;exact this.symm
theorem LB (hk:k≤t.size) (h:t.extract k (k+o.size)=o):t.extract 0 k++o++t.extract (k+o.size) t.size=t:=by
 have hle:=fH hk h;have e:t.extract 0 k++o=t.extract 0 (k+o.size):=by
  apply aU;have ho:=congrArg (fun x=>x.data.toList) h;simp only [aE,zq,zp,aF] at ho ⊢
  conv=>lhs;rw [← ho]
  rw [show k+o.size - k=o.size by omega,← zw k (t.data.toList.take (k+o.size))]
  congr 1
  ·rw [List.take_take,Nat.min_eq_left lf]
  ·rw [List.drop_take,show k+o.size - k=o.size by omega]
 rw [e];apply aU;simp only [aE,zq,zp,aF];have hlen:t.data.toList.length=t.size:=lh;rw [zm (l:=t.data.toList.drop _) (by rw [zy];omega),zw]
theorem BZ {a b c:List UInt8} (hk:k≤a.length) (h:o9 (a++b) k) (hc:tx c):o9 (a++c) k:=by
 rcases zu k a.length with hlt|hge
 ·unfold o9 at h ⊢;rcases h with h|h|⟨h,h1⟩
  ·exact .inl h
  ·exfalso;rw [yz] at h;omega
  ·refine .inr (.inr ⟨by rw [yz];omega,?_⟩);rw [bC _ _ _ hlt] at h1 ⊢;exact h1
 ·obtain rfl:k=a.length:=lf;rcases hc with rfl|hc
  ·exact .inr (.inl lh)
  ·by_cases hz:c=[]
   ·subst hz;exact .inr (.inl lh)
   ·refine .inr (.inr ⟨by rw [yz];have:=cE hz;omega,?_⟩);rw [dA _ _ _ (zd _),Ao];exact hc
theorem yD {a b c:List UInt8} (h:o9 (a++b) (a.length+k)) (hb:tx b) (hz:k≤b.length):o9 (c++b) (c.length+k):=by
 rcases zu k b.length with hlt|hge
 ·refine .inr (.inr ⟨by rw [yz];omega,?_⟩);rw [dA _ _ _ lf,show c.length+k - c.length=k by omega];rcases h with h|h|⟨_,h⟩
  ·obtain rfl:k=0:=lf;rcases hb with rfl|hb
   ·simp at hlt
   ·exact hb
  ·rw [yz] at h;omega
  ·rw [dA _ _ _ lf,show a.length+k - a.length=k by omega] at h;exact h
 ·exact .inr (.inl (by rw [yz];omega))
structure wf (t o n s:ByteArray) (k:Nat) (A B:List UInt8):Prop where
 t:t.data.toList=A++(o.data.toList++B)
 s:s.data.toList=A++(n.data.toList++B)
 len:A.length=k
 vA:rp A
 vO:rp o.data.toList
 vN:rp n.data.toList
 vB:rp B
theorem bX (s:ByteArray):s.data.toList.length=s.size:=lh
theorem cut3 (hv:rp t.data.toList) (h:ot t p o n=(s,0)):∃ (k:Nat) (A B:List UInt8),p=k∧wf t o n s k A B:=by
 obtain ⟨k,rfl,hk,ho,e1,e2,v1,v2,hl,hs⟩:=lO h;have h3:=LB hk ho;have hle:=fH hk ho;refine ⟨k,(t.extract 0 k).data.toList,(t.extract (k+o.size) t.size).data.toList,rfl,?_,?_,?_,?_,(bE _).1 v1,(bE _).1 v2,?_⟩
 ·have:=congrArg (fun x=>x.data.toList) h3;simp only [aF,zn] at this;exact this.symm
 ·rw [hs,aF,aF,zn]
 ·rw [bX,Am];omega
 ·rw [aE,zp,zq];exact (gX _ k hv ((bT _ _).1 e1)).1
 ·rw [aE,zm (by rw [zy,bX];omega)];exact (gX _ _ hv ((bT _ _).1 e2)).2
theorem wf.turn {A B:List UInt8} (h:wf t o n s k A B):wf s n o t k A B:=⟨h.s,h.t,h.len,h.vA,h.vN,h.vO,h.vB⟩
theorem wf.valid {A B:List UInt8} (h:wf t o n s k A B):oa s.data.toList=true:=by
 rw [bE,h.s];exact eV _ _ h.vA (eV _ _ h.vN h.vB)
theorem wf.size {A B:List UInt8} (h:wf t o n s k A B):t.size=k+o.size+B.length:=by
 have:=congrArg Ak h.t;rw [bX,yz,yz,bX,h.len] at this;omega
theorem fQ {t:List UInt8} {A B:List UInt8} (h:t=A++B) (hA:A.length=k) (hc:tx B):o9 t k:=by
 subst h hA;rcases hc with rfl|hc
 ·exact .inr (.inl lh)
 ·by_cases hz:B=[]
  ·subst hz;exact .inr (.inl lh)
  ·refine .inr (.inr ⟨by rw [yz];have:=cE hz;omega,?_⟩);rw [dA _ _ _ (zd _),Ao];exact hc
theorem wf.app {A B:List UInt8} (h:wf t o n s k A B) (hl:s.size≤4096):ot t k o n=(s,0):=by
 have ht:=h.size;have hs:=h.turn.size;have c1:tx (o.data.toList++B):=eF _ (eV _ _ h.vO h.vB);have c2:tx B:=eF _ h.vB;have ho:t.extract k (k+o.size)=o:=by
  apply aU;rw [aE,h.t,Ap h.len,show k+o.size - k=o.size by omega,Aq (bX o)]
 rw [gH lf ho ?_ ?_ ((bE _).2 h.vO) ((bE _).2 h.vN) lf]
 ·congr 1
  apply aU;rw [aF,aF,aE,aE,h.s,zp,zq,h.t,Aq h.len,zn]
  congr 2
  rw [← zn,Ap (by rw [yz,h.len,bX]),zm lf]
 ·rw [bT,h.t];exact fQ rfl h.len c1
 ·rw [bT];exact fQ (A:=A++o.data.toList) (by rw [h.t,zn]) (by rw [yz,h.len,bX]) c2
theorem oO (hv:oa t.data.toList=true) (ht:t.size≤4096) (h:ot t p o n=(s,0)):ot s p n o=(t,0)∧oa s.data.toList=true:=by
 obtain ⟨k,A,B,rfl,hc⟩:=cut3 ((bE _).1 hv) h;exact ⟨hc.turn.app ht,hc.valid⟩
theorem DJ {a:Int} (hv:oa t.data.toList=true) (h:ot t p o n=(s,0)) (ha:mg t.data.toList a=true):mg s.data.toList (mw p o.size n.size a)=true:=by
 obtain ⟨k,A,B,rfl,hc⟩:=cut3 ((bE _).1 hv) h;have aa:0≤a:=by unfold mg at ha;simp at ha;exact ha.1
 obtain ⟨j,rfl⟩:=An aa;rw [bT] at ha;have cN:tx (n.data.toList++B):=eF _ (eV _ _ hc.vN hc.vB);have cB:tx B:=eF _ hc.vB;have ht:=hc.size;have hj:j≤t.size:=by rcases ha with h|h|h <;> rw [← bX] <;> omega
 by_cases h1:j≤k
 ·rw [show mw k o.size n.size j=j by unfold mw;rw [if_pos lf],bT,hc.s];rw [hc.t] at ha;exact BZ (by rw [hc.len];exact h1) ha cN
 by_cases h2:k+o.size≤j
 ·rw [show mw k o.size n.size j=((k+n.size+(j - (k+o.size)):Nat):Int) by unfold mw;rw [if_neg lf,if_pos lf];omega,bT,hc.s,← zn];have e1:(A++o.data.toList).length=k+o.size:=by rw [yz,hc.len,bX]
  have e2:(A++n.data.toList).length=k+n.size:=by rw [yz,hc.len,bX]
  rw [← e2];refine yD (a:=A++o.data.toList) ?_ cB lf;rw [e1,zn,← hc.t,show k+o.size+(j - (k+o.size))=j by omega];exact ha
 ·rw [show mw k o.size n.size j=(k:Int) by unfold mw;rw [if_neg lf,if_neg lf],bT];exact fQ hc.s hc.len cN
end Go.Proofs.YtbagenpobcgjnaaGreat
