/-
  Joined: MarkDev, MarkDev2.
-/
import Derived.Test.YtbagenpobcgjnaaGreatJMarkMath
import Derived.Test.YtbagenpobcgjnaaGreatJOpDev
import Derived.Deep.DeepCutAuto
open Bool renaming and_false->zr
open Go renaming Calls->zd,World->zj
open Go.Ending renaming returned->ze
open Go.IntKind renaming i64->yx,wrap_i64->zu
open Go.Lib renaming hid->yv
open Go.RowKit renaming Below->yw,intOf->zh
open Go.RowKit.Below renaming refl->zg
open Go.Value renaming bool->zf,int->yz,pointer->zk,string->yy
open List renaming getElem_mem->zq
open Nat renaming le_refl->zn,lt_irrefl->zs,not_lt_zero->zm,zero_le->zp
namespace Go.Proofs.YtbagenpobcgjnaaGreat
open Go.Proofs.Tryz
set_option maxRecDepth 100000
open Lib (hid)
open Go.RowKit
set_option linter.unusedVariables false
theorem mT (x:l8) (w:zj):zd prog 179 #[x.v] w fun e w'=>e=ze (yy x.name)∧yw w w w':=by
 obtain ⟨nm,id⟩:=x;go_enter func179,ntmps179;go_wp2;go_ret;exact ⟨rfl,(zg _ _).alloc (zn _) _⟩
set_option maxHeartbeats 800000 in
theorem EE (x:l8) (xn:ByteArray) (b:Nat) (w:zj) (hb:b<w) (hc:w ⟨b,0,none⟩=some (yy xn)) :
 zd prog 182 (#[x.v]++#[zk (some ⟨b,0,none⟩)]) w fun e w'=>e=ze (zf (se xn x))∧yw w w w':=by
 obtain ⟨nm,id⟩:=x;have ab:(w.alloc (.cells #[yy nm,yz yx id] 90)) ⟨b,0,none⟩=some (yy xn):=(((zg w w).alloc (zn _) _).cell (p:=⟨b,0,none⟩) hb).trans hc;have hg:se xn ⟨nm,id⟩=!(Op.bytesLess nm.toList xn.toList || nm.toList == xn.toList):=rfl;have HG:=yv hg;obtain ⟨g,aa⟩:∃ g,se xn ⟨nm,id⟩=g:=⟨_,rfl⟩;rw [aa] at HG ⊢;clear hc hg aa hb;go_enter func182,ntmps182;go_wp2;go_ret;exact ⟨aN (by rw [HG.out,Bool.not_or]),(zg _ _).alloc (zn _) _⟩
set_option maxHeartbeats 800000 in
theorem fT (a:Option Addr) (l:List l8) (c:Nat) (s:ByteArray) (B:Nat→Prop) (w:zj) (hr:o7 w B a l) (hB:∀ b,B b→b<w.heap.size) (hl:l.length≤1000000)
 (ck:∀ W x,yw w w W→x∈l→zd prog 179 (#[x.v]++#[]) W fun e w'=>e=ze (yy x.name)∧yw W.heap.size W w') :
 zd prog 178 #[.slice a l.length c,.func (.func 179) #[] #[],yy s] w fun e w'=>e=ze (.tuple #[yz yx (l.findIdx (qo s):Nat),zf (decide (l.findIdx (qo s)<l.length))])∧yw w w w':=by
 obtain ⟨n,hn⟩:∃ n,l.length=n:=⟨_,rfl⟩;rw [hn] at hl ⊢;have HN:=yv hn;have HR:=yv hr;have CK:=yv ck;clear hn hr ck;obtain ⟨r,hfr⟩:∃ r,l.findIdx (qo s)=r:=⟨_,rfl⟩;rw [hfr];have HF:=yv hfr;clear hfr;obtain ⟨q,hq⟩:∃ q,decide (r<n)=q:=⟨_,rfl⟩;rw [hq];have HQ:=yv hq;clear hq;go_enter func178,ntmps178;go_wp2
 go_loopw [12] (fun i wr=>∃ k:Nat,k≤n∧i=yz yx k∧Hid (∀ j,j<k→(qo s) l[j]! = false)∧yw w w wr) (fun i _=>n - (zh i).toNat)
 case atStart=>exact ⟨0,zp _,rfl,yv (fun j hj=>absurd hj (zm _)),zg _ _⟩
 case round =>
  obtain ⟨k,hk,rfl,hnone,hbel⟩:=hrel;by_cases hlt:k<n
  ·have hkl:k<l.length:=by rw [HN.out];exact hlt
   obtain ⟨ad,rfl,hab,q0,q1⟩:=(HR.out.below hB hbel) k hkl;have ck:=fun W hW=>CK.out W _ hW (zq hkl);rw [← o6 hkl] at q0 q1;have ck2:=fun W hW=>(show zd _ _ _ _ _ from by have:=ck W hW;rw [← o6 hkl] at this;exact this);have hyes:=fun h=>mQ (f:=qo s) hkl hnone.out h;have hno:=fun h=>jO (f:=qo s) (k:=k) hnone.out h;rw [HF.out] at hyes;obtain ⟨x,hx⟩:∃ x,l[k]! = x:=⟨_,rfl⟩;rw [hx] at q0 q1 hyes hno ck2;obtain ⟨nm,id⟩:=x;simp only at q0 q1;have ac:=yv ck2;have HY:=yv hyes;have HO:=yv hno;have aa:=yv (hbel.alloc hbel.size (.cells #[yy nm,yz yx id] 90));clear hx ck ck2 hyes hno hnone hbel;have b0:(0:Int)≤(k:Int):=lf;have b1:(k:Int)<(n:Int):=lf;by_cases he:nm=s
   ·have h0:=HY.out (by unfold qo;exact decide_eq_true he);subst h0;have e0:q=true:=by rw [← HQ.out];exact decide_eq_true hlt
    subst e0;subst he;clear HY HO;go_wp2_with (go_at_call 179;refine (ac.out _ aa.out).mono ?_;rintro e w2 ⟨rfl,ab⟩);go_ret2;exact ⟨rfl,aa.out.trans (ab.mono aa.out.size)⟩
   ·have HX:=yv (HO.out (by unfold qo;exact decide_eq_false he));have hne:=dG he;clear HY HO he;go_wp2_with (go_at_call 179;refine (ac.out _ aa.out).mono ?_;rintro e w2 ⟨rfl,ab⟩);go_roundw
    case rel=>exact ⟨k+1,lf,by go_num,HX,aa.out.trans (ab.mono aa.out.size)⟩
    case measure=>simp [zh];omega
  ·obtain rfl:k=n:=lf;have h0:r=k:=by rw [← HF.out,← HN.out];exact pE (by rw [HN.out];exact hnone.out)
   subst h0;have e0:q=false:=by rw [← HQ.out];exact decide_eq_false (zs _)
   subst e0;clear hnone;go_wp2;go_ret2;exact ⟨rfl,hbel⟩
set_option maxHeartbeats 800000 in
theorem xK (a:Option Addr) (l:List l8) (c:Nat) (s:ByteArray) (bm:Nat) (B:Nat→Prop) (w:zj) (hr:o7 w B a l) (hB:∀ b,B b→b<w.heap.size) (hl:l.length≤1000000)
 (ck:∀ W x,yw w w W→x∈l→zd prog 182 (#[x.v]++#[zk (some ⟨bm,0,none⟩)]) W fun e w'=>e=ze (zf (se s x))∧yw W.heap.size W w') :
 zd prog 181 #[.slice a l.length c,.func (.func 182) #[] #[zk (some ⟨bm,0,none⟩)],zf true] w fun e w'=>e=ze (.tuple #[yz yx (l.findIdx (se s):Nat),zf (decide (l.findIdx (se s)<l.length))])∧yw w w w':=by
 obtain ⟨n,hn⟩:∃ n,l.length=n:=⟨_,rfl⟩;rw [hn] at hl ⊢;have HN:=yv hn;have HR:=yv hr;have CK:=yv ck;clear hn hr ck;obtain ⟨r,hfr⟩:∃ r,l.findIdx (se s)=r:=⟨_,rfl⟩;rw [hfr];have HF:=yv hfr;clear hfr;obtain ⟨q,hq⟩:∃ q,decide (r<n)=q:=⟨_,rfl⟩;rw [hq];have HQ:=yv hq;clear hq;go_enter func181,ntmps181;go_wp2
 go_loopw [12] (fun i wr=>∃ k:Nat,k≤n∧i=yz yx k∧Hid (∀ j,j<k→(se s) l[j]! = false)∧yw w w wr) (fun i _=>n - (zh i).toNat)
 case atStart=>exact ⟨0,zp _,rfl,yv (fun j hj=>absurd hj (zm _)),zg _ _⟩
 case round =>
  obtain ⟨k,hk,rfl,hnone,hbel⟩:=hrel;by_cases hlt:k<n
  ·have hkl:k<l.length:=by rw [HN.out];exact hlt
   obtain ⟨ad,rfl,hab,q0,q1⟩:=(HR.out.below hB hbel) k hkl;have ck:=fun W hW=>CK.out W _ hW (zq hkl);rw [← o6 hkl] at q0 q1;have ck2:=fun W hW=>(show zd _ _ _ _ _ from by have:=ck W hW;rw [← o6 hkl] at this;exact this);have hyes:=fun h=>mQ (f:=se s) hkl hnone.out h;have hno:=fun h=>jO (f:=se s) (k:=k) hnone.out h;rw [HF.out] at hyes;obtain ⟨x,hx⟩:∃ x,l[k]! = x:=⟨_,rfl⟩;rw [hx] at q0 q1 hyes hno ck2;obtain ⟨nm,id⟩:=x;simp only at q0 q1;have aa:=yv ck2;have HY:=yv hyes;have HO:=yv hno;have ab:=yv (hbel.alloc hbel.size (.cells #[yy nm,yz yx id] 90));clear hx ck ck2 hyes hno hnone hbel;have b0:(0:Int)≤(k:Int):=lf;have b1:(k:Int)<(n:Int):=lf;by_cases he:se s ⟨nm,id⟩=true
   ·have h0:=HY.out (by exact he);subst h0;have e0:q=true:=by rw [← HQ.out];exact decide_eq_true hlt
    subst e0;have aa:=yv (show ∀ W,yw w w W→zd prog 182 #[.agg #[yy nm,yz yx id],zk (some ⟨bm,0,none⟩)] W fun e w'=>e=ze (zf true)∧yw W.heap.size W w' from fun W hW=>by have:=aa.out W hW;rw [he] at this;exact this);clear HY HO he;go_wp2_with (go_at_call 182;refine (aa.out _ ab.out).mono ?_;rintro e w2 ⟨rfl,ac⟩);go_ret2;exact ⟨rfl,ab.out.trans (ac.mono ab.out.size)⟩
   ·have HX:=yv (HO.out (by simpa using he));have he:se s ⟨nm,id⟩=false:=by simpa using he
    have aa:=yv (show ∀ W,yw w w W→zd prog 182 #[.agg #[yy nm,yz yx id],zk (some ⟨bm,0,none⟩)] W fun e w'=>e=ze (zf false)∧yw W.heap.size W w' from fun W hW=>by have:=aa.out W hW;rw [he] at this;exact this);clear HY HO he;go_wp2_with (go_at_call 182;refine (aa.out _ ab.out).mono ?_;rintro e w2 ⟨rfl,ac⟩);go_roundw
    case rel=>exact ⟨k+1,lf,by go_num,HX,ab.out.trans (ac.mono ab.out.size)⟩
    case measure=>simp [zh];omega
  ·obtain rfl:k=n:=lf;have h0:r=k:=by rw [← HF.out,← HN.out];exact pE (by rw [HN.out];exact hnone.out)
   subst h0;have e0:q=false:=by rw [← HQ.out];exact decide_eq_false (zs _)
   subst e0;clear hnone;go_wp2;go_ret2;exact ⟨rfl,hbel⟩
theorem PW {l:List l8} {j:Nat} (h:ry (l[j+1]!).name (l[j]!).name=true):Op.bytesLess (l[j]!).name.toList (l[j+1]!).name.toList=false:=by
 rw [← ngeB] at h;simpa using h
theorem LY {l:List l8} {j:Nat} (h:ry (l[j+1]!).name (l[j]!).name=false):Op.bytesLess (l[j]!).name.toList (l[j+1]!).name.toList=true:=by
 rw [← ngeB] at h;simpa using h
theorem yQ {l:List l8} {t:ByteArray} (h:qm l=false):m9 l t=false:=by
 unfold m9;rw [h,zr,zr]
theorem yO {l:List l8} {t:ByteArray} (h:¬ l.length≤16):m9 l t=false:=by
 unfold m9;rw [decide_eq_false h,Bool.false_and,zr]
set_option maxHeartbeats 1600000 in
theorem AX (a:Option Addr) (l:List l8) (c:Nat) (t:ByteArray) (B:Nat→Prop) (w:zj) (hr:o7 w B a l) (hB:∀ b,B b→b<w.heap.size) (hf:∀ x∈l,x.name.size≤maxLen) (ht:t.size≤maxLen) (hl:l.length≤1000000) :
 zd prog 85 #[.slice a l.length c,yy t] w fun e w'=>e=ze (zf (m9 l t))∧yw w w w':=by
 by_cases h16:l.length≤16
 case neg =>
  rw [yO h16];obtain ⟨n,hn⟩:∃ n,l.length=n:=⟨_,rfl⟩;rw [hn] at h16 ⊢;have h1:(16:Int)<(n:Int):=lf;clear hr hn;go_enter func85,ntmps85;go_wp2;go_ret;exact ⟨rfl,zg _ _⟩
 obtain ⟨n,hn⟩:∃ n,l.length=n:=⟨_,rfl⟩;rw [hn] at h16 ⊢;have HN:=yv hn;have HR:=yv hr;have ag:=yv hf;obtain ⟨r,hfr⟩:∃ r,m9 l t=r:=⟨_,rfl⟩;rw [hfr];have HF:=yv hfr;have h1:¬ (16:Int)<(n:Int):=lf;clear hn hr hf hfr hl;go_enter func85,ntmps85;go_wp2
 go_loopw [12] (fun i wr=>∃ k:Nat,k≤n∧i=yz yx k∧Hid (∀ j,j<k→xf t l[j]! = true)∧Hid (∀ j,j+1<k→ry (l[j+1]!).name (l[j]!).name=false)∧yw w w wr) (fun i _=>n - (zh i).toNat)
 case atStart=>exact ⟨0,zp _,rfl,yv (fun j hj=>absurd hj (zm _)),yv (fun j hj=>absurd hj (zm _)),zg _ _⟩
 case round =>
  obtain ⟨k,hk,rfl,hall,hris,hbel⟩:=hrel;by_cases hlt:k<n
  ·have hkl:k<l.length:=by rw [HN.out];exact hlt
   obtain ⟨ad,rfl,hab,q0,q1⟩:=(HR.out.below hB hbel) k hkl;have hsz:=ag.out _ (zq hkl);rw [← o6 hkl] at q0 q1 hsz;have hyes:=zS (t:=t) hall.out;have hno:=pF (t:=t) hkl;rw [HF.out] at hno;have hok:xf t l[k]! = (ng (l[k]!).name.data.toList && mg t.data.toList (l[k]!).p):=rfl;have HX:=yv (show l[k]! = l[k]! from rfl);obtain ⟨nm,hnm⟩:∃ x,(l[k]!).name=x:=⟨_,rfl⟩;obtain ⟨id,hie⟩:∃ x,(l[k]!).p=x:=⟨_,rfl⟩;rw [hnm] at q0 hsz hok;rw [hie] at q1 hok;have ah:=yv hnm;have c1:=bI nm hsz;have c2:=oM t ht id;have aa:=yv (hbel.alloc hbel.size (.cells #[yy nm,yz yx id] 90));have HY:=yv hyes;have ac:=yv hno;have ab:=yv hok;have b0:(0:Int)≤(k:Int):=lf;have b1:(k:Int)<(n:Int):=lf;clear hyes hno hok hall HX hnm hie hsz;cases m1:ng nm.data.toList
   ·rw [m1] at c1;have h0:=ac.out (by rw [ab.out,m1];rfl);subst h0;have C1:=yv c1;clear c1 c2 m1 ac ab HY hbel;go_wp2_with (go_at_call 106;refine (C1.out _).mono ?_;rintro e w1 ⟨rfl,rfl⟩);go_ret;exact ⟨rfl,aa.out⟩
   ·cases m2:mg t.data.toList id
    ·rw [m1] at c1;rw [m2] at c2;have h0:=ac.out (by rw [ab.out,m1,m2];rfl);subst h0;have C1:=yv c1;have C2:=yv c2;clear c1 c2 m1 m2 ac ab HY hbel;go_wp2_with (first
      | (go_at_call 106;refine (C1.out _).mono ?_;rintro e w1 ⟨rfl,rfl⟩)
      | (go_at_call 107;refine (C2.out _).mono ?_;rintro e w1 ⟨rfl,rfl⟩))
     go_ret;exact ⟨rfl,aa.out⟩
    ·rw [m1] at c1;rw [m2] at c2;have af:=yv (HY.out (by rw [ab.out,m1,m2];rfl));have C1:=yv c1;have C2:=yv c2;clear c1 c2 m1 m2 ac ab HY;cases k with
     | zero =>
      have g0:decide ((0:Int)<0)=false:=rfl;have q2:wr ad=some (yy nm):=by simpa [Addr.add] using q0
      have q3:wr ⟨ad.block,ad.off+1,none⟩=some (yz yx id):=by simpa [Addr.add] using q1
      rw [show ((0:Nat):Int)=0 from rfl];clear hbel q0 q1;go_wp2_with (first
       | (go_at_call 106;refine (C1.out _).mono ?_;rintro e w1 ⟨rfl,rfl⟩)
       | (go_at_call 107;refine (C2.out _).mono ?_;rintro e w1 ⟨rfl,rfl⟩))
      go_quiet (fail);have ae:=aB aa.out nq;generalize (wr.alloc (.cells #[yy nm,yz yx id] 90)).drewN nq=wx at ae ⊢;go_wp2;go_roundw
      case rel=>exact ⟨1,lf,rfl,af,yv (fun j hj=>absurd hj lf),ae⟩
      case measure=>simp [zh];omega
     | succ j =>
      have hjl:j<l.length:=lf;obtain ⟨ad',e',hab',r0,-⟩:=(HR.out.below hB aa.out) j hjl;obtain rfl:ad=ad':=by injection e'
      rw [← o6 hjl] at r0;have hms:=fun h=>tA (l:=l) (k:=j) (fun i hi=>hris.out i hi) h;have hge:=PW (l:=l) (j:=j);have hls:=LY (l:=l) (j:=j);have hof:=fun h=>yQ (t:=t) (vG (l:=l) (i:=j) hkl h);rw [HF.out] at hof;rw [ah.out] at hge hls hof hms;obtain ⟨pn,hpn⟩:∃ x,(l[j]!).name=x:=⟨_,rfl⟩;rw [hpn] at r0 hge hls hof hms;rw [show ((j+1:Nat):Int)=(j:Int)+1 from rfl] at b0 b1 ⊢;have d0:(0:Int)≤(j:Int):=lf;have d1:(j:Int)<(n:Int):=lf;have g0:decide ((0:Int)<(j:Int)+1)=true:=decide_eq_true lf;have g1:(0:Int)<(j:Int)+1:=lf;have e0:((j:Int)+1).toNat=j+1:=lf;have ew:yx.wrap (j:Int)=(j:Int):=by rw [zu];omega
      have ew1:yx.wrap ((j:Int)+1)=(j:Int)+1:=by rw [zu];omega
      cases hle:ry nm pn
      ·have ai:=hls hle;have HM:=yv (hms hle);clear hge hls hof hms hle hbel hpn hris;go_wp2_with (first
        | (go_at_call 106;refine (C1.out _).mono ?_;rintro e w1 ⟨rfl,rfl⟩)
        | (go_at_call 107;refine (C2.out _).mono ?_;rintro e w1 ⟨rfl,rfl⟩))
       go_quiet (fail);have ae:=aB aa.out nq;clear q0 q1 r0;generalize (wr.alloc (.cells #[yy nm,yz yx id] 90)).drewN nq=wx at ae ⊢;go_wp2;go_roundw
       case rel=>exact ⟨j+2,lf,by go_num,af,HM,ae⟩
       case measure=>simp [zh];omega
      ·have ai:=hge hle;have h0:=hof hle;subst h0;clear hge hls hof hms hle hbel hpn hris;go_wp2_with (first
        | (go_at_call 106;refine (C1.out _).mono ?_;rintro e w1 ⟨rfl,rfl⟩)
        | (go_at_call 107;refine (C2.out _).mono ?_;rintro e w1 ⟨rfl,rfl⟩))
       go_quiet (fail);go_wp2;go_ret;exact ⟨rfl,aB aa.out _⟩
  ·obtain rfl:k=n:=lf;have h0:r=true:=by
    rw [← HF.out,aX];exact ⟨fun i hi=>hall.out i (by rw [← HN.out];exact hi),by rw [HN.out];omega,(fK l).2 fun i hi=>hris.out i (by rw [← HN.out];exact hi)⟩
   subst h0;clear hall hris;go_wp2;go_ret;exact ⟨rfl,hbel⟩
end Go.Proofs.YtbagenpobcgjnaaGreat
