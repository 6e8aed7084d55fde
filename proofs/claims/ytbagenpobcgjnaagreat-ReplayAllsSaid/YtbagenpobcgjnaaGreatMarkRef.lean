/-
  MarkRef
-/
import Derived.Test.YtbagenpobcgjnaaGreatJMarkMath
import Derived.Test.YtbagenpobcgjnaaGreatJOpRef
import Derived.Deep.DeepCutAuto
open Go.IntKind renaming i64->yx,wrap_i64->zn
open Go.Lib renaming hid->yv
open Go.RowKit.Below renaming refl->yz
open Nat renaming not_lt_zero->zm,zero_le->zj
namespace Go.Proofs.YtbagenpobcgjnaaGreat
open Go.Proofs.Tryz
set_option maxRecDepth 100000
open Lib (hid)
open Go.RowKit
set_option linter.unusedVariables false
set_option maxHeartbeats 400000 in
theorem fD (a:Option Addr) (l:List l8) (c:Nat) (s:ByteArray) (B:Nat→Prop) (w:World) (hr:o7 w B a l) (hl:l.length≤1000000) :
 Calls prog 74 #[.slice a l.length c,.string s] w fun e w'=>e=.returned (.tuple #[.int yx (tu l s).1,.bool (tu l s).2])∧w=w':=by
 obtain ⟨n,hn⟩:∃ n,l.length=n:=⟨_,rfl⟩;rw [hn] at hl ⊢;have HN:=yv hn;have HR:=yv hr;clear hn hr;obtain ⟨r,hfr⟩:∃ r,tu l s=r:=⟨_,rfl⟩;rw [hfr];have HF:=yv hfr;clear hfr;go_enter func74,ntmps74;go_wp2
 go_loop [6] (fun i=>∃ k:Nat,k≤n∧i=.int yx k∧∀ j,j<k→qo s l[j]! = false) (fun i=>n - (intOf i).toNat)
 case atStart=>exact ⟨0,zj _,rfl,fun j hj=>absurd hj (zm _)⟩
 case round =>
  obtain ⟨k,hk,rfl,hnone⟩:=hrel;by_cases hlt:k<n
  ·have hkl:k<l.length:=by rw [HN.out];exact hlt
   obtain ⟨ad,rfl,hab,q0,q1⟩:=HR.out k hkl;have hs:=QH (s:=s) hkl hnone;have ht:¬ (l[k]!).name=s→qo s l[k]! = false:=fun h=>by unfold qo;exact decide_eq_false h
   have hx:=o6 hkl;rw [← hx] at q0 q1;obtain ⟨x,hx⟩:∃ x,l[k]! = x:=⟨_,rfl⟩;rw [hx] at q0 q1 hs ht;obtain ⟨nm,id⟩:=x;simp only at q0 q1 hs ht;have b0:(0:Int)≤(k:Int):=lf;have b1:(k:Int)<(n:Int):=lf;by_cases he:nm=s
   ·subst he;have aa:=hs rfl;rw [HF.out] at aa;subst aa;clear ht hs hnone hx;go_wp2;go_ret2;exact ⟨rfl,rfl⟩
   ·have hne:=dG he;have HT:=yv (jO hnone (by rw [hx];exact ht he));clear ht hs hnone he hx;go_wp2
    go_round
    case rel=>exact ⟨k+1,lf,by go_num,HT.out⟩
    case measure=>simp [intOf];omega
  ·obtain rfl:k=n:=lf;have h0:r=(0,false):=by
    rw [← HF.out];exact RB (by rw [HN.out];exact hnone)
   subst h0;clear hnone;go_wp2;go_ret2;exact ⟨rfl,rfl⟩
set_option maxHeartbeats 800000 in
theorem xW (a:Option Addr) (l:List l8) (c:Nat) (B:Nat→Prop) (w:World) (hr:o7 w B a l) (hB:∀ b,B b→b<w.heap.size) (hl:l.length≤1000000) :
 Calls prog 67 #[.slice a l.length c] w fun e w'=>e=.returned (.bool (qm l))∧Below w w w':=by
 obtain ⟨n,hn⟩:∃ n,l.length=n:=⟨_,rfl⟩;rw [hn] at hl ⊢;have HN:=yv hn;have HR:=yv hr;clear hn hr;obtain ⟨r,hfr⟩:∃ r,qm l=r:=⟨_,rfl⟩;rw [hfr];have HF:=yv hfr;clear hfr;go_enter func67,ntmps67;go_wp2
 go_loopw [3] (fun i wr=>∃ k:Nat,(k<n∨k=0)∧i=.int yx ((k:Int)+1)∧(∀ j,j+1<k+1→ry (l[j+1]!).name (l[j]!).name=false)∧Below w w wr) (fun i _=>n - (intOf i).toNat)
 case atStart=>exact ⟨0,.inr rfl,rfl,fun j hj=>absurd hj lf,yz _ _⟩
 case round =>
  obtain ⟨k,hk,rfl,hall,hbel⟩:=hrel;by_cases hlt:k+1<n
  ·have hkl:k+1<l.length:=by rw [HN.out];exact hlt
   have aa:k<l.length:=lf;obtain ⟨ad,rfl,hab,q0,-⟩:=(HR.out.below hB hbel) (k+1) hkl;obtain ⟨ad',e',hab',r0,-⟩:=(HR.out.below hB hbel) k aa;obtain rfl:ad=ad':=by injection e'
   rw [← o6 hkl] at q0;rw [← o6 aa] at r0;have hyes:=tA (l:=l) (k:=k) hall;have hno:=vG (l:=l) (i:=k) hkl;obtain ⟨y,hy⟩:∃ y,(l[k+1]!).name=y:=⟨_,rfl⟩;obtain ⟨x,hx⟩:∃ x,(l[k]!).name=x:=⟨_,rfl⟩;rw [hy] at q0 hyes hno;rw [hx] at r0 hyes hno;clear hall hy hx e';have b0:(0:Int)≤(k:Int):=lf;have b1:(k:Int)<(n:Int):=lf;have b2:(k:Int)+1<(n:Int):=lf;have b3:(0:Int)≤(k:Int)+1:=lf;have e0:((k:Int)+1).toNat=k+1:=lf;have ew:yx.wrap (k:Int)=(k:Int):=by rw [zn];omega
   have ew1:yx.wrap ((k:Int)+1)=(k:Int)+1:=by rw [zn];omega
   cases hle:ry y x
   ·obtain ⟨g1,g2⟩:=oE hle;have HY:=yv (hyes hle);clear hyes hno hle;go_wp2_with fail;go_quiet (fail);have ab:=aB hbel nq;clear hbel q0 r0;generalize wr.drewN nq=wx at ab ⊢;go_wp2;go_roundw
    case rel=>exact ⟨k+1,.inl hlt,by go_num,HY.out,ab⟩
    case measure=>simp [intOf];omega
   ·have h0:=hno hle;rw [HF.out] at h0;subst h0;clear hyes hno;rcases jT hle with g|g
    ·clear hle;go_wp2_with fail;go_quiet (fail);go_wp2;go_ret;exact ⟨rfl,aB hbel _⟩
    ·subst g;clear hle;go_wp2_with fail;go_quiet (fail);go_wp2;go_ret;exact ⟨rfl,aB hbel _⟩
  ·have h0:r=true:=by
    rw [← HF.out,fK];intro i hi;rw [HN.out] at hi;exact hall i lf
   subst h0;clear hall;go_wp2;go_ret;exact ⟨rfl,hbel⟩
set_option maxHeartbeats 400000 in
theorem bS (s:ByteArray) (hs:s.size≤maxLen) (w:World) :
 Calls prog 63 #[.string s] w fun e w'=>e=.returned (.bool (ng s.data.toList))∧w=w':=by
 unfold maxLen at hs;obtain ⟨r,hr⟩:∃ r,ng s.data.toList=r:=⟨_,rfl⟩;rw [hr];have HR:=yv hr;clear hr;go_enter func63,ntmps63;go_wp2
 go_loop [3] (fun i=>∃ k:Nat,k≤s.size∧i=.int yx k∧(s.data.toList.take k).all vf=true) (fun i=>s.size - (intOf i).toNat)
 case atStart=>exact ⟨0,zj _,rfl,rfl⟩
 case round =>
  obtain ⟨k,hk,rfl,hall⟩:=hrel;have HA:=yv hall;clear hall;by_cases hlt:k<s.size
  ·have aa:=s[k].toNat_lt;by_cases g1:97≤s[k].toNat
   ·by_cases g2:s[k].toNat≤122
    ·have h2:=yv (xF hlt HA.out g1 g2);go_wp2
     go_round
     case rel=>exact ⟨k+1,lf,by go_num,h2.out⟩
     case measure=>simp [intOf];omega
    ·have h2:=yv (mS hlt (.inr lf));have g2':122<s[k].toNat:=lf;go_wp2;go_ret;exact ⟨aN (by rw [← HR.out,h2.out]),rfl⟩
   ·have h2:=yv (mS hlt (.inl lf));have g1':s[k].toNat<97:=lf;go_wp2;go_ret;exact ⟨aN (by rw [← HR.out,h2.out]),rfl⟩
  ·obtain rfl:k=s.size:=lf;have h2:=yv (zY HA.out);by_cases z1:1≤s.size
   ·by_cases z2:s.size≤8
    ·have z0:0<s.size:=lf;go_wp2;go_ret;exact ⟨aN (by rw [← HR.out,h2.out,decide_eq_true z1,Bool.true_and];exact decide_eq_decide.2 lf),rfl⟩
    ·have z0:0<s.size:=lf;have z3:8<s.size:=lf;go_wp2;go_ret;exact ⟨aN (by rw [← HR.out,h2.out,decide_eq_true z1,Bool.true_and];exact decide_eq_decide.2 lf),rfl⟩
   ·have z0:s.size=0:=lf;have z3:s.size<1:=lf;go_wp2;go_ret;exact ⟨aN (by rw [← HR.out,h2.out,decide_eq_false z1,Bool.false_and]),rfl⟩
set_option maxHeartbeats 1600000 in
theorem vT (a:Option Addr) (l:List l8) (c:Nat) (t:ByteArray) (B:Nat→Prop) (w:World) (hr:o7 w B a l) (hB:∀ b,B b→b<w.heap.size) (hl:l.length≤1000000) (hf:∀ x∈l,x.name.size≤maxLen) (ht:t.size≤4294967296) :
 Calls prog 38 #[.slice a l.length c,.string t] w fun e w'=>e=.returned (.bool (m9 l t))∧Below w w w':=by
 have cr:=xW a l c B w hr hB hl;obtain ⟨n,hn⟩:∃ n,l.length=n:=⟨_,rfl⟩;rw [hn] at hl cr ⊢;have HN:=yv hn;have HR:=yv hr;have CR:=yv cr;have aa:=yv hf;clear hn hr cr hf;obtain ⟨r,hfr⟩:∃ r,m9 l t=r:=⟨_,rfl⟩;rw [hfr];have HF:=yv hfr;clear hfr;go_enter func38,ntmps38;go_wp2
 go_loop [5] (fun i=>∃ k:Nat,k≤n∧i=.int yx k∧∀ j,j<k→xf t l[j]! = true) (fun i=>n - (intOf i).toNat)
 case atStart=>exact ⟨0,zj _,rfl,fun j hj=>absurd hj (zm _)⟩
 case round =>
  obtain ⟨k,hk,rfl,hall⟩:=hrel;by_cases hlt:k<n
  ·have hkl:k<l.length:=by rw [HN.out];exact hlt
   obtain ⟨ad,rfl,hab,q0,q1⟩:=HR.out k hkl;have hsz:=aa.out _ (List.getElem_mem hkl);rw [← o6 hkl] at q0 q1 hsz;have hyes:=zS (t:=t) hall;have hno:=pF (t:=t) hkl;unfold xf at hno;have hok:xf t l[k]! = (ng (l[k]!).name.data.toList && mg t.data.toList (l[k]!).p):=rfl;obtain ⟨x,hx⟩:∃ x,l[k]! = x:=⟨_,rfl⟩;rw [hx] at q0 q1 hsz hyes hno hok;obtain ⟨nm,id⟩:=x;simp only at q0 q1 hsz hyes hno hok;have c1:=bS nm hsz;have c2:=bO t ln id;clear hall hx;have b0:(0:Int)≤(k:Int):=lf;have b1:(k:Int)<(n:Int):=lf;cases h1:ng nm.data.toList
   ·rw [h1] at c1 hno;have h0:=hno rfl;rw [HF.out] at h0;subst h0;have C1:=yv c1;clear hyes hno hok c1 c2 h1;go_wp2_with (first
     | (go_at_call 63;refine (C1.out _).mono ?_;rintro e w1 ⟨rfl,rfl⟩))
    go_ret;exact ⟨rfl,yz _ _⟩
   ·cases h2:mg t.data.toList id
    ·rw [h1] at c1 hno;rw [h2] at c2 hno;have h0:=hno rfl;rw [HF.out] at h0;subst h0;have C1:=yv c1;have C2:=yv c2;clear hyes hno hok c1 c2 h1 h2;go_wp2_with (first
      | (go_at_call 63;refine (C1.out _).mono ?_;rintro e w1 ⟨rfl,rfl⟩)
      | (go_at_call 66;refine (C2.out _).mono ?_;rintro e w1 ⟨rfl,rfl⟩))
     go_ret;exact ⟨rfl,yz _ _⟩
    ·rw [h1] at c1 hok;rw [h2] at c2 hok;have HY:=yv (hyes hok);have C1:=yv c1;have C2:=yv c2;clear hyes hno hok c1 c2 h1 h2;go_wp2_with (first
      | (go_at_call 63;refine (C1.out _).mono ?_;rintro e w1 ⟨rfl,rfl⟩)
      | (go_at_call 66;refine (C2.out _).mono ?_;rintro e w1 ⟨rfl,rfl⟩))
     go_round
     case rel=>exact ⟨k+1,lf,by go_num,HY.out⟩
     case measure=>simp [intOf];omega
  ·obtain rfl:k=n:=lf;have h0:=BD (t:=t) (by rw [HN.out];exact hall);rw [HF.out,HN.out] at h0;clear hall;by_cases h16:k≤16
   ·have h1:r=qm l:=by rw [h0,decide_eq_true h16];rfl
    subst h1;clear h0;go_wp2_with (first
     | (go_at_call 67;refine CR.out.mono ?_;rintro e w1 ⟨rfl,ab⟩))
    go_ret;exact ⟨rfl,ab⟩
   ·have h1:r=false:=by rw [h0,decide_eq_false h16];rfl
    subst h1;clear h0;have h16':16<k:=lf;go_wp2;go_ret;exact ⟨rfl,yz _ _⟩
set_option maxHeartbeats 800000 in
theorem xV (a b:Option Addr) (la lb:List l8) (c d:Nat) (Ba Bb:Nat→Prop) (w:World) (ha:o7 w Ba a la) (hb:o7 w Bb b lb) (hA:∀ b,Ba b→b<w.heap.size) (hB:∀ b,Bb b→b<w.heap.size) (hl:la.length≤1000000) (hl2:lb.length≤1000000) :
 Calls prog 23 #[.slice a la.length c,.slice b lb.length d] w fun e w'=>e=.returned (.bool (decide (la=lb)))∧Below w w w':=by
 by_cases hne:la.length=lb.length
 case neg =>
  have h0:decide (la=lb)=false:=decide_eq_false fun e=>hne (by rw [e]);rw [h0];obtain ⟨n,hn⟩:∃ n,la.length=n:=⟨_,rfl⟩;obtain ⟨m,hm⟩:∃ n,lb.length=n:=⟨_,rfl⟩;rw [hn] at hl hne ⊢;rw [hm] at hl2 hne ⊢;clear hn hm ha hb;have ac:¬ (n:Int)=(m:Int):=lf;go_enter func23,ntmps23;go_wp2;go_ret;exact ⟨rfl,yz _ _⟩
 obtain ⟨n,hn⟩:∃ n,la.length=n:=⟨_,rfl⟩;rw [← hne,hn];rw [hn] at hl;have HN:=yv hn;have HR:=yv ha;have HS:=yv hb;have HE:=yv hne;clear hn ha hb hl2 hne;obtain ⟨r,hfr⟩:∃ r,decide (la=lb)=r:=⟨_,rfl⟩;rw [hfr];have HF:=yv hfr;clear hfr;go_enter func23,ntmps23;go_wp2
 go_loopw [5] (fun i wr=>∃ k:Nat,k≤n∧i=.int yx k∧(∀ j,j<k→la[j]! = lb[j]!)∧Below w w wr) (fun i _=>n - (intOf i).toNat)
 case atStart=>exact ⟨0,zj _,rfl,fun j hj=>absurd hj (zm _),yz _ _⟩
 case round =>
  obtain ⟨k,hk,rfl,hall,hbel⟩:=hrel;by_cases hlt:k<n
  ·have hkl:k<la.length:=by rw [HN.out];exact hlt
   have aa:k<lb.length:=by rw [← HE.out];exact hkl
   obtain ⟨ad,rfl,hab,q0,q1⟩:=(HR.out.below hA hbel) k hkl;obtain ⟨bd,rfl,hbb,r0,r1⟩:=(HS.out.below hB hbel) k aa;rw [← o6 hkl] at q0 q1;rw [← o6 aa] at r0 r1;have hyes:=IP (a:=la) (b:=lb) hall;have hno:¬ la[k]! = lb[k]! → decide (la=lb)=false:=fun h=>decide_eq_false fun e=>h (by rw [e]);obtain ⟨x,hx⟩:∃ x,la[k]! = x:=⟨_,rfl⟩;obtain ⟨y,hy⟩:∃ x,lb[k]! = x:=⟨_,rfl⟩;rw [hx] at q0 q1 hyes hno;rw [hy] at r0 r1 hyes hno;clear hall hx hy;have b0:(0:Int)≤(k:Int):=lf;have b1:(k:Int)<(n:Int):=lf;by_cases he:x=y
   ·subst he;have HY:=yv (hyes rfl);obtain ⟨nm,id⟩:=x;simp only at q0 q1 r0 r1;clear hyes hno;go_wp2_with fail;go_quiet (fail);have ab:=aB hbel nq;clear hbel q0 q1 r0 r1;generalize wr.drewN nq=wx at ab ⊢;go_wp2;go_roundw
    case rel=>exact ⟨k+1,lf,by go_num,HY.out,ab⟩
    case measure=>simp [intOf];omega
   ·have h0:=hno he;rw [HF.out] at h0;subst h0;have hp:=RP he;obtain ⟨nm,id⟩:=x;obtain ⟨nm2,id2⟩:=y;simp only at q0 q1 r0 r1 hp;clear hyes hno he;rcases hp with g|⟨rfl,g⟩
    ·have g1:=dG g;clear g;go_wp2_with fail;go_quiet (fail);go_wp2;go_ret;exact ⟨rfl,aB hbel _⟩
    ·have g1:(id == id2)=false:=beq_eq_false_iff_ne.2 g;go_wp2_with fail;go_quiet (fail);go_wp2;go_ret;exact ⟨rfl,aB hbel _⟩
  ·obtain rfl:k=n:=lf;have h0:r=true:=by
    rw [← HF.out];exact decide_eq_true (OI HE.out (by rw [HN.out];exact hall))
   subst h0;clear hall;go_wp2;go_ret;exact ⟨rfl,hbel⟩
end Go.Proofs.YtbagenpobcgjnaaGreat
