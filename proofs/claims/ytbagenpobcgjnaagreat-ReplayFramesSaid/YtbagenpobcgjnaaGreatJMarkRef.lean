/-
  Joined: MarkRef, KnotRef, ChunkGoto, MrkCat.
-/
import Derived.Test.YtbagenpobcgjnaaGreatJMarkMath
import Derived.Test.YtbagenpobcgjnaaGreatJOpRef
import Derived.Deep.DeepCutAuto
import Derived.Test.YtbagenpobcgjnaaGreatJOpenOps
import Derived.Test.YtbagenpobcgjnaaGreatJChunkCut
import Derived.Test.YtbagenpobcgjnaaGreatMrkShelf
import Derived.Laws.AppendOwnNone
open Go renaming Addr->zx,Calls->zq,World->zn,wpList_append_own->Ab
open Go.Ending renaming returned->zv
open Go.IntKind renaming i64->zt,wrap_i64->Ag
open Go.Lib renaming hid->zk
open Go.RowKit renaming Below->zp,intOf->zo
open Go.RowKit.Below renaming refl->zw
open Go.Value renaming bool->zz,int->zy,slice->zm,string->zr
open Nat renaming le_refl->Ad,le_trans->zu,lt_or_ge->Ai,not_lt_zero->Af,zero_le->Aa
namespace Go.Proofs.YtbagenpobcgjnaaGreat
open Go.Proofs.Tryz
set_option maxRecDepth 100000
open Lib (hid)
open Go.RowKit
set_option linter.unusedVariables false
set_option maxHeartbeats 400000 in
theorem fO (a:Option zx) (l:List l9) (c:Nat) (s:ByteArray) (B:Nat→Prop) (w:zn) (hr:o4 w B a l) (hl:l.length≤1000000) :
 zq prog 74 #[zm a l.length c,zr s] w fun e w'=>e=zv (.tuple #[zy zt (uq l s).1,zz (uq l s).2])∧w=w':=by
 obtain ⟨n,hn⟩:∃ n,l.length=n:=⟨_,rfl⟩;rw [hn] at hl ⊢;have HN:=zk hn;have HR:=zk hr;clear hn hr;obtain ⟨r,hfr⟩:∃ r,uq l s=r:=⟨_,rfl⟩;rw [hfr];have HF:=zk hfr;clear hfr;go_enter func74,ntmps74;go_wp2
 go_loop [6] (fun i=>∃ k:Nat,k≤n∧i=zy zt k∧∀ j,j<k→qq s l[j]! = false) (fun i=>n - (zo i).toNat)
 case atStart=>exact ⟨0,Aa _,rfl,fun j hj=>absurd hj (Af _)⟩
 case round =>
  obtain ⟨k,hk,rfl,hnone⟩:=hrel;by_cases hlt:k<n
  ·have hkl:k<l.length:=by rw [HN.out];exact hlt
   obtain ⟨ad,rfl,hab,q0,q1⟩:=HR.out k hkl;have hs:=SA (s:=s) hkl hnone;have ht:¬ (l[k]!).name=s→qq s l[k]! = false:=fun h=>by unfold qq;exact decide_eq_false h
   have hx:=o3 hkl;rw [← hx] at q0 q1;obtain ⟨x,hx⟩:∃ x,l[k]! = x:=⟨_,rfl⟩;rw [hx] at q0 q1 hs ht;obtain ⟨nm,id⟩:=x;simp only at q0 q1 hs ht;have b0:(0:Int)≤(k:Int):=lg;have b1:(k:Int)<(n:Int):=lg;by_cases he:nm=s
   ·subst he;have aa:=hs rfl;rw [HF.out] at aa;subst aa;clear ht hs hnone hx;go_wp2;go_ret2;exact ⟨rfl,rfl⟩
   ·have hne:=dQ he;have HT:=zk (jW hnone (by rw [hx];exact ht he));clear ht hs hnone he hx;go_wp2
    go_round
    case rel=>exact ⟨k+1,lg,by go_num,HT.out⟩
    case measure=>simp [zo];omega
  ·obtain rfl:k=n:=lg;have h0:r=(0,false):=by
    rw [← HF.out];exact UN (by rw [HN.out];exact hnone)
   subst h0;clear hnone;go_wp2;go_ret2;exact ⟨rfl,rfl⟩
set_option maxHeartbeats 800000 in
theorem AA (a:Option zx) (l:List l9) (c:Nat) (B:Nat→Prop) (w:zn) (hr:o4 w B a l) (hB:∀ b,B b→b<w.heap.size) (hl:l.length≤1000000) :
 zq prog 67 #[zm a l.length c] w fun e w'=>e=zv (zz (qp l))∧zp w w w':=by
 obtain ⟨n,hn⟩:∃ n,l.length=n:=⟨_,rfl⟩;rw [hn] at hl ⊢;have HN:=zk hn;have HR:=zk hr;clear hn hr;obtain ⟨r,hfr⟩:∃ r,qp l=r:=⟨_,rfl⟩;rw [hfr];have HF:=zk hfr;clear hfr;go_enter func67,ntmps67;go_wp2
 go_loopw [3] (fun i wr=>∃ k:Nat,(k<n∨k=0)∧i=zy zt ((k:Int)+1)∧(∀ j,j+1<k+1→rz (l[j+1]!).name (l[j]!).name=false)∧zp w w wr) (fun i _=>n - (zo i).toNat)
 case atStart=>exact ⟨0,.inr rfl,rfl,fun j hj=>absurd hj lg,zw _ _⟩
 case round =>
  obtain ⟨k,hk,rfl,hall,hbel⟩:=hrel;by_cases hlt:k+1<n
  ·have hkl:k+1<l.length:=by rw [HN.out];exact hlt
   have aa:k<l.length:=lg;obtain ⟨ad,rfl,hab,q0,-⟩:=(HR.out.below hB hbel) (k+1) hkl;obtain ⟨ad',e',hab',r0,-⟩:=(HR.out.below hB hbel) k aa;obtain rfl:ad=ad':=by injection e'
   rw [← o3 hkl] at q0;rw [← o3 aa] at r0;have hyes:=sH (l:=l) (k:=k) hall;have hno:=yV (l:=l) (i:=k) hkl;obtain ⟨y,hy⟩:∃ y,(l[k+1]!).name=y:=⟨_,rfl⟩;obtain ⟨x,hx⟩:∃ x,(l[k]!).name=x:=⟨_,rfl⟩;rw [hy] at q0 hyes hno;rw [hx] at r0 hyes hno;clear hall hy hx e';have b0:(0:Int)≤(k:Int):=lg;have b1:(k:Int)<(n:Int):=lg;have b2:(k:Int)+1<(n:Int):=lg;have b3:(0:Int)≤(k:Int)+1:=lg;have e0:((k:Int)+1).toNat=k+1:=lg;have ew:zt.wrap (k:Int)=(k:Int):=by rw [Ag];omega
   have ew1:zt.wrap ((k:Int)+1)=(k:Int)+1:=by rw [Ag];omega
   cases hle:rz y x
   ·obtain ⟨g1,g2⟩:=oV hle;have HY:=zk (hyes hle);clear hyes hno hle;go_wp2_with fail;go_quiet (fail);have ab:=aC hbel nq;clear hbel q0 r0;generalize wr.drewN nq=wx at ab ⊢;go_wp2;go_roundw
    case rel=>exact ⟨k+1,.inl hlt,by go_num,HY.out,ab⟩
    case measure=>simp [zo];omega
   ·have h0:=hno hle;rw [HF.out] at h0;subst h0;clear hyes hno;rcases lH hle with g|g
    ·clear hle;go_wp2_with fail;go_quiet (fail);go_wp2;go_ret;exact ⟨rfl,aC hbel _⟩
    ·subst g;clear hle;go_wp2_with fail;go_quiet (fail);go_wp2;go_ret;exact ⟨rfl,aC hbel _⟩
  ·have h0:r=true:=by
    rw [← HF.out,fV];intro i hi;rw [HN.out] at hi;exact hall i lg
   subst h0;clear hall;go_wp2;go_ret;exact ⟨rfl,hbel⟩
set_option maxHeartbeats 400000 in
theorem bQ (s:ByteArray) (hs:s.size≤maxLen) (w:zn) :
 zq prog 63 #[zr s] w fun e w'=>e=zv (zz (mv s.data.toList))∧w=w':=by
 unfold maxLen at hs;obtain ⟨r,hr⟩:∃ r,mv s.data.toList=r:=⟨_,rfl⟩;rw [hr];have HR:=zk hr;clear hr;go_enter func63,ntmps63;go_wp2
 go_loop [3] (fun i=>∃ k:Nat,k≤s.size∧i=zy zt k∧(s.data.toList.take k).all vm=true) (fun i=>s.size - (zo i).toNat)
 case atStart=>exact ⟨0,Aa _,rfl,rfl⟩
 case round =>
  obtain ⟨k,hk,rfl,hall⟩:=hrel;have HA:=zk hall;clear hall;by_cases hlt:k<s.size
  ·have aa:=s[k].toNat_lt;by_cases g1:97≤s[k].toNat
   ·by_cases g2:s[k].toNat≤122
    ·have h2:=zk (pJ hlt HA.out g1 g2);go_wp2
     go_round
     case rel=>exact ⟨k+1,lg,by go_num,h2.out⟩
     case measure=>simp [zo];omega
    ·have h2:=zk (gW hlt (.inr lg));have g2':122<s[k].toNat:=lg;go_wp2;go_ret;exact ⟨aA (by rw [← HR.out,h2.out]),rfl⟩
   ·have h2:=zk (gW hlt (.inl lg));have g1':s[k].toNat<97:=lg;go_wp2;go_ret;exact ⟨aA (by rw [← HR.out,h2.out]),rfl⟩
  ·obtain rfl:k=s.size:=lg;have h2:=zk (rR HA.out);by_cases z1:1≤s.size
   ·by_cases z2:s.size≤8
    ·have z0:0<s.size:=lg;go_wp2;go_ret;exact ⟨aA (by rw [← HR.out,h2.out,decide_eq_true z1,Bool.true_and];exact decide_eq_decide.2 lg),rfl⟩
    ·have z0:0<s.size:=lg;have z3:8<s.size:=lg;go_wp2;go_ret;exact ⟨aA (by rw [← HR.out,h2.out,decide_eq_true z1,Bool.true_and];exact decide_eq_decide.2 lg),rfl⟩
   ·have z0:s.size=0:=lg;have z3:s.size<1:=lg;go_wp2;go_ret;exact ⟨aA (by rw [← HR.out,h2.out,decide_eq_false z1,Bool.false_and]),rfl⟩
set_option maxHeartbeats 1600000 in
theorem xK (a:Option zx) (l:List l9) (c:Nat) (t:ByteArray) (B:Nat→Prop) (w:zn) (hr:o4 w B a l) (hB:∀ b,B b→b<w.heap.size) (hl:l.length≤1000000) (hf:∀ x∈l,x.name.size≤maxLen) (ht:t.size≤4294967296) :
 zq prog 38 #[zm a l.length c,zr t] w fun e w'=>e=zv (zz (nf l t))∧zp w w w':=by
 have cr:=AA a l c B w hr hB hl;obtain ⟨n,hn⟩:∃ n,l.length=n:=⟨_,rfl⟩;rw [hn] at hl cr ⊢;have HN:=zk hn;have HR:=zk hr;have CR:=zk cr;have aa:=zk hf;clear hn hr cr hf;obtain ⟨r,hfr⟩:∃ r,nf l t=r:=⟨_,rfl⟩;rw [hfr];have HF:=zk hfr;clear hfr;go_enter func38,ntmps38;go_wp2
 go_loop [5] (fun i=>∃ k:Nat,k≤n∧i=zy zt k∧∀ j,j<k→xw t l[j]! = true) (fun i=>n - (zo i).toNat)
 case atStart=>exact ⟨0,Aa _,rfl,fun j hj=>absurd hj (Af _)⟩
 case round =>
  obtain ⟨k,hk,rfl,hall⟩:=hrel;by_cases hlt:k<n
  ·have hkl:k<l.length:=by rw [HN.out];exact hlt
   obtain ⟨ad,rfl,hab,q0,q1⟩:=HR.out k hkl;have hsz:=aa.out _ (List.getElem_mem hkl);rw [← o3 hkl] at q0 q1 hsz;have hyes:=BZ (t:=t) hall;have hno:=qR (t:=t) hkl;unfold xw at hno;have hok:xw t l[k]! = (mv (l[k]!).name.data.toList && me t.data.toList (l[k]!).p):=rfl;obtain ⟨x,hx⟩:∃ x,l[k]! = x:=⟨_,rfl⟩;rw [hx] at q0 q1 hsz hyes hno hok;obtain ⟨nm,id⟩:=x;simp only at q0 q1 hsz hyes hno hok;have c1:=bQ nm hsz;have c2:=bV t lq id;clear hall hx;have b0:(0:Int)≤(k:Int):=lg;have b1:(k:Int)<(n:Int):=lg;cases h1:mv nm.data.toList
   ·rw [h1] at c1 hno;have h0:=hno rfl;rw [HF.out] at h0;subst h0;have C1:=zk c1;clear hyes hno hok c1 c2 h1;go_wp2_with (first
     | (go_at_call 63;refine (C1.out _).mono ?_;rintro e w1 ⟨rfl,rfl⟩))
    go_ret;exact ⟨rfl,zw _ _⟩
   ·cases h2:me t.data.toList id
    ·rw [h1] at c1 hno;rw [h2] at c2 hno;have h0:=hno rfl;rw [HF.out] at h0;subst h0;have C1:=zk c1;have C2:=zk c2;clear hyes hno hok c1 c2 h1 h2;go_wp2_with (first
      | (go_at_call 63;refine (C1.out _).mono ?_;rintro e w1 ⟨rfl,rfl⟩)
      | (go_at_call 66;refine (C2.out _).mono ?_;rintro e w1 ⟨rfl,rfl⟩))
     go_ret;exact ⟨rfl,zw _ _⟩
    ·rw [h1] at c1 hok;rw [h2] at c2 hok;have HY:=zk (hyes hok);have C1:=zk c1;have C2:=zk c2;clear hyes hno hok c1 c2 h1 h2;go_wp2_with (first
      | (go_at_call 63;refine (C1.out _).mono ?_;rintro e w1 ⟨rfl,rfl⟩)
      | (go_at_call 66;refine (C2.out _).mono ?_;rintro e w1 ⟨rfl,rfl⟩))
     go_round
     case rel=>exact ⟨k+1,lg,by go_num,HY.out⟩
     case measure=>simp [zo];omega
  ·obtain rfl:k=n:=lg;have h0:=DT (t:=t) (by rw [HN.out];exact hall);rw [HF.out,HN.out] at h0;clear hall;by_cases h16:k≤16
   ·have h1:r=qp l:=by rw [h0,decide_eq_true h16];rfl
    subst h1;clear h0;go_wp2_with (first
     | (go_at_call 67;refine CR.out.mono ?_;rintro e w1 ⟨rfl,ab⟩))
    go_ret;exact ⟨rfl,ab⟩
   ·have h1:r=false:=by rw [h0,decide_eq_false h16];rfl
    subst h1;clear h0;have h16':16<k:=lg;go_wp2;go_ret;exact ⟨rfl,zw _ _⟩
set_option maxHeartbeats 800000 in
theorem zX (a b:Option zx) (la lb:List l9) (c d:Nat) (Ba Bb:Nat→Prop) (w:zn) (ha:o4 w Ba a la) (hb:o4 w Bb b lb) (hA:∀ b,Ba b→b<w.heap.size) (hB:∀ b,Bb b→b<w.heap.size) (hl:la.length≤1000000) (hl2:lb.length≤1000000) :
 zq prog 23 #[zm a la.length c,zm b lb.length d] w fun e w'=>e=zv (zz (decide (la=lb)))∧zp w w w':=by
 by_cases hne:la.length=lb.length
 case neg =>
  have h0:decide (la=lb)=false:=decide_eq_false fun e=>hne (by rw [e]);rw [h0];obtain ⟨n,hn⟩:∃ n,la.length=n:=⟨_,rfl⟩;obtain ⟨m,hm⟩:∃ n,lb.length=n:=⟨_,rfl⟩;rw [hn] at hl hne ⊢;rw [hm] at hl2 hne ⊢;clear hn hm ha hb;have ac:¬ (n:Int)=(m:Int):=lg;go_enter func23,ntmps23;go_wp2;go_ret;exact ⟨rfl,zw _ _⟩
 obtain ⟨n,hn⟩:∃ n,la.length=n:=⟨_,rfl⟩;rw [← hne,hn];rw [hn] at hl;have HN:=zk hn;have HR:=zk ha;have HS:=zk hb;have HE:=zk hne;clear hn ha hb hl2 hne;obtain ⟨r,hfr⟩:∃ r,decide (la=lb)=r:=⟨_,rfl⟩;rw [hfr];have HF:=zk hfr;clear hfr;go_enter func23,ntmps23;go_wp2
 go_loopw [5] (fun i wr=>∃ k:Nat,k≤n∧i=zy zt k∧(∀ j,j<k→la[j]! = lb[j]!)∧zp w w wr) (fun i _=>n - (zo i).toNat)
 case atStart=>exact ⟨0,Aa _,rfl,fun j hj=>absurd hj (Af _),zw _ _⟩
 case round =>
  obtain ⟨k,hk,rfl,hall,hbel⟩:=hrel;by_cases hlt:k<n
  ·have hkl:k<la.length:=by rw [HN.out];exact hlt
   have aa:k<lb.length:=by rw [← HE.out];exact hkl
   obtain ⟨ad,rfl,hab,q0,q1⟩:=(HR.out.below hA hbel) k hkl;obtain ⟨bd,rfl,hbb,r0,r1⟩:=(HS.out.below hB hbel) k aa;rw [← o3 hkl] at q0 q1;rw [← o3 aa] at r0 r1;have hyes:=IC (a:=la) (b:=lb) hall;have hno:¬ la[k]! = lb[k]! → decide (la=lb)=false:=fun h=>decide_eq_false fun e=>h (by rw [e]);obtain ⟨x,hx⟩:∃ x,la[k]! = x:=⟨_,rfl⟩;obtain ⟨y,hy⟩:∃ x,lb[k]! = x:=⟨_,rfl⟩;rw [hx] at q0 q1 hyes hno;rw [hy] at r0 r1 hyes hno;clear hall hx hy;have b0:(0:Int)≤(k:Int):=lg;have b1:(k:Int)<(n:Int):=lg;by_cases he:x=y
   ·subst he;have HY:=zk (hyes rfl);obtain ⟨nm,id⟩:=x;simp only at q0 q1 r0 r1;clear hyes hno;go_wp2_with fail;go_quiet (fail);have ab:=aC hbel nq;clear hbel q0 q1 r0 r1;generalize wr.drewN nq=wx at ab ⊢;go_wp2;go_roundw
    case rel=>exact ⟨k+1,lg,by go_num,HY.out,ab⟩
    case measure=>simp [zo];omega
   ·have h0:=hno he;rw [HF.out] at h0;subst h0;have hp:=UM he;obtain ⟨nm,id⟩:=x;obtain ⟨nm2,id2⟩:=y;simp only at q0 q1 r0 r1 hp;clear hyes hno he;rcases hp with g|⟨rfl,g⟩
    ·have g1:=dQ g;clear g;go_wp2_with fail;go_quiet (fail);go_wp2;go_ret;exact ⟨rfl,aC hbel _⟩
    ·have g1:(id == id2)=false:=beq_eq_false_iff_ne.2 g;go_wp2_with fail;go_quiet (fail);go_wp2;go_ret;exact ⟨rfl,aC hbel _⟩
  ·obtain rfl:k=n:=lg;have h0:r=true:=by
    rw [← HF.out];exact decide_eq_true (OY HE.out (by rw [HN.out];exact hall))
   subst h0;clear hall;go_wp2;go_ret;exact ⟨rfl,hbel⟩
theorem eY (v:Value) (h:v.oneCell'=true):∀ u∈[v],u.oneCell'=true:=by intro u hu;simp at hu;subst hu;exact h
theorem KG (n:Nat):pm n≤n:=by
 rcases Ai 1 n with h|h
 ·have:=jK n lg;omega
 ·rcases Ai 0 n with g|g
  ·obtain rfl:n=1:=lg;rw [gF lj,show (1:Nat) - wq 1=0 from rfl,fS];exact Ad _
  ·obtain rfl:n=0:=lg;rw [fS];exact Ad _
def leftOf:Value→Nat | .string x=>x.size|_=>0
def AtNext (s:ByteArray) (w:zn) (a:Act) (wr:zn):Prop:=
 ∃ (cur:ByteArray) (L:List ByteArray) (v u1 u4 u5 u6 u7 u8 u9 u10 u11 u12 u13 u14 u15 u16 u17 u18 u19 u20 u21 u22 u23 u24 u25 u26 u27 u28:Value),
  a={ tmps:=#[zr cur,u1,zm none 0 0,v,u4,u5,u6,u7,u8,u9,u10,u11,u12,u13,u14,u15,u16,u17,u18,u19,u20,u21,u22,u23,u24,u25,u26,u27,u28],defers:=[] }∧vc s w cur L v wr
set_option maxHeartbeats 1600000 in
theorem RB (s:ByteArray) (hs:s.size≤1000000) (w:zn) :
 zq prog 171 #[zr s] w (wz s w):=by
 obtain ⟨i0,hi,ad,ae,af⟩:=info_parts oL;have hv:=dU s lq;by_cases hb:nx s.data.toList=true
 ·rw [hb] at hv;have HV:=zk hv;have ac:=zk ((bI _).1 hb);clear hv hb;go_enter func171,ntmps171;go_wp2;refine wp_scope_jumps 0 (AtNext s w) (fun a' _=>leftOf (a'.tmps.getD 0 undef)) rfl ?_ ?_
  ·go_wp2_with fail;refine (HV.out _).mono ?_;rintro e w1 ⟨rfl,ag⟩;have hc:=vc.start ac.out ag;clear ag;go_wp2_with fail
   go_step3
   have hlen:=hc.len;by_cases h16:16<s.size
   ·have hb:=kJ s lq 16;have e:mi s.data.toList 16=sx s:=by
     rw [show (16:Int)=((16:Nat):Int) from rfl,mT _ _ lr];rfl
    rw [e] at hb;have cs:=lL s lg;have hn:=jS s;have ah:=nG s hc.val h16;have aa:=zk (fun v' w2=>@vc.step s s w w1 w2 ([]:List ByteArray) (zm none 0 0) v' hc h16);obtain ⟨n,hnn⟩:∃ n,sx s=n:=⟨_,rfl⟩;rw [hnn] at hb hn ah aa;obtain ⟨N,hN⟩:∃ N,([]:List ByteArray).length=N:=⟨_,rfl⟩;have hown:=hc.own;rw [hN] at aa hlen hown;have HC:=zk hc;have HB:=zk hb;have CS:=zk cs;have hsz:w.heap.size≤w1:=hc.bel.size;have i16:(16:Int)<(s.size:Int):=lg;have h3:n≤s.size:=lg;clear hb hnn e hc hN cs;go_wp2_with fail;refine (CS.out _).mono ?_;rintro e w' ⟨rfl,rfl⟩;go_wp2_with fail;refine (HB.out _).mono ?_;rintro e w' ⟨rfl,rfl⟩;go_wp2_with (at_builtin;refine Ab _ rfl _ _ 159 rfl w.heap.size 9 i0 _ 1 16 underlying159 hi ad ae af rfl lj _ _ _ rfl (hown.alloc _) ⟨w1,0,none⟩ 1 1 [zr (s.extract 0 n)] rfl rfl (cJ _ _ _) (by intro u hu;simp at hu;subst hu;rfl) lq lg (zu hsz li) ?_;intro v' w2 hown' hgrow _);have ab:zp w w w2:=(HC.out.bel.alloc hsz _).grown hgrow (zu hsz li) (aB hown);have HN:=zk (aa.out v' w2 hown' ab);have HZ:=zk (show (s.extract n s.size).size<s.size by simp;omega);clear hown' hgrow hown ab;go_wp2
    go_step3
    exact ⟨rfl,⟨_,_,_,_,_,_,_,_,_,_,_,_,_,_,_,_,_,_,_,_,_,_,_,_,_,_,_,_,_,rfl,HN.out⟩⟩
   ·by_cases h0:s.size=0
    ·obtain rfl:=lY h0;have HR:=zk (hc.none ac.out h0);have CS:=zk (eI _ (show (⟨#[]⟩:ByteArray).size≤16 by decide));clear hc hlen h16 h0;go_wp2_with fail;refine (CS.out _).mono ?_;rintro e w' ⟨rfl,rfl⟩;go_wp2;simp only [Exit.jump];go_ret;exact HR.out
    ·have t1:=mJ (s:=s) lg;have t2:=eX (s:=s) lg;have CS:=zk (eI s lg);have aa:=zk (fun v' w2=>@vc.last s s w w1 w2 ([]:List ByteArray) (zm none 0 0) v' ac.out hc lg lg);obtain ⟨N,hN⟩:∃ N,([]:List ByteArray).length=N:=⟨_,rfl⟩;have hown:=hc.own;rw [hN] at aa hlen hown;have HC:=zk hc;have hsz:w.heap.size≤w1:=hc.bel.size;clear hc hN h0;go_wp2_with fail;refine (CS.out _).mono ?_;rintro e w' ⟨rfl,rfl⟩;go_wp2_with (at_builtin;refine Ab _ rfl _ _ 159 rfl w.heap.size 9 i0 _ 1 16 underlying159 hi ad ae af rfl lj _ _ _ rfl (hown.alloc _) ⟨w1,0,none⟩ 1 1 [zr s] rfl rfl (cJ _ _ _) (by intro u hu;simp at hu;subst hu;rfl) lq lg (zu hsz li) ?_;intro v' w2 hown' hgrow _);have ab:zp w w w2:=(HC.out.bel.alloc hsz _).grown hgrow (zu hsz li) (aB hown);have HR:=zk (aa.out v' w2 hown' ab);clear hown' hgrow hown ab;go_wp2;simp only [Exit.jump];go_ret;exact HR.out
  ·rintro a' wr ⟨cur,L,v,u1,u4,u5,u6,u7,u8,u9,u10,u11,u12,u13,u14,u15,u16,u17,u18,u19,u20,u21,u22,u23,u24,u25,u26,u27,u28,rfl,hc⟩;have hlen:=hc.len;by_cases h16:16<cur.size
   ·have hb:=kJ cur lq 16;have e:mi cur.data.toList 16=sx cur:=by
     rw [show (16:Int)=((16:Nat):Int) from rfl,mT _ _ lr];rfl
    rw [e] at hb;have cs:=lL cur lg;have hn:=jS cur;have ah:=nG cur hc.val h16;have aa:=zk (fun v' w2=>@vc.step s cur w wr w2 L v v' hc h16);obtain ⟨n,hnn⟩:∃ n,sx cur=n:=⟨_,rfl⟩;rw [hnn] at hb hn ah aa;obtain ⟨N,hN⟩:∃ N,L.length=N:=⟨_,rfl⟩;have hown:=hc.own;rw [hN] at aa hlen hown;have HC:=zk hc;have HB:=zk hb;have CS:=zk cs;have hsz:w.heap.size≤wr:=hc.bel.size;have i16:(16:Int)<(cur.size:Int):=lg;have h3:n≤cur.size:=lg;clear hb hnn e hc hN cs;go_wp2_with fail;refine (CS.out _).mono ?_;rintro e w' ⟨rfl,rfl⟩;go_wp2_with fail;refine (HB.out _).mono ?_;rintro e w' ⟨rfl,rfl⟩;go_wp2_with (at_builtin;refine Ab _ rfl _ _ 159 rfl w.heap.size 9 i0 _ 1 16 underlying159 hi ad ae af rfl lj _ _ _ rfl (hown.alloc _) ⟨wr,0,none⟩ 1 1 [zr (cur.extract 0 n)] rfl rfl (cJ _ _ _) (by intro u hu;simp at hu;subst hu;rfl) lq lg (zu hsz li) ?_;intro v' w2 hown' hgrow _);have ab:zp w w w2:=(HC.out.bel.alloc hsz _).grown hgrow (zu hsz li) (aB hown);have HN:=zk (aa.out v' w2 hown' ab);have HZ:=zk (show (cur.extract n cur.size).size<cur.size by simp;omega);clear hown' hgrow hown ab;go_wp2
    go_step3
    exact ⟨rfl,⟨_,_,_,_,_,_,_,_,_,_,_,_,_,_,_,_,_,_,_,_,_,_,_,_,_,_,_,_,_,rfl,HN.out⟩,HZ.out⟩
   ·by_cases h0:cur.size=0
    ·obtain rfl:=lY h0;have HR:=zk (hc.none ac.out h0);have CS:=zk (eI _ (show (⟨#[]⟩:ByteArray).size≤16 by decide));clear hc hlen h16 h0;go_wp2_with fail;refine (CS.out _).mono ?_;rintro e w' ⟨rfl,rfl⟩;go_wp2;simp only [Exit.jump];go_ret;exact HR.out
    ·have t1:=mJ (s:=cur) lg;have t2:=eX (s:=cur) lg;have CS:=zk (eI cur lg);have aa:=zk (fun v' w2=>@vc.last s cur w wr w2 L v v' ac.out hc lg lg);obtain ⟨N,hN⟩:∃ N,L.length=N:=⟨_,rfl⟩;have hown:=hc.own;rw [hN] at aa hlen hown;have HC:=zk hc;have hsz:w.heap.size≤wr:=hc.bel.size;clear hc hN h0;go_wp2_with fail;refine (CS.out _).mono ?_;rintro e w' ⟨rfl,rfl⟩;go_wp2_with (at_builtin;refine Ab _ rfl _ _ 159 rfl w.heap.size 9 i0 _ 1 16 underlying159 hi ad ae af rfl lj _ _ _ rfl (hown.alloc _) ⟨wr,0,none⟩ 1 1 [zr cur] rfl rfl (cJ _ _ _) (by intro u hu;simp at hu;subst hu;rfl) lq lg (zu hsz li) ?_;intro v' w2 hown' hgrow _);have ab:zp w w w2:=(HC.out.bel.alloc hsz _).grown hgrow (zu hsz li) (aB hown);have HR:=zk (aa.out v' w2 hown' ab);clear hown' hgrow hown ab;go_wp2;simp only [Exit.jump];go_ret;exact HR.out
 ·have ai:¬ rm s.data.toList:=fun h=>hb ((bI _).2 h);rw [Bool.eq_false_iff.2 hb] at hv;have HV:=zk hv;have aj:=zk ai;clear hv hb ai;go_enter func171,ntmps171;go_wp2
  go_step3
  go_wp2_with fail;refine (HV.out _).mono ?_;rintro e w1 ⟨rfl,ag⟩;go_wp2
  (try rw [Exit.noGoto_ret])
  go_ret;exact GE aj.out ag
end Go.Proofs.YtbagenpobcgjnaaGreat
namespace Go.Proofs.YtbagenpobcgjnaaGreat
open Go.Proofs.Tryz
open Lib (hid)
open Go.Shelf Go.RowKit
set_option linter.unusedVariables false
set_option maxHeartbeats 1000000 in
theorem AC (ad:zx) (l:List l9) (c:Nat) (w:zn) (hr:o4 w (·<w) (some ad) l) (hl:l.length≤1000000) :
 zq prog 91 #[zm (some ad) l.length c] w fun e w'=>∃ v,e=zv v∧w'.ownsRow w 90 2 v l.length (l9.flat l)∧v≠zm none 0 0∧zp w w w':=by
 obtain ⟨i0,hi,ae,af,ag⟩:=info_parts dT;have q22:∀ (w:zn) (a:Option zx) (n c n' c':Nat),(binOp .eql 22 (zm a n c) (zm none n' c')).run prog w=.ok (zz a.isNone) w:=fun w a n c n' c'=>Lib.run_eql_slice_nil w _ _ a n c n' c' underlying22;have ab:=zk (GD hr);have aa:=zk (l9.flat_len l);have ac:=zk (JB l);obtain ⟨n,hn⟩:∃ n,l.length=n:=⟨_,rfl⟩;rw [hn] at hl aa ⊢;obtain ⟨F,hF⟩:∃ F,l9.flat l=F:=⟨_,rfl⟩;rw [hF] at ab aa ac ⊢;clear hr hn hF;go_enter func91,ntmps91;go_wp2_with (at_builtin;refine Ab _ rfl _ _ 22 rfl w.heap.size 90 i0 _ 2 24 underlying22 hi ae af ag rfl lj _ _ _ rfl (World.ownsRow_made w #[] 0 (Ad _) (Aa _) li) ad n c F rfl aa.out (fun j u hj=>Lib.cell?_alloc_some _ (ab.out j u hj)) ac.out lq lg li ?_);intro v' w1 hown hgrow hnil;go_wp2;go_ret;refine ⟨v',rfl,by simpa using hown,?_,?_⟩
 ·exact hnil
 ·exact ((zw _ w).alloc (Ad _) _).grown hgrow li (by intro k hk;simp [Value.ownBlock] at hk;omega)
theorem zA (w:zn):zq prog 91 #[zm none 0 0] w fun e w'=>e=zv (zm none 0 0)∧w'=w:=by
 have h:=AnyE.slices_Clone_nil Tryz.mkCloneM 0 0 w;change zq prog 91 _ _ _ at h;exact h
end Go.Proofs.YtbagenpobcgjnaaGreat
