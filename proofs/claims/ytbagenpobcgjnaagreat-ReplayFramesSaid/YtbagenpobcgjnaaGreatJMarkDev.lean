/-
  Joined: MarkDev, MarkDev2.
-/
import Derived.Test.YtbagenpobcgjnaaGreatJMarkMath
import Derived.Test.YtbagenpobcgjnaaGreatJOpDev
import Derived.Deep.DeepCutAuto
open Bool renaming and_false->Af
open Go renaming Calls->zq,World->zx
open Go.Ending renaming returned->zr
open Go.IntKind renaming i64->zn,wrap_i64->Ai
open Go.Lib renaming hid->zk
open Go.RowKit renaming Below->zm,intOf->zv
open Go.RowKit.Below renaming refl->zu
open Go.Value renaming bool->zt,int->zp,pointer->zy,string->zo
open List renaming getElem_mem->Ae
open Nat renaming le_refl->Aa,lt_irrefl->Ag,not_lt_zero->zz,zero_le->Ad
namespace Go.Proofs.YtbagenpobcgjnaaGreat
open Go.Proofs.Tryz
set_option maxRecDepth 100000
open Lib (hid)
open Go.RowKit
set_option linter.unusedVariables false
theorem nL (x:l9) (w:zx):zq prog 179 #[x.v] w fun e w'=>e=zr (zo x.name)∧zm w w w':=by
 obtain ⟨nm,id⟩:=x;go_enter func179,ntmps179;go_wp2;go_ret;exact ⟨rfl,(zu _ _).alloc (Aa _) _⟩
set_option maxHeartbeats 800000 in
theorem EW (x:l9) (xn:ByteArray) (b:Nat) (w:zx) (hb:b<w) (hc:w ⟨b,0,none⟩=some (zo xn)) :
 zq prog 182 (#[x.v]++#[zy (some ⟨b,0,none⟩)]) w fun e w'=>e=zr (zt (sf xn x))∧zm w w w':=by
 obtain ⟨nm,id⟩:=x;have ab:(w.alloc (.cells #[zo nm,zp zn id] 90)) ⟨b,0,none⟩=some (zo xn):=(((zu w w).alloc (Aa _) _).cell (p:=⟨b,0,none⟩) hb).trans hc;have hg:sf xn ⟨nm,id⟩=!(Op.bytesLess nm.toList xn.toList || nm.toList == xn.toList):=rfl;have HG:=zk hg;obtain ⟨g,aa⟩:∃ g,sf xn ⟨nm,id⟩=g:=⟨_,rfl⟩;rw [aa] at HG ⊢;clear hc hg aa hb;go_enter func182,ntmps182;go_wp2;go_ret;exact ⟨aA (by rw [HG.out,Bool.not_or]),(zu _ _).alloc (Aa _) _⟩
set_option maxHeartbeats 800000 in
theorem gM (a:Option Addr) (l:List l9) (c:Nat) (s:ByteArray) (B:Nat→Prop) (w:zx) (hr:o4 w B a l) (hB:∀ b,B b→b<w.heap.size) (hl:l.length≤1000000)
 (ck:∀ W x,zm w w W→x∈l→zq prog 179 (#[x.v]++#[]) W fun e w'=>e=zr (zo x.name)∧zm W.heap.size W w') :
 zq prog 178 #[.slice a l.length c,.func (.func 179) #[] #[],zo s] w fun e w'=>e=zr (.tuple #[zp zn (l.findIdx (qq s):Nat),zt (decide (l.findIdx (qq s)<l.length))])∧zm w w w':=by
 obtain ⟨n,hn⟩:∃ n,l.length=n:=⟨_,rfl⟩;rw [hn] at hl ⊢;have HN:=zk hn;have HR:=zk hr;have CK:=zk ck;clear hn hr ck;obtain ⟨r,hfr⟩:∃ r,l.findIdx (qq s)=r:=⟨_,rfl⟩;rw [hfr];have HF:=zk hfr;clear hfr;obtain ⟨q,hq⟩:∃ q,decide (r<n)=q:=⟨_,rfl⟩;rw [hq];have HQ:=zk hq;clear hq;go_enter func178,ntmps178;go_wp2
 go_loopw [12] (fun i wr=>∃ k:Nat,k≤n∧i=zp zn k∧Hid (∀ j,j<k→(qq s) l[j]! = false)∧zm w w wr) (fun i _=>n - (zv i).toNat)
 case atStart=>exact ⟨0,Ad _,rfl,zk (fun j hj=>absurd hj (zz _)),zu _ _⟩
 case round =>
  obtain ⟨k,hk,rfl,hnone,hbel⟩:=hrel;by_cases hlt:k<n
  ·have hkl:k<l.length:=by rw [HN.out];exact hlt
   obtain ⟨ad,rfl,hab,q0,q1⟩:=(HR.out.below hB hbel) k hkl;have ck:=fun W hW=>CK.out W _ hW (Ae hkl);rw [← o3 hkl] at q0 q1;have ck2:=fun W hW=>(show zq _ _ _ _ _ from by have:=ck W hW;rw [← o3 hkl] at this;exact this);have hyes:=fun h=>nC (f:=qq s) hkl hnone.out h;have hno:=fun h=>jW (f:=qq s) (k:=k) hnone.out h;rw [HF.out] at hyes;obtain ⟨x,hx⟩:∃ x,l[k]! = x:=⟨_,rfl⟩;rw [hx] at q0 q1 hyes hno ck2;obtain ⟨nm,id⟩:=x;simp only at q0 q1;have ac:=zk ck2;have HY:=zk hyes;have HO:=zk hno;have aa:=zk (hbel.alloc hbel.size (.cells #[zo nm,zp zn id] 90));clear hx ck ck2 hyes hno hnone hbel;have b0:(0:Int)≤(k:Int):=lg;have b1:(k:Int)<(n:Int):=lg;by_cases he:nm=s
   ·have h0:=HY.out (by unfold qq;exact decide_eq_true he);subst h0;have e0:q=true:=by rw [← HQ.out];exact decide_eq_true hlt
    subst e0;subst he;clear HY HO;go_wp2_with (go_at_call 179;refine (ac.out _ aa.out).mono ?_;rintro e w2 ⟨rfl,ab⟩);go_ret2;exact ⟨rfl,aa.out.trans (ab.mono aa.out.size)⟩
   ·have HX:=zk (HO.out (by unfold qq;exact decide_eq_false he));have hne:=dQ he;clear HY HO he;go_wp2_with (go_at_call 179;refine (ac.out _ aa.out).mono ?_;rintro e w2 ⟨rfl,ab⟩);go_roundw
    case rel=>exact ⟨k+1,lg,by go_num,HX,aa.out.trans (ab.mono aa.out.size)⟩
    case measure=>simp [zv];omega
  ·obtain rfl:k=n:=lg;have h0:r=k:=by rw [← HF.out,← HN.out];exact qO (by rw [HN.out];exact hnone.out)
   subst h0;have e0:q=false:=by rw [← HQ.out];exact decide_eq_false (Ag _)
   subst e0;clear hnone;go_wp2;go_ret2;exact ⟨rfl,hbel⟩
set_option maxHeartbeats 800000 in
theorem wO (a:Option Addr) (l:List l9) (c:Nat) (s:ByteArray) (bm:Nat) (B:Nat→Prop) (w:zx) (hr:o4 w B a l) (hB:∀ b,B b→b<w.heap.size) (hl:l.length≤1000000)
 (ck:∀ W x,zm w w W→x∈l→zq prog 182 (#[x.v]++#[zy (some ⟨bm,0,none⟩)]) W fun e w'=>e=zr (zt (sf s x))∧zm W.heap.size W w') :
 zq prog 181 #[.slice a l.length c,.func (.func 182) #[] #[zy (some ⟨bm,0,none⟩)],zt true] w fun e w'=>e=zr (.tuple #[zp zn (l.findIdx (sf s):Nat),zt (decide (l.findIdx (sf s)<l.length))])∧zm w w w':=by
 obtain ⟨n,hn⟩:∃ n,l.length=n:=⟨_,rfl⟩;rw [hn] at hl ⊢;have HN:=zk hn;have HR:=zk hr;have CK:=zk ck;clear hn hr ck;obtain ⟨r,hfr⟩:∃ r,l.findIdx (sf s)=r:=⟨_,rfl⟩;rw [hfr];have HF:=zk hfr;clear hfr;obtain ⟨q,hq⟩:∃ q,decide (r<n)=q:=⟨_,rfl⟩;rw [hq];have HQ:=zk hq;clear hq;go_enter func181,ntmps181;go_wp2
 go_loopw [12] (fun i wr=>∃ k:Nat,k≤n∧i=zp zn k∧Hid (∀ j,j<k→(sf s) l[j]! = false)∧zm w w wr) (fun i _=>n - (zv i).toNat)
 case atStart=>exact ⟨0,Ad _,rfl,zk (fun j hj=>absurd hj (zz _)),zu _ _⟩
 case round =>
  obtain ⟨k,hk,rfl,hnone,hbel⟩:=hrel;by_cases hlt:k<n
  ·have hkl:k<l.length:=by rw [HN.out];exact hlt
   obtain ⟨ad,rfl,hab,q0,q1⟩:=(HR.out.below hB hbel) k hkl;have ck:=fun W hW=>CK.out W _ hW (Ae hkl);rw [← o3 hkl] at q0 q1;have ck2:=fun W hW=>(show zq _ _ _ _ _ from by have:=ck W hW;rw [← o3 hkl] at this;exact this);have hyes:=fun h=>nC (f:=sf s) hkl hnone.out h;have hno:=fun h=>jW (f:=sf s) (k:=k) hnone.out h;rw [HF.out] at hyes;obtain ⟨x,hx⟩:∃ x,l[k]! = x:=⟨_,rfl⟩;rw [hx] at q0 q1 hyes hno ck2;obtain ⟨nm,id⟩:=x;simp only at q0 q1;have aa:=zk ck2;have HY:=zk hyes;have HO:=zk hno;have ab:=zk (hbel.alloc hbel.size (.cells #[zo nm,zp zn id] 90));clear hx ck ck2 hyes hno hnone hbel;have b0:(0:Int)≤(k:Int):=lg;have b1:(k:Int)<(n:Int):=lg;by_cases he:sf s ⟨nm,id⟩=true
   ·have h0:=HY.out (by exact he);subst h0;have e0:q=true:=by rw [← HQ.out];exact decide_eq_true hlt
    subst e0;have aa:=zk (show ∀ W,zm w w W→zq prog 182 #[.agg #[zo nm,zp zn id],zy (some ⟨bm,0,none⟩)] W fun e w'=>e=zr (zt true)∧zm W.heap.size W w' from fun W hW=>by have:=aa.out W hW;rw [he] at this;exact this);clear HY HO he;go_wp2_with (go_at_call 182;refine (aa.out _ ab.out).mono ?_;rintro e w2 ⟨rfl,ac⟩);go_ret2;exact ⟨rfl,ab.out.trans (ac.mono ab.out.size)⟩
   ·have HX:=zk (HO.out (by simpa using he));have he:sf s ⟨nm,id⟩=false:=by simpa using he
    have aa:=zk (show ∀ W,zm w w W→zq prog 182 #[.agg #[zo nm,zp zn id],zy (some ⟨bm,0,none⟩)] W fun e w'=>e=zr (zt false)∧zm W.heap.size W w' from fun W hW=>by have:=aa.out W hW;rw [he] at this;exact this);clear HY HO he;go_wp2_with (go_at_call 182;refine (aa.out _ ab.out).mono ?_;rintro e w2 ⟨rfl,ac⟩);go_roundw
    case rel=>exact ⟨k+1,lg,by go_num,HX,ab.out.trans (ac.mono ab.out.size)⟩
    case measure=>simp [zv];omega
  ·obtain rfl:k=n:=lg;have h0:r=k:=by rw [← HF.out,← HN.out];exact qO (by rw [HN.out];exact hnone.out)
   subst h0;have e0:q=false:=by rw [← HQ.out];exact decide_eq_false (Ag _)
   subst e0;clear hnone;go_wp2;go_ret2;exact ⟨rfl,hbel⟩
theorem RG {l:List l9} {j:Nat} (h:rz (l[j+1]!).name (l[j]!).name=true):Op.bytesLess (l[j]!).name.toList (l[j+1]!).name.toList=false:=by
 rw [← ngeB] at h;simpa using h
theorem NF {l:List l9} {j:Nat} (h:rz (l[j+1]!).name (l[j]!).name=false):Op.bytesLess (l[j]!).name.toList (l[j+1]!).name.toList=true:=by
 rw [← ngeB] at h;simpa using h
theorem zI {l:List l9} {t:ByteArray} (h:qp l=false):nf l t=false:=by
 unfold nf;rw [h,Af,Af]
theorem zM {l:List l9} {t:ByteArray} (h:¬ l.length≤16):nf l t=false:=by
 unfold nf;rw [decide_eq_false h,Bool.false_and,Af]
set_option maxHeartbeats 1600000 in
theorem DY (a:Option Addr) (l:List l9) (c:Nat) (t:ByteArray) (B:Nat→Prop) (w:zx) (hr:o4 w B a l) (hB:∀ b,B b→b<w.heap.size) (hf:∀ x∈l,x.name.size≤maxLen) (ht:t.size≤maxLen) (hl:l.length≤1000000) :
 zq prog 85 #[.slice a l.length c,zo t] w fun e w'=>e=zr (zt (nf l t))∧zm w w w':=by
 by_cases h16:l.length≤16
 case neg =>
  rw [zM h16];obtain ⟨n,hn⟩:∃ n,l.length=n:=⟨_,rfl⟩;rw [hn] at h16 ⊢;have h1:(16:Int)<(n:Int):=lg;clear hr hn;go_enter func85,ntmps85;go_wp2;go_ret;exact ⟨rfl,zu _ _⟩
 obtain ⟨n,hn⟩:∃ n,l.length=n:=⟨_,rfl⟩;rw [hn] at h16 ⊢;have HN:=zk hn;have HR:=zk hr;have ag:=zk hf;obtain ⟨r,hfr⟩:∃ r,nf l t=r:=⟨_,rfl⟩;rw [hfr];have HF:=zk hfr;have h1:¬ (16:Int)<(n:Int):=lg;clear hn hr hf hfr hl;go_enter func85,ntmps85;go_wp2
 go_loopw [12] (fun i wr=>∃ k:Nat,k≤n∧i=zp zn k∧Hid (∀ j,j<k→xw t l[j]! = true)∧Hid (∀ j,j+1<k→rz (l[j+1]!).name (l[j]!).name=false)∧zm w w wr) (fun i _=>n - (zv i).toNat)
 case atStart=>exact ⟨0,Ad _,rfl,zk (fun j hj=>absurd hj (zz _)),zk (fun j hj=>absurd hj (zz _)),zu _ _⟩
 case round =>
  obtain ⟨k,hk,rfl,hall,hris,hbel⟩:=hrel;by_cases hlt:k<n
  ·have hkl:k<l.length:=by rw [HN.out];exact hlt
   obtain ⟨ad,rfl,hab,q0,q1⟩:=(HR.out.below hB hbel) k hkl;have hsz:=ag.out _ (Ae hkl);rw [← o3 hkl] at q0 q1 hsz;have hyes:=BZ (t:=t) hall.out;have hno:=qR (t:=t) hkl;rw [HF.out] at hno;have hok:xw t l[k]! = (mv (l[k]!).name.data.toList && me t.data.toList (l[k]!).p):=rfl;have HX:=zk (show l[k]! = l[k]! from rfl);obtain ⟨nm,hnm⟩:∃ x,(l[k]!).name=x:=⟨_,rfl⟩;obtain ⟨id,hie⟩:∃ x,(l[k]!).p=x:=⟨_,rfl⟩;rw [hnm] at q0 hsz hok;rw [hie] at q1 hok;have ah:=zk hnm;have c1:=bJ nm hsz;have c2:=oX t ht id;have aa:=zk (hbel.alloc hbel.size (.cells #[zo nm,zp zn id] 90));have HY:=zk hyes;have ac:=zk hno;have ab:=zk hok;have b0:(0:Int)≤(k:Int):=lg;have b1:(k:Int)<(n:Int):=lg;clear hyes hno hok hall HX hnm hie hsz;cases m1:mv nm.data.toList
   ·rw [m1] at c1;have h0:=ac.out (by rw [ab.out,m1];rfl);subst h0;have C1:=zk c1;clear c1 c2 m1 ac ab HY hbel;go_wp2_with (go_at_call 106;refine (C1.out _).mono ?_;rintro e w1 ⟨rfl,rfl⟩);go_ret;exact ⟨rfl,aa.out⟩
   ·cases m2:me t.data.toList id
    ·rw [m1] at c1;rw [m2] at c2;have h0:=ac.out (by rw [ab.out,m1,m2];rfl);subst h0;have C1:=zk c1;have C2:=zk c2;clear c1 c2 m1 m2 ac ab HY hbel;go_wp2_with (first
      | (go_at_call 106;refine (C1.out _).mono ?_;rintro e w1 ⟨rfl,rfl⟩)
      | (go_at_call 107;refine (C2.out _).mono ?_;rintro e w1 ⟨rfl,rfl⟩))
     go_ret;exact ⟨rfl,aa.out⟩
    ·rw [m1] at c1;rw [m2] at c2;have af:=zk (HY.out (by rw [ab.out,m1,m2];rfl));have C1:=zk c1;have C2:=zk c2;clear c1 c2 m1 m2 ac ab HY;cases k with
     | zero =>
      have g0:decide ((0:Int)<0)=false:=rfl;have q2:wr ad=some (zo nm):=by simpa [Addr.add] using q0
      have q3:wr ⟨ad.block,ad.off+1,none⟩=some (zp zn id):=by simpa [Addr.add] using q1
      rw [show ((0:Nat):Int)=0 from rfl];clear hbel q0 q1;go_wp2_with (first
       | (go_at_call 106;refine (C1.out _).mono ?_;rintro e w1 ⟨rfl,rfl⟩)
       | (go_at_call 107;refine (C2.out _).mono ?_;rintro e w1 ⟨rfl,rfl⟩))
      go_quiet (fail);have ae:=aC aa.out nq;generalize (wr.alloc (.cells #[zo nm,zp zn id] 90)).drewN nq=wx at ae ⊢;go_wp2;go_roundw
      case rel=>exact ⟨1,lg,rfl,af,zk (fun j hj=>absurd hj lg),ae⟩
      case measure=>simp [zv];omega
     | succ j =>
      have hjl:j<l.length:=lg;obtain ⟨ad',e',hab',r0,-⟩:=(HR.out.below hB aa.out) j hjl;obtain rfl:ad=ad':=by injection e'
      rw [← o3 hjl] at r0;have hms:=fun h=>sH (l:=l) (k:=j) (fun i hi=>hris.out i hi) h;have hge:=RG (l:=l) (j:=j);have hls:=NF (l:=l) (j:=j);have hof:=fun h=>zI (t:=t) (yV (l:=l) (i:=j) hkl h);rw [HF.out] at hof;rw [ah.out] at hge hls hof hms;obtain ⟨pn,hpn⟩:∃ x,(l[j]!).name=x:=⟨_,rfl⟩;rw [hpn] at r0 hge hls hof hms;rw [show ((j+1:Nat):Int)=(j:Int)+1 from rfl] at b0 b1 ⊢;have d0:(0:Int)≤(j:Int):=lg;have d1:(j:Int)<(n:Int):=lg;have g0:decide ((0:Int)<(j:Int)+1)=true:=decide_eq_true lg;have g1:(0:Int)<(j:Int)+1:=lg;have e0:((j:Int)+1).toNat=j+1:=lg;have ew:zn.wrap (j:Int)=(j:Int):=by rw [Ai];omega
      have ew1:zn.wrap ((j:Int)+1)=(j:Int)+1:=by rw [Ai];omega
      cases hle:rz nm pn
      ·have ai:=hls hle;have HM:=zk (hms hle);clear hge hls hof hms hle hbel hpn hris;go_wp2_with (first
        | (go_at_call 106;refine (C1.out _).mono ?_;rintro e w1 ⟨rfl,rfl⟩)
        | (go_at_call 107;refine (C2.out _).mono ?_;rintro e w1 ⟨rfl,rfl⟩))
       go_quiet (fail);have ae:=aC aa.out nq;clear q0 q1 r0;generalize (wr.alloc (.cells #[zo nm,zp zn id] 90)).drewN nq=wx at ae ⊢;go_wp2;go_roundw
       case rel=>exact ⟨j+2,lg,by go_num,af,HM,ae⟩
       case measure=>simp [zv];omega
      ·have ai:=hge hle;have h0:=hof hle;subst h0;clear hge hls hof hms hle hbel hpn hris;go_wp2_with (first
        | (go_at_call 106;refine (C1.out _).mono ?_;rintro e w1 ⟨rfl,rfl⟩)
        | (go_at_call 107;refine (C2.out _).mono ?_;rintro e w1 ⟨rfl,rfl⟩))
       go_quiet (fail);go_wp2;go_ret;exact ⟨rfl,aC aa.out _⟩
  ·obtain rfl:k=n:=lg;have h0:r=true:=by
    rw [← HF.out,aZ];exact ⟨fun i hi=>hall.out i (by rw [← HN.out];exact hi),by rw [HN.out];omega,(fV l).2 fun i hi=>hris.out i (by rw [← HN.out];exact hi)⟩
   subst h0;clear hall hris;go_wp2;go_ret;exact ⟨rfl,hbel⟩
end Go.Proofs.YtbagenpobcgjnaaGreat
