/-
  Joined: MarkDev, MarkDev2.
-/
import Derived.Test.YtbagenpobcgjnaaGreatJMarkMath
import Derived.Test.YtbagenpobcgjnaaGreatJOpDev
import Derived.BigQuiet
import Derived.Deep.DeepCutAuto
import Derived.Deep.QuietTactic
import Derived.WalkLawsBesides
import Derived.Lib.MinMax
namespace Go.Proofs.YtbagenpobcgjnaaGreat
open Go.Proofs.Tryz
set_option maxRecDepth 100000
open Lib (hid)
open Go.RowKit
set_option linter.unusedVariables false
theorem lS (x:Mrk) (w:World):Calls prog 179 #[x.v] w fun e w'=>e=.returned (.string x.name)∧Below w.heap.size w w':=by
 obtain ⟨nm,id⟩:=x
 go_enter func179,ntmps179
 go_wp2
 go_ret
 exact ⟨rfl,(Below.refl _ _).alloc (Nat.le_refl _) _⟩
set_option maxHeartbeats 800000 in
theorem zA (x:Mrk) (xn:ByteArray) (b:Nat) (w:World) (hb:b<w.heap.size) (hc:w.cell? ⟨b,0,none⟩=some (.string xn)) :
 Calls prog 182 (#[x.v]++#[.pointer (some ⟨b,0,none⟩)]) w fun e w'=>e=.returned (.bool (gtB xn x))∧Below w.heap.size w w':=by
 obtain ⟨nm,id⟩:=x
 have ab:(w.alloc (.cells #[.string nm,.int .i64 id] 90)).cell? ⟨b,0,none⟩=some (.string xn):=(((Below.refl w.heap.size w).alloc (Nat.le_refl _) _).cell (p:=⟨b,0,none⟩) hb).trans hc
 have hg:gtB xn ⟨nm,id⟩=!(Op.bytesLess nm.toList xn.toList || nm.toList == xn.toList):=rfl
 have HG:=hid hg
 obtain ⟨g,aa⟩:∃ g,gtB xn ⟨nm,id⟩=g:=⟨_,rfl⟩
 rw [aa] at HG ⊢
 clear hc hg aa hb
 go_enter func182,ntmps182
 go_wp2
 go_ret
 exact ⟨aA (by rw [HG.out,Bool.not_or]),(Below.refl _ _).alloc (Nat.le_refl _) _⟩
set_option maxHeartbeats 800000 in
theorem fK (a:Option Addr) (l:List Mrk) (c:Nat) (s:ByteArray) (B:Nat→Prop) (w:World) (hr:Mrks w B a l) (hB:∀ b,B b→b<w.heap.size) (hl:l.length≤1000000)
 (ck:∀ W x,Below w.heap.size w W→x∈l→Calls prog 179 (#[x.v]++#[]) W fun e w'=>e=.returned (.string x.name)∧Below W.heap.size W w') :
 Calls prog 178 #[.slice a l.length c,.func (.func 179) #[] #[],.string s] w fun e w'=>e=.returned (.tuple #[.int .i64 (l.findIdx (nmB s):Nat),.bool (decide (l.findIdx (nmB s)<l.length))])∧Below w.heap.size w w':=by
 obtain ⟨n,hn⟩:∃ n,l.length=n:=⟨_,rfl⟩
 rw [hn] at hl ⊢
 have HN:=hid hn;have HR:=hid hr;have CK:=hid ck
 clear hn hr ck
 obtain ⟨r,hfr⟩:∃ r,l.findIdx (nmB s)=r:=⟨_,rfl⟩
 rw [hfr]
 have HF:=hid hfr;clear hfr
 obtain ⟨q,hq⟩:∃ q,decide (r<n)=q:=⟨_,rfl⟩
 rw [hq]
 have HQ:=hid hq;clear hq
 go_enter func178,ntmps178
 go_wp2
 go_loopw [12] (fun i wr=>∃ k:Nat,k≤n∧i=.int .i64 k∧Hid (∀ j,j<k→(nmB s) l[j]! = false)∧Below w.heap.size w wr) (fun i _=>n - (intOf i).toNat)
 case atStart=>exact ⟨0,Nat.zero_le _,rfl,hid (fun j hj=>absurd hj (Nat.not_lt_zero _)),Below.refl _ _⟩
 case round =>
  obtain ⟨k,hk,rfl,hnone,hbel⟩:=hrel
  by_cases hlt:k<n
  ·have hkl:k<l.length:=by rw [HN.out];exact hlt
   obtain ⟨ad,rfl,hab,q0,q1⟩:=(HR.out.below hB hbel) k hkl
   have ck:=fun W hW=>CK.out W _ hW (List.getElem_mem hkl)
   rw [← mget hkl] at q0 q1
   have ck2:=fun W hW=>(show Calls _ _ _ _ _ from by have:=ck W hW;rw [← mget hkl] at this;exact this)
   have hyes:=fun h=>lF (f:=nmB s) hkl hnone.out h
   have hno:=fun h=>iX (f:=nmB s) (k:=k) hnone.out h
   rw [HF.out] at hyes
   obtain ⟨x,hx⟩:∃ x,l[k]! = x:=⟨_,rfl⟩
   rw [hx] at q0 q1 hyes hno ck2
   obtain ⟨nm,id⟩:=x
   simp only at q0 q1
   have ac:=hid ck2;have HY:=hid hyes;have HO:=hid hno
   have aa:=hid (hbel.alloc hbel.size (.cells #[.string nm,.int .i64 id] 90))
   clear hx ck ck2 hyes hno hnone hbel
   have b0:(0:Int)≤(k:Int):=by omega
   have b1:(k:Int)<(n:Int):=by omega
   by_cases he:nm=s
   ·have h0:=HY.out (by unfold nmB;exact decide_eq_true he)
    subst h0
    have e0:q=true:=by rw [← HQ.out];exact decide_eq_true hlt
    subst e0
    subst he
    clear HY HO
    go_wp2_with (go_at_call 179;refine (ac.out _ aa.out).mono ?_;rintro e w2 ⟨rfl,ab⟩)
    go_ret2
    exact ⟨rfl,aa.out.trans (ab.mono aa.out.size)⟩
   ·have HX:=hid (HO.out (by unfold nmB;exact decide_eq_false he))
    have hne:=eT he
    clear HY HO he
    go_wp2_with (go_at_call 179;refine (ac.out _ aa.out).mono ?_;rintro e w2 ⟨rfl,ab⟩)
    go_roundw
    case rel=>exact ⟨k+1,by omega,by go_num,HX,aa.out.trans (ab.mono aa.out.size)⟩
    case measure=>simp [intOf];omega
  ·obtain rfl:k=n:=by omega
   have h0:r=k:=by rw [← HF.out,← HN.out];exact nZ (by rw [HN.out];exact hnone.out)
   subst h0
   have e0:q=false:=by rw [← HQ.out];exact decide_eq_false (Nat.lt_irrefl _)
   subst e0
   clear hnone
   go_wp2
   go_ret2
   exact ⟨rfl,hbel⟩
set_option maxHeartbeats 800000 in
theorem sS (a:Option Addr) (l:List Mrk) (c:Nat) (s:ByteArray) (bm:Nat) (B:Nat→Prop) (w:World) (hr:Mrks w B a l) (hB:∀ b,B b→b<w.heap.size) (hl:l.length≤1000000)
 (ck:∀ W x,Below w.heap.size w W→x∈l→Calls prog 182 (#[x.v]++#[.pointer (some ⟨bm,0,none⟩)]) W fun e w'=>e=.returned (.bool (gtB s x))∧Below W.heap.size W w') :
 Calls prog 181 #[.slice a l.length c,.func (.func 182) #[] #[.pointer (some ⟨bm,0,none⟩)],.bool true] w fun e w'=>e=.returned (.tuple #[.int .i64 (l.findIdx (gtB s):Nat),.bool (decide (l.findIdx (gtB s)<l.length))])∧Below w.heap.size w w':=by
 obtain ⟨n,hn⟩:∃ n,l.length=n:=⟨_,rfl⟩
 rw [hn] at hl ⊢
 have HN:=hid hn;have HR:=hid hr;have CK:=hid ck
 clear hn hr ck
 obtain ⟨r,hfr⟩:∃ r,l.findIdx (gtB s)=r:=⟨_,rfl⟩
 rw [hfr]
 have HF:=hid hfr;clear hfr
 obtain ⟨q,hq⟩:∃ q,decide (r<n)=q:=⟨_,rfl⟩
 rw [hq]
 have HQ:=hid hq;clear hq
 go_enter func181,ntmps181
 go_wp2
 go_loopw [12] (fun i wr=>∃ k:Nat,k≤n∧i=.int .i64 k∧Hid (∀ j,j<k→(gtB s) l[j]! = false)∧Below w.heap.size w wr) (fun i _=>n - (intOf i).toNat)
 case atStart=>exact ⟨0,Nat.zero_le _,rfl,hid (fun j hj=>absurd hj (Nat.not_lt_zero _)),Below.refl _ _⟩
 case round =>
  obtain ⟨k,hk,rfl,hnone,hbel⟩:=hrel
  by_cases hlt:k<n
  ·have hkl:k<l.length:=by rw [HN.out];exact hlt
   obtain ⟨ad,rfl,hab,q0,q1⟩:=(HR.out.below hB hbel) k hkl
   have ck:=fun W hW=>CK.out W _ hW (List.getElem_mem hkl)
   rw [← mget hkl] at q0 q1
   have ck2:=fun W hW=>(show Calls _ _ _ _ _ from by have:=ck W hW;rw [← mget hkl] at this;exact this)
   have hyes:=fun h=>lF (f:=gtB s) hkl hnone.out h
   have hno:=fun h=>iX (f:=gtB s) (k:=k) hnone.out h
   rw [HF.out] at hyes
   obtain ⟨x,hx⟩:∃ x,l[k]! = x:=⟨_,rfl⟩
   rw [hx] at q0 q1 hyes hno ck2
   obtain ⟨nm,id⟩:=x
   simp only at q0 q1
   have aa:=hid ck2;have HY:=hid hyes;have HO:=hid hno
   have ab:=hid (hbel.alloc hbel.size (.cells #[.string nm,.int .i64 id] 90))
   clear hx ck ck2 hyes hno hnone hbel
   have b0:(0:Int)≤(k:Int):=by omega
   have b1:(k:Int)<(n:Int):=by omega
   by_cases he:gtB s ⟨nm,id⟩=true
   ·have h0:=HY.out (by exact he)
    subst h0
    have e0:q=true:=by rw [← HQ.out];exact decide_eq_true hlt
    subst e0
    have aa:=hid (show ∀ W,Below w.heap.size w W→Calls prog 182 #[.agg #[.string nm,.int .i64 id],.pointer (some ⟨bm,0,none⟩)] W fun e w'=>e=.returned (.bool true)∧Below W.heap.size W w' from fun W hW=>by have:=aa.out W hW;rw [he] at this;exact this)
    clear HY HO he
    go_wp2_with (go_at_call 182;refine (aa.out _ ab.out).mono ?_;rintro e w2 ⟨rfl,ac⟩)
    go_ret2
    exact ⟨rfl,ab.out.trans (ac.mono ab.out.size)⟩
   ·have HX:=hid (HO.out (by simpa using he))
    have he:gtB s ⟨nm,id⟩=false:=by simpa using he
    have aa:=hid (show ∀ W,Below w.heap.size w W→Calls prog 182 #[.agg #[.string nm,.int .i64 id],.pointer (some ⟨bm,0,none⟩)] W fun e w'=>e=.returned (.bool false)∧Below W.heap.size W w' from fun W hW=>by have:=aa.out W hW;rw [he] at this;exact this)
    clear HY HO he
    go_wp2_with (go_at_call 182;refine (aa.out _ ab.out).mono ?_;rintro e w2 ⟨rfl,ac⟩)
    go_roundw
    case rel=>exact ⟨k+1,by omega,by go_num,HX,ab.out.trans (ac.mono ab.out.size)⟩
    case measure=>simp [intOf];omega
  ·obtain rfl:k=n:=by omega
   have h0:r=k:=by rw [← HF.out,← HN.out];exact nZ (by rw [HN.out];exact hnone.out)
   subst h0
   have e0:q=false:=by rw [← HQ.out];exact decide_eq_false (Nat.lt_irrefl _)
   subst e0
   clear hnone
   go_wp2
   go_ret2
   exact ⟨rfl,hbel⟩
theorem MW {l:List Mrk} {j:Nat} (h:nleB (l[j+1]!).name (l[j]!).name=true):Op.bytesLess (l[j]!).name.toList (l[j+1]!).name.toList=false:=by
 rw [← ngeB] at h
 simpa using h
theorem JE {l:List Mrk} {j:Nat} (h:nleB (l[j+1]!).name (l[j]!).name=false):Op.bytesLess (l[j]!).name.toList (l[j+1]!).name.toList=true:=by
 rw [← ngeB] at h
 simpa using h
theorem wI {l:List Mrk} {t:ByteArray} (h:riseM l=false):rightM l t=false:=by
 unfold rightM
 rw [h,Bool.and_false,Bool.and_false]
theorem wF {l:List Mrk} {t:ByteArray} (h:¬ l.length≤16):rightM l t=false:=by
 unfold rightM
 rw [decide_eq_false h,Bool.false_and,Bool.and_false]
set_option maxHeartbeats 1600000 in
theorem zM (a:Option Addr) (l:List Mrk) (c:Nat) (t:ByteArray) (B:Nat→Prop) (w:World) (hr:Mrks w B a l) (hB:∀ b,B b→b<w.heap.size) (hf:∀ x∈l,x.name.size≤maxLen) (ht:t.size≤maxLen) (hl:l.length≤1000000) :
 Calls prog 85 #[.slice a l.length c,.string t] w fun e w'=>e=.returned (.bool (rightM l t))∧Below w.heap.size w w':=by
 by_cases h16:l.length≤16
 case neg =>
  rw [wF h16]
  obtain ⟨n,hn⟩:∃ n,l.length=n:=⟨_,rfl⟩
  rw [hn] at h16 ⊢
  have h1:(16:Int)<(n:Int):=by omega
  clear hr hn
  go_enter func85,ntmps85
  go_wp2
  go_ret
  exact ⟨rfl,Below.refl _ _⟩
 obtain ⟨n,hn⟩:∃ n,l.length=n:=⟨_,rfl⟩
 rw [hn] at h16 ⊢
 have HN:=Lib.hid hn;have HR:=Lib.hid hr;have ag:=Lib.hid hf
 obtain ⟨r,hfr⟩:∃ r,rightM l t=r:=⟨_,rfl⟩
 rw [hfr]
 have HF:=Lib.hid hfr
 have h1:¬ (16:Int)<(n:Int):=by omega
 clear hn hr hf hfr hl
 go_enter func85,ntmps85
 go_wp2
 go_loopw [12] (fun i wr=>∃ k:Nat,k≤n∧i=.int .i64 k∧Hid (∀ j,j<k→okM t l[j]! = true)∧Hid (∀ j,j+1<k→nleB (l[j+1]!).name (l[j]!).name=false)∧Below w.heap.size w wr) (fun i _=>n - (intOf i).toNat)
 case atStart=>exact ⟨0,Nat.zero_le _,rfl,Lib.hid (fun j hj=>absurd hj (Nat.not_lt_zero _)),Lib.hid (fun j hj=>absurd hj (Nat.not_lt_zero _)),Below.refl _ _⟩
 case round =>
  obtain ⟨k,hk,rfl,hall,hris,hbel⟩:=hrel
  by_cases hlt:k<n
  ·have hkl:k<l.length:=by rw [HN.out];exact hlt
   obtain ⟨ad,rfl,hab,q0,q1⟩:=(HR.out.below hB hbel) k hkl
   have hsz:=ag.out _ (List.getElem_mem hkl)
   rw [← mget hkl] at q0 q1 hsz
   have hyes:=MV (t:=t) hall.out
   have hno:=yV (t:=t) hkl
   rw [HF.out] at hno
   have hok:okM t l[k]! = (markB (l[k]!).name.data.toList && edgeB t.data.toList (l[k]!).p):=rfl
   have HX:=Lib.hid (show l[k]! = l[k]! from rfl)
   obtain ⟨nm,hnm⟩:∃ x,(l[k]!).name=x:=⟨_,rfl⟩
   obtain ⟨id,hid⟩:∃ x,(l[k]!).p=x:=⟨_,rfl⟩
   rw [hnm] at q0 hsz hok
   rw [hid] at q1 hok
   have ah:=Lib.hid hnm
   have c1:=bB nm hsz
   have c2:=mV t ht id
   have aa:=Lib.hid (hbel.alloc hbel.size (.cells #[.string nm,.int .i64 id] 90))
   have HY:=Lib.hid hyes;have ac:=Lib.hid hno;have ab:=Lib.hid hok
   have b0:(0:Int)≤(k:Int):=by omega
   have b1:(k:Int)<(n:Int):=by omega
   clear hyes hno hok hall HX hnm hid hsz
   cases m1:markB nm.data.toList
   ·rw [m1] at c1
    have h0:=ac.out (by rw [ab.out,m1];rfl)
    subst h0
    have C1:=Lib.hid c1
    clear c1 c2 m1 ac ab HY hbel
    go_wp2_with (go_at_call 106;refine (C1.out _).mono ?_;rintro e w1 ⟨rfl,rfl⟩)
    go_ret
    exact ⟨rfl,aa.out⟩
   ·cases m2:edgeB t.data.toList id
    ·rw [m1] at c1
     rw [m2] at c2
     have h0:=ac.out (by rw [ab.out,m1,m2];rfl)
     subst h0
     have C1:=Lib.hid c1;have C2:=Lib.hid c2
     clear c1 c2 m1 m2 ac ab HY hbel
     go_wp2_with (first
      | (go_at_call 106;refine (C1.out _).mono ?_;rintro e w1 ⟨rfl,rfl⟩)
      | (go_at_call 107;refine (C2.out _).mono ?_;rintro e w1 ⟨rfl,rfl⟩))
     go_ret
     exact ⟨rfl,aa.out⟩
    ·rw [m1] at c1
     rw [m2] at c2
     have af:=Lib.hid (HY.out (by rw [ab.out,m1,m2];rfl))
     have C1:=Lib.hid c1;have C2:=Lib.hid c2
     clear c1 c2 m1 m2 ac ab HY
     cases k with
     | zero =>
      have g0:decide ((0:Int)<0)=false:=rfl
      have q2:wr.cell? ad=some (.string nm):=by simpa [Addr.add] using q0
      have q3:wr.cell? ⟨ad.block,ad.off+1,none⟩=some (.int .i64 id):=by simpa [Addr.add] using q1
      rw [show ((0:Nat):Int)=0 from rfl]
      clear hbel q0 q1
      go_wp2_with (first
       | (go_at_call 106;refine (C1.out _).mono ?_;rintro e w1 ⟨rfl,rfl⟩)
       | (go_at_call 107;refine (C2.out _).mono ?_;rintro e w1 ⟨rfl,rfl⟩))
      go_quiet (fail)
      have ae:=aN aa.out nq
      generalize (wr.alloc (.cells #[.string nm,.int .i64 id] 90)).drewN nq=wx at ae ⊢
      go_wp2
      go_roundw
      case rel=>exact ⟨1,by omega,rfl,af,Lib.hid (fun j hj=>absurd hj (by omega)),ae⟩
      case measure=>simp [intOf];omega
     | succ j =>
      have hjl:j<l.length:=by omega
      obtain ⟨ad',e',hab',r0,-⟩:=(HR.out.below hB aa.out) j hjl
      obtain rfl:ad=ad':=by injection e'
      rw [← mget hjl] at r0
      have hms:=fun h=>FE (l:=l) (k:=j) (fun i hi=>hris.out i hi) h
      have hge:=MW (l:=l) (j:=j)
      have hls:=JE (l:=l) (j:=j)
      have hof:=fun h=>wI (t:=t) (JB (l:=l) (i:=j) hkl h)
      rw [HF.out] at hof
      rw [ah.out] at hge hls hof hms
      obtain ⟨pn,hpn⟩:∃ x,(l[j]!).name=x:=⟨_,rfl⟩
      rw [hpn] at r0 hge hls hof hms
      rw [show ((j+1:Nat):Int)=(j:Int)+1 from rfl] at b0 b1 ⊢
      have d0:(0:Int)≤(j:Int):=by omega
      have d1:(j:Int)<(n:Int):=by omega
      have g0:decide ((0:Int)<(j:Int)+1)=true:=decide_eq_true (by omega)
      have g1:(0:Int)<(j:Int)+1:=by omega
      have e0:((j:Int)+1).toNat=j+1:=by omega
      have ew:IntKind.i64.wrap (j:Int)=(j:Int):=by rw [IntKind.wrap_i64];omega
      have ew1:IntKind.i64.wrap ((j:Int)+1)=(j:Int)+1:=by rw [IntKind.wrap_i64];omega
      cases hle:nleB nm pn
      ·have ai:=hls hle
       have HM:=Lib.hid (hms hle)
       clear hge hls hof hms hle hbel hpn hris
       go_wp2_with (first
        | (go_at_call 106;refine (C1.out _).mono ?_;rintro e w1 ⟨rfl,rfl⟩)
        | (go_at_call 107;refine (C2.out _).mono ?_;rintro e w1 ⟨rfl,rfl⟩))
       go_quiet (fail)
       have ae:=aN aa.out nq
       clear q0 q1 r0
       generalize (wr.alloc (.cells #[.string nm,.int .i64 id] 90)).drewN nq=wx at ae ⊢
       go_wp2
       go_roundw
       case rel=>exact ⟨j+2,by omega,by go_num,af,HM,ae⟩
       case measure=>simp [intOf];omega
      ·have ai:=hge hle
       have h0:=hof hle
       subst h0
       clear hge hls hof hms hle hbel hpn hris
       go_wp2_with (first
        | (go_at_call 106;refine (C1.out _).mono ?_;rintro e w1 ⟨rfl,rfl⟩)
        | (go_at_call 107;refine (C2.out _).mono ?_;rintro e w1 ⟨rfl,rfl⟩))
       go_quiet (fail)
       go_wp2
       go_ret
       exact ⟨rfl,aN aa.out _⟩
  ·obtain rfl:k=n:=by omega
   have h0:r=true:=by
    rw [← HF.out,aW]
    exact ⟨fun i hi=>hall.out i (by rw [← HN.out];exact hi),by rw [HN.out];omega,(gS l).2 fun i hi=>hris.out i (by rw [← HN.out];exact hi)⟩
   subst h0
   clear hall hris
   go_wp2
   go_ret
   exact ⟨rfl,hbel⟩
end Go.Proofs.YtbagenpobcgjnaaGreat
