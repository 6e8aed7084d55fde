/-
  MarkRef
-/
import Derived.Test.YtfiobemeogaaiaaGreatJMarkMath
import Derived.Test.YtfiobemeogaaiaaGreatJOpRef
import Derived.BigQuiet
import Derived.Deep.DeepCutAuto
import Derived.Deep.QuietTactic
import Derived.WalkLawsBesides
namespace Go.Proofs.YtfiobemeogaaiaaGreat
open Lib (hid)
open Go.RowKit
set_option linter.unusedVariables false
set_option maxRecDepth 100000 in
set_option maxHeartbeats 400000 in
theorem JC (a:Option Addr) (l:List Mrk) (c:Nat) (s:ByteArray) (B:Nat→Prop) (w:World) (hr:Mrks w B a l) (hl:l.length≤1000000) :
 Calls Tryz.prog 15 #[.slice a l.length c,.string s] w fun e w'=>e=.returned (.tuple #[.int .i64 (fndM l s).1,.bool (fndM l s).2])∧w=w':=by
 obtain ⟨n,hn⟩:∃ n,l.length=n:=⟨_,rfl⟩
 rw [hn] at hl ⊢
 have HN:=hid hn;have HR:=hid hr
 clear hn hr
 obtain ⟨r,hfr⟩:∃ r,fndM l s=r:=⟨_,rfl⟩
 rw [hfr]
 have HF:=hid hfr;clear hfr
 go_enter Tryz.func15,Tryz.ntmps15
 go_wp2
 go_loop [6] (fun i=>∃ k:Nat,k≤n∧i=.int .i64 k∧∀ j,j<k→nmB s l[j]! = false) (fun i=>n - (intOf i).toNat)
 case atStart=>exact ⟨0,Nat.zero_le _,rfl,fun j hj=>absurd hj (Nat.not_lt_zero _)⟩
 case round =>
  obtain ⟨k,hk,rfl,hnone⟩:=hrel
  by_cases hlt:k<n
  ·have hkl:k<l.length:=by rw [HN.out];exact hlt
   obtain ⟨ad,rfl,hab,q0,q1⟩:=HR.out k hkl
   have hs:=GJ (s:=s) hkl hnone
   have ht:¬ (l[k]!).name=s→nmB s l[k]! = false:=fun h=>by unfold nmB;exact decide_eq_false h
   have hx:=mget hkl
   rw [← hx] at q0 q1
   obtain ⟨x,hx⟩:∃ x,l[k]! = x:=⟨_,rfl⟩
   rw [hx] at q0 q1 hs ht
   obtain ⟨nm,id⟩:=x
   simp only at q0 q1 hs ht
   have b0:(0:Int)≤(k:Int):=by omega
   have b1:(k:Int)<(n:Int):=by omega
   by_cases he:nm=s
   ·subst he
    have aa:=hs rfl
    rw [HF.out] at aa
    subst aa
    clear ht hs hnone hx
    go_wp2
    go_ret2
    exact ⟨rfl,rfl⟩
   ·have hne:=dG he
    have HT:=hid (gC hnone (by rw [hx];exact ht he))
    clear ht hs hnone he hx
    go_wp2
    go_round
    case rel=>exact ⟨k+1,by omega,by go_num,HT.out⟩
    case measure=>simp [intOf];omega
  ·obtain rfl:k=n:=by omega
   have h0:r=(0,false):=by
    rw [← HF.out]
    exact IW (by rw [HN.out];exact hnone)
   subst h0
   clear hnone
   go_wp2
   go_ret2
   exact ⟨rfl,rfl⟩
set_option maxRecDepth 100000 in
set_option maxHeartbeats 800000 in
theorem rT (a b:Option Addr) (la lb:List Mrk) (c d:Nat) (Ba Bb:Nat→Prop) (w:World) (ha:Mrks w Ba a la) (hb:Mrks w Bb b lb) (hA:∀ b,Ba b→b<w.heap.size) (hB:∀ b,Bb b→b<w.heap.size) (hl:la.length≤1000000) (hl2:lb.length≤1000000) :
 Calls Tryz.prog 34 #[.slice a la.length c,.slice b lb.length d] w fun e w'=>e=.returned (.bool (decide (la=lb)))∧Below w.heap.size w w':=by
 by_cases hne:la.length=lb.length
 case neg =>
  have h0:decide (la=lb)=false:=decide_eq_false fun e=>hne (by rw [e])
  rw [h0]
  obtain ⟨n,hn⟩:∃ n,la.length=n:=⟨_,rfl⟩
  obtain ⟨m,hm⟩:∃ n,lb.length=n:=⟨_,rfl⟩
  rw [hn] at hl hne ⊢
  rw [hm] at hl2 hne ⊢
  clear hn hm ha hb
  have ac:¬ (n:Int)=(m:Int):=by omega
  go_enter Tryz.func34,Tryz.ntmps34
  go_wp2
  go_ret
  exact ⟨rfl,Below.refl _ _⟩
 obtain ⟨n,hn⟩:∃ n,la.length=n:=⟨_,rfl⟩
 rw [← hne,hn]
 rw [hn] at hl
 have HN:=hid hn;have HR:=hid ha;have HS:=hid hb;have HE:=hid hne
 clear hn ha hb hl2 hne
 obtain ⟨r,hfr⟩:∃ r,decide (la=lb)=r:=⟨_,rfl⟩
 rw [hfr]
 have HF:=hid hfr;clear hfr
 go_enter Tryz.func34,Tryz.ntmps34
 go_wp2
 go_loopw [5] (fun i wr=>∃ k:Nat,k≤n∧i=.int .i64 k∧(∀ j,j<k→la[j]! = lb[j]!)∧Below w.heap.size w wr) (fun i _=>n - (intOf i).toNat)
 case atStart=>exact ⟨0,Nat.zero_le _,rfl,fun j hj=>absurd hj (Nat.not_lt_zero _),Below.refl _ _⟩
 case round =>
  obtain ⟨k,hk,rfl,hall,hbel⟩:=hrel
  by_cases hlt:k<n
  ·have hkl:k<la.length:=by rw [HN.out];exact hlt
   have aa:k<lb.length:=by rw [← HE.out];exact hkl
   obtain ⟨ad,rfl,hab,q0,q1⟩:=(HR.out.below hA hbel) k hkl
   obtain ⟨bd,rfl,hbb,r0,r1⟩:=(HS.out.below hB hbel) k aa
   rw [← mget hkl] at q0 q1
   rw [← mget aa] at r0 r1
   have hyes:=yW (a:=la) (b:=lb) hall
   have hno:¬ la[k]! = lb[k]! → decide (la=lb)=false:=fun h=>decide_eq_false fun e=>h (by rw [e])
   obtain ⟨x,hx⟩:∃ x,la[k]! = x:=⟨_,rfl⟩
   obtain ⟨y,hy⟩:∃ x,lb[k]! = x:=⟨_,rfl⟩
   rw [hx] at q0 q1 hyes hno
   rw [hy] at r0 r1 hyes hno
   clear hall hx hy
   have b0:(0:Int)≤(k:Int):=by omega
   have b1:(k:Int)<(n:Int):=by omega
   by_cases he:x=y
   ·subst he
    have HY:=hid (hyes rfl)
    obtain ⟨nm,id⟩:=x
    simp only at q0 q1 r0 r1
    clear hyes hno
    go_wp2_with fail
    go_quiet (fail)
    have ab:=aJ hbel nq
    clear hbel q0 q1 r0 r1
    generalize wr.drewN nq=wx at ab ⊢
    go_wp2
    go_roundw
    case rel=>exact ⟨k+1,by omega,by go_num,HY.out,ab⟩
    case measure=>simp [intOf];omega
   ·have h0:=hno he
    rw [HF.out] at h0
    subst h0
    have hp:=IA he
    obtain ⟨nm,id⟩:=x
    obtain ⟨nm2,id2⟩:=y
    simp only at q0 q1 r0 r1 hp
    clear hyes hno he
    rcases hp with g|⟨rfl,g⟩
    ·have g1:=dG g
     clear g
     go_wp2_with fail
     go_quiet (fail)
     go_wp2
     go_ret
     exact ⟨rfl,aJ hbel _⟩
    ·have g1:(id == id2)=false:=beq_eq_false_iff_ne.2 g
     go_wp2_with fail
     go_quiet (fail)
     go_wp2
     go_ret
     exact ⟨rfl,aJ hbel _⟩
  ·obtain rfl:k=n:=by omega
   have h0:r=true:=by
    rw [← HF.out]
    exact decide_eq_true (ED HE.out (by rw [HN.out];exact hall))
   subst h0
   clear hall
   go_wp2
   go_ret
   exact ⟨rfl,hbel⟩
end Go.Proofs.YtfiobemeogaaiaaGreat
