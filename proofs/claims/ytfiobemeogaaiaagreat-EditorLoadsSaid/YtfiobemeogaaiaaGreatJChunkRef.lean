/-
  Joined: ChunkRef, ChunkRef2, ChunkDev, ChunkJoin.
-/
import Derived.Test.YtfiobemeogaaiaaGreatJUtfRTake
import Derived.Test.YtfiobemeogaaiaaGreatJOpenEd
import Derived.Test.YtfiobemeogaaiaaGreatJBlk
import Derived.Deep.QuietTactic
import Derived.BigQuiet
import Derived.Deep.RegionHeld3
variable {a b x:ByteArray} {l:List ByteArray} {k:Nat} {w:Go.World}
namespace Go.Proofs.YtfiobemeogaaiaaGreat
open Go.RowKit
set_option linter.unusedVariables false
theorem AN (s:ByteArray) (h:¬ 1≤s.size):fitsB s=false:=by unfold fitsB;rw [decide_eq_false h];rfl
theorem GR (s:ByteArray) (h:¬ s.size≤16):fitsB s=false:=by unfold fitsB;rw [decide_eq_false h,Bool.false_and,Bool.and_false]
theorem LO (s:ByteArray) (h1:1≤s.size) (h2:s.size≤16):fitsB s=vldB s.data.toList:=by unfold fitsB;rw [decide_eq_true h1,decide_eq_true h2];rfl
set_option linter.unusedSimpArgs false
def RetTight (w:World) (l:List ByteArray) (e:Ending) (w':World):Prop:=∃ b:Bool,e=.returned (.bool b)∧(b=true↔TightP l)∧Below w.heap.size w w'
def TightUp (l:List ByteArray) (k:Nat):Prop:=∀ (i:Nat) (h:i<l.length),i<k→fitsP l[i]∧∀ (h0:0<i),16<(l[i - 1]'(by omega)).size+l[i].size
theorem lF (h:TightUp l k) (hk:k<l.length) (hf:fitsB l[k]=true) (h2:∀ h0:0<k,16<(l[k - 1]'(by omega)).size+l[k].size):TightUp l (k+1):=by
 intro i hi hik
 rcases Nat.lt_or_ge i k with g|g
 ·exact h i hi g
 ·obtain rfl:i=k:=by omega
  exact ⟨(aK _).1 hf,h2⟩
theorem yE (h:TightUp l k) (hk:l.length≤k):TightP l:=fun i hi=>h i hi (by omega)
theorem jX (hk:k<l.length) (h:fitsB l[k]=false):¬ TightP l:=fun g=>by
 have:=(aK _).2 (g k hk).1
 rw [h] at this;cases this
theorem pW (hk:k<l.length) (h0:0<k) (h:(l[k - 1]'(by omega)).size+l[k].size≤16):¬ TightP l:=fun g=>by
 have:=(g k hk).2 h0
 omega
theorem BJ {j:Nat} {y:ByteArray} (hT:TightUp l (j+1)) (hj:j+1<l.length) (hx:l[j+1]'hj=x) (hy:l[j]'(by omega)=y) :
 (fitsB x=true→16<y.size+x.size→TightUp l (j+1+1))∧(fitsB x=false→¬ TightP l)∧(y.size+x.size≤16→¬ TightP l):=by
 subst hx hy
 exact ⟨fun h1 h2=>lF hT hj h1 fun _=>h2,fun h=>jX hj h,fun h=>pW hj (Nat.succ_pos j) h⟩
theorem AM (hj:0<l.length) (hx:l[0]'hj=x) :
 (fitsB x=true→TightUp l (0+1))∧(fitsB x=false→¬ TightP l):=by
 subst hx
 exact ⟨fun h1=>lF (fun i _ h=>absurd h (Nat.not_lt_zero i)) hj h1 fun h=>absurd h (Nat.lt_irrefl 0),fun h=>jX hj h⟩
structure C2 (w:World) (p q:Addr) (u v:Value) (w':World):Prop where
 B:Below w.heap.size w w'
 p:w'.cell? p=some u
 q:w'.cell? q=some v
theorem C2.on {w1 w2:World} {p q:Addr} {u v:Value} (h:C2 w p q u v w1) (hp:p.block<w1.heap.size) (hq:q.block<w1.heap.size) (hb:Below w1.heap.size w1 w2):C2 w p q u v w2:=
 ⟨h.B.trans (hb.mono h.B.size),(hb.cell hp).trans h.p,(hb.cell hq).trans h.q⟩
open Go.Proofs.Tryz
open Lib (hid)
theorem kW {s:ByteArray} (h:s.size=0):s=⟨#[]⟩:=by
 apply aR
 rw [List.eq_nil_of_length_eq_zero (l:=s.data.toList) (by simpa using h)]
theorem lO {s:ByteArray} (h:1≤s.size):(s.toList != [])=true:=by
 have e:=lE s
 rw [decide_eq_false (by omega)] at e
 cases hl:s.toList with
 | nil=>rw [hl] at e;cases e
 | cons a l=>rfl
theorem eJ {s:ByteArray} (h:1≤s.size):s.toList.isEmpty=false:=by
 rw [lE];exact decide_eq_false (by omega)
set_option maxRecDepth 100000 in
theorem dA (s:ByteArray) (h:s.size≤16) (w:World) :
 Calls prog 119 #[.string s] w fun e w'=>e=.returned (.bool true)∧w=w':=by
 go_enter func119,ntmps119
 go_wp2
 go_ret
 exact ⟨aO (by simp;omega),rfl⟩
set_option maxRecDepth 100000 in
theorem gL (s:ByteArray) (h:¬ s.size≤16) (w:World) :
 Calls prog 119 #[.string s] w fun e w'=>e=.returned (.bool false)∧w=w':=by
 go_enter func119,ntmps119
 go_wp2
 go_ret
 exact ⟨aO (by simp;omega),rfl⟩
set_option maxRecDepth 100000 in
set_option maxHeartbeats 400000 in
theorem dT (s:ByteArray) (hs:s.size≤maxLen) (w:World) :
 Calls prog 118 #[.string s] w fun e w'=>e=.returned (.bool (fitsB s))∧Below w.heap.size w w':=by
 have hv:=dX s hs
 by_cases h1:1≤s.size
 ·have t1:=lO h1
  have t2:=eJ h1
  by_cases h2:s.size≤16
  ·rw [LO s h1 h2]
   have c1:=dA s h2
   obtain ⟨b,hb⟩:∃ b,vldB s.data.toList=b:=⟨_,rfl⟩
   rw [hb] at hv ⊢
   have HV:=hid hv;have C1:=hid c1;clear hv hb c1
   go_enter func118,ntmps118
   go_wp2_with fail
   refine (C1.out _).mono ?_;rintro e w' ⟨rfl,rfl⟩
   go_wp2_with fail
   refine (HV.out _).mono ?_;rintro e w' ⟨rfl,aa⟩
   go_wp2
   go_ret
   exact ⟨aO (by simp),aa⟩
  ·rw [GR s h2]
   have c1:=gL s h2
   have C1:=hid c1
   clear hv c1
   go_enter func118,ntmps118
   go_wp2_with fail
   refine (C1.out _).mono ?_;rintro e w' ⟨rfl,rfl⟩
   go_wp2
   go_ret
   exact ⟨aO (by simp),Below.refl _ _⟩
 ·rw [AN s h1]
  obtain rfl:=kW (s:=s) (by omega)
  clear hv h1
  go_enter func118,ntmps118
  go_wp2
  go_ret
  exact ⟨aO (by simp),Below.refl _ _⟩
set_option maxRecDepth 100000 in
set_option maxHeartbeats 400000 in
theorem JU (s:ByteArray) (hs:s.size≤1000000) (w:World) :
 Calls prog 187 #[.string s] w fun e w'=>e=.returned (.tuple #[.string (s.extract 0 (halfN s)),.string (s.extract (halfN s) s.size)])∧Below w.heap.size w w':=by
 have hb:=iW s (by unfold maxLen;omega) ((s.size:Int) - (s.size:Int) / 2)
 have e:backI s.data.toList ((s.size:Int) - (s.size:Int) / 2)=halfN s:=by
  rw [show (s.size:Int) - (s.size:Int) / 2=(((s.size+1) / 2:Nat):Int) by omega,lH _ _ (by simp;omega)]
  rfl
 rw [e] at hb
 have hn:=nV s
 obtain ⟨n,hh⟩:∃ n,halfN s=n:=⟨_,rfl⟩
 rw [hh] at hb hn ⊢
 have HB:=hid hb;clear hb hh e
 go_enter func187,ntmps187
 go_wp2_with fail
 refine (HB.out _).mono ?_;rintro e w' ⟨rfl,rfl⟩
 go_wp2
 go_quiet (fail)
 go_wp2
 go_ret2
 exact ⟨rfl,aB (Below.refl _ _) _⟩
set_option maxRecDepth 100000 in
set_option maxHeartbeats 1600000 in
theorem JA (a:Option Addr) (l:List ByteArray) (c:Nat) (w:World) (h1:StrsH w a l) (hl:l.length≤1000000) (hz:∀ (k:Nat) (h:k<l.length),l[k].size≤1000000) :
 Calls prog 79 #[.slice a l.length c] w (RetTight w l):=by
 obtain ⟨n,hn⟩:∃ n,l.length=n:=⟨_,rfl⟩
 rw [hn] at hl ⊢
 have HN:=hid hn;have H1:=hid h1;have HZ:=hid hz
 clear hn h1 hz
 go_enter func79,ntmps79
 go_wp2
 go_loopw [7] (fun i wr=>∃ k:Nat,k≤n∧i=.int .i64 k∧TightUp l k∧Below w.heap.size w wr) (fun i _=>n - (intOf i).toNat)
 case atStart=>exact ⟨0,Nat.zero_le _,rfl,fun i _ h=>absurd h (Nat.not_lt_zero i),Below.refl _ _⟩
 case round =>
  obtain ⟨k,hk,rfl,hT,hbel⟩:=hrel
  by_cases hlt:k<n
  ·have hkl:k<l.length:=by rw [HN.out];exact hlt
   obtain ⟨ad,rfl,hab,q0⟩:=(H1.out.on hbel) k hkl
   have hzx:=HZ.out k hkl
   have cf:=dT (l[k]'hkl) (by unfold maxLen;omega)
   cases k with
   | zero =>
    have hst:=AM hkl rfl
    rw [show ((0:Nat):Int)=0 from rfl]
    obtain ⟨x,hx⟩:∃ x,l[0]'hkl=x:=⟨_,rfl⟩
    rw [hx] at q0 cf hst
    have hq:wr.cell? ad=some (.string x):=by simpa [Addr.add] using q0
    have af:=hid hst;have ab:=hid hbel
    have b1:(0:Int)<(n:Int):=by omega
    clear hx hab q0 hT hbel hst hzx hkl hk
    by_cases hf:fitsB x=true
    ·rw [hf] at cf
     have CF:=hid cf;have HT:=hid (af.out.1 hf)
     clear cf hf
     go_wp2_with fail
     refine (CF.out _).mono ?_;rintro e w3 ⟨rfl,aa⟩
     have ac:=hid (ab.out.trans (aa.mono ab.out.size))
     clear aa
     go_wp2
     go_roundw
     case rel=>exact ⟨1,by omega,by first|rfl|go_num,HT.out,ac.out⟩
     case measure=>simp [intOf];omega
    ·have hf:fitsB x=false:=Bool.eq_false_iff.2 hf
     rw [hf] at cf
     have CF:=hid cf;have HT:=hid (af.out.2 hf)
     clear cf hf
     go_wp2_with fail
     refine (CF.out _).mono ?_;rintro e w3 ⟨rfl,aa⟩
     have ac:=hid (ab.out.trans (aa.mono ab.out.size))
     clear aa
     go_wp2
     go_ret
     exact ⟨false,rfl,⟨(fun h=>Bool.noConfusion h),fun h=>absurd h HT.out⟩,ac.out⟩
   | succ j =>
    obtain ⟨ad2,had,aj,r0⟩:=(H1.out.on hbel) j (by omega)
    obtain rfl:ad=ad2:=by cases had;rfl
    have hzy:=HZ.out j (by omega)
    have hst:=BJ hT hkl rfl rfl
    obtain ⟨x,hx⟩:∃ x,l[j+1]'hkl=x:=⟨_,rfl⟩
    obtain ⟨y,hy⟩:∃ y,l[j]'(by omega)=y:=⟨_,rfl⟩
    rw [hx] at q0 hzx cf hst
    rw [hy] at r0 hzy hst
    have hq:wr.cell? ⟨ad.block,ad.off+(j+1),none⟩=some (.string x):=by simpa [Addr.add] using q0
    have HC:=hid (show C2 w ⟨ad.block,ad.off+(j+1),none⟩ (ad.add j) (.string x) (.string y) wr from ⟨hbel,hq,r0⟩)
    have ah:ad.block<wr.heap.size:=hab
    have ai:(ad.add j).block<wr.heap.size:=by rw [sF];exact hab
    have ag:=hid ah;have ac:=hid ai;have af:=hid hst
    rw [show ((j+1:Nat):Int)=(j:Int)+1 from rfl]
    have b2:(0:Int)≤(j:Int):=by omega
    have b3:(j:Int)<(n:Int):=by omega
    have b4:(j:Int)+1<(n:Int):=by omega
    have b5:(0:Int)≤(j:Int)+1:=by omega
    have b6:(0:Int)<(j:Int)+1:=by omega
    have b7:y.size+x.size≤9223372036854775807:=by omega
    clear hx hy had hab aj q0 r0 hT ah ai hbel hst hzx hzy hkl hk
    by_cases hf:fitsB x=true
    ·rw [hf] at cf
     have CF:=hid cf
     clear cf
     by_cases hp:y.size+x.size≤16
     ·have HT:=hid (af.out.2.2 hp)
      have c2:=dA (y++x) (by rw [ByteArray.size_append];exact hp)
      have C2:=hid c2
      clear hf c2
      go_wp2_with fail
      refine (CF.out _).mono ?_;rintro e w3 ⟨rfl,aa⟩
      have ae:=hid (HC.out.on ag.out ac.out aa)
      have q1:=ae.out.q
      clear aa hq
      go_wp2_with fail
      refine (C2.out _).mono ?_;rintro e w4 ⟨rfl,rfl⟩
      go_wp2
      go_ret
      exact ⟨false,rfl,⟨(fun h=>Bool.noConfusion h),fun h=>absurd h HT.out⟩,ae.out.B⟩
     ·have HT:=hid (af.out.1 hf (by omega))
      have c2:=gL (y++x) (by rw [ByteArray.size_append];exact hp)
      have C2:=hid c2
      clear hf c2
      go_wp2_with fail
      refine (CF.out _).mono ?_;rintro e w3 ⟨rfl,aa⟩
      have ae:=hid (HC.out.on ag.out ac.out aa)
      have q1:=ae.out.q
      clear aa hq
      go_wp2_with fail
      refine (C2.out _).mono ?_;rintro e w4 ⟨rfl,rfl⟩
      go_wp2
      go_roundw
      case rel=>exact ⟨j+1+1,by omega,by go_num,HT.out,ae.out.B⟩
      case measure=>simp [intOf];omega
    ·have hf:fitsB x=false:=Bool.eq_false_iff.2 hf
     rw [hf] at cf
     have CF:=hid cf;have HT:=hid (af.out.2.1 hf)
     clear cf hf
     go_wp2_with fail
     refine (CF.out _).mono ?_;rintro e w3 ⟨rfl,aa⟩
     have ae:=hid (HC.out.on ag.out ac.out aa)
     clear aa hq
     go_wp2
     go_ret
     exact ⟨false,rfl,⟨(fun h=>Bool.noConfusion h),fun h=>absurd h HT.out⟩,ae.out.B⟩
  ·obtain rfl:k=n:=by omega
   have HT:=hid (yE hT (by rw [HN.out];exact Nat.le_refl _));have ab:=hid hbel
   clear hT hbel
   go_wp2
   go_ret
   exact ⟨true,rfl,⟨fun _=>HT.out,fun _=>rfl⟩,ab.out⟩
theorem wJ (h:¬ (fitsB a=true∧fitsB b=true)):joinL a b=[]:=by unfold joinL;rw [if_neg h]
theorem KY (h:fitsB a=true∧fitsB b=true) (h1:(a++b).size≤16):joinL a b=[a++b]:=by unfold joinL;rw [if_pos h,if_pos h1]
theorem GG (h:fitsB a=true∧fitsB b=true) (h1:¬ (a++b).size≤16) (h2:fitsB ((a++b).extract 0 (halfN (a++b)))=true∧fitsB ((a++b).extract (halfN (a++b)) (a++b).size)=true) :
 joinL a b=[(a++b).extract 0 (halfN (a++b)),(a++b).extract (halfN (a++b)) (a++b).size]:=by unfold joinL;rw [if_pos h,if_neg h1,if_pos h2]
theorem IK (h:fitsB a=true∧fitsB b=true) (h1:¬ (a++b).size≤16) (h2:¬ (fitsB ((a++b).extract 0 (halfN (a++b)))=true∧fitsB ((a++b).extract (halfN (a++b)) (a++b).size)=true)) :
 joinL a b=[a,b]:=by unfold joinL;rw [if_pos h,if_neg h1,if_neg h2]
theorem pU {w':World} (h:Below w.heap.size w w'):RetStrs w [] (.returned (.slice none 0 0)) w':=⟨none,0,rfl,fun k hk=>absurd hk (by simp),h⟩
theorem OH {w1:World} {t:TypeId} (h:Below w.heap.size w w1):RetStrs w [x] (.returned (.slice (some ⟨w1.heap.size,0,none⟩) 1 1)) (w1.alloc (.cells #[.string x] t)):=
 ⟨_,1,rfl,LN (Below.refl _ _),h.alloc h.size _⟩
theorem nG {w1:World} {y:ByteArray} {t:TypeId} (h:Below w.heap.size w w1):RetStrs w [x,y] (.returned (.slice (some ⟨w1.heap.size,0,none⟩) 2 2)) (w1.alloc (.cells #[.string x,.string y] t)):=
 ⟨_,2,rfl,uN (Below.refl _ _),h.alloc h.size _⟩
set_option maxRecDepth 100000 in
set_option maxHeartbeats 800000 in
theorem tJ (a b:ByteArray) (ha:a.size≤1000000) (hb:b.size≤1000000) (w:World) :
 Calls prog 170 #[.string a,.string b] w (RetStrs w (joinL a b)):=by
 have ca:=dT a (by first|omega|(unfold maxLen;omega))
 have cb:=dT b (by first|omega|(unfold maxLen;omega))
 have ac:=Below.refl w.heap.size w
 by_cases h1:fitsB a=true
 ·by_cases h2:fitsB b=true
  ·have s1:=((aK _).1 h1).2.1
   have s2:=((aK _).1 h2).2.1
   have hz:(a++b).size=a.size+b.size:=ByteArray.size_append
   by_cases h3:(a++b).size≤16
   ·rw [KY ⟨h1,h2⟩ h3]
    rw [h1] at ca
    rw [h2] at cb
    have d1:a.size+b.size≤16:=by omega
    have d2:(a.size:Int)+(b.size:Int)≤16:=by omega
    have CA:=hid ca;have CB:=hid cb;have CS:=hid (dA (a++b) h3)
    clear ca cb h1 h2 h3 hz
    go_enter func170,ntmps170
    go_wp2_with fail
    refine (onward (w0:=w) ac (CA.out _)).mono ?_;rintro e w1 ⟨rfl,aa⟩
    go_wp2_with fail
    refine (onward (w0:=w) aa (CB.out _)).mono ?_;rintro e w2 ⟨rfl,ab⟩
    go_wp2_with fail
    refine (CS.out _).mono ?_;rintro e w9 ⟨rfl,rfl⟩
    go_wp2
    go_ret
    exact OH ab
   ·have ch:=JU (a++b) (by omega)
    have hx:=bF (a++b) (halfN (a++b)) (nV _)
    have hy:=cJ (a++b) (halfN (a++b))
    have hn:=nV (a++b)
    have cx:=dT ((a++b).extract 0 (halfN (a++b))) (by first|omega|(unfold maxLen;omega))
    have cy:=dT ((a++b).extract (halfN (a++b)) (a++b).size) (by first|omega|(unfold maxLen;omega))
    have j1:=fun h=>GG ⟨h1,h2⟩ h3 h
    have j2:=fun h=>IK ⟨h1,h2⟩ h3 h
    obtain ⟨x,hxx⟩:∃ x,(a++b).extract 0 (halfN (a++b))=x:=⟨_,rfl⟩
    obtain ⟨y,hyy⟩:∃ y,(a++b).extract (halfN (a++b)) (a++b).size=y:=⟨_,rfl⟩
    simp only [hxx] at ch cx j1 j2
    simp only [hyy] at ch cy j1 j2
    rw [h1] at ca
    rw [h2] at cb
    have d1:¬ a.size+b.size≤16:=by omega
    have d2:¬ (a.size:Int)+(b.size:Int)≤16:=by omega
    have CA:=hid ca;have CB:=hid cb;have CH:=hid ch;have CS:=hid (gL (a++b) h3)
    clear ca cb ch h1 h2 h3 hz hx hy hn hxx hyy
    by_cases g1:fitsB x=true
    ·rw [g1] at cx
     by_cases g2:fitsB y=true
     ·rw [j1 ⟨g1,g2⟩]
      rw [g2] at cy
      have CX:=hid cx;have CY:=hid cy
      clear cx cy g1 g2 j1 j2
      go_enter func170,ntmps170
      go_wp2_with fail
      refine (onward (w0:=w) ac (CA.out _)).mono ?_;rintro e w1 ⟨rfl,aa⟩
      go_wp2_with fail
      refine (onward (w0:=w) aa (CB.out _)).mono ?_;rintro e w2 ⟨rfl,ab⟩
      go_wp2_with fail
      refine (CS.out _).mono ?_;rintro e w9 ⟨rfl,rfl⟩
      go_wp2_with fail
      refine (onward (w0:=w) ab (CH.out _)).mono ?_;rintro e w3 ⟨rfl,ad⟩
      go_wp2_with fail
      refine (onward (w0:=w) ad (CX.out _)).mono ?_;rintro e w4 ⟨rfl,ae⟩
      go_wp2_with fail
      refine (onward (w0:=w) ae (CY.out _)).mono ?_;rintro e w5 ⟨rfl,af⟩
      go_wp2
      go_ret
      exact nG af
     ·rw [j2 (fun h=>g2 h.2)]
      rw [Bool.eq_false_iff.2 g2] at cy
      have CX:=hid cx;have CY:=hid cy
      clear cx cy g1 g2 j1 j2
      go_enter func170,ntmps170
      go_wp2_with fail
      refine (onward (w0:=w) ac (CA.out _)).mono ?_;rintro e w1 ⟨rfl,aa⟩
      go_wp2_with fail
      refine (onward (w0:=w) aa (CB.out _)).mono ?_;rintro e w2 ⟨rfl,ab⟩
      go_wp2_with fail
      refine (CS.out _).mono ?_;rintro e w9 ⟨rfl,rfl⟩
      go_wp2_with fail
      refine (onward (w0:=w) ab (CH.out _)).mono ?_;rintro e w3 ⟨rfl,ad⟩
      go_wp2_with fail
      refine (onward (w0:=w) ad (CX.out _)).mono ?_;rintro e w4 ⟨rfl,ae⟩
      go_wp2_with fail
      refine (onward (w0:=w) ae (CY.out _)).mono ?_;rintro e w5 ⟨rfl,af⟩
      go_wp2
      go_ret
      exact nG af
    ·rw [j2 (fun h=>g1 h.1)]
     rw [Bool.eq_false_iff.2 g1] at cx
     have CX:=hid cx
     clear cx cy g1 j1 j2
     go_enter func170,ntmps170
     go_wp2_with fail
     refine (onward (w0:=w) ac (CA.out _)).mono ?_;rintro e w1 ⟨rfl,aa⟩
     go_wp2_with fail
     refine (onward (w0:=w) aa (CB.out _)).mono ?_;rintro e w2 ⟨rfl,ab⟩
     go_wp2_with fail
     refine (CS.out _).mono ?_;rintro e w9 ⟨rfl,rfl⟩
     go_wp2_with fail
     refine (onward (w0:=w) ab (CH.out _)).mono ?_;rintro e w3 ⟨rfl,ad⟩
     go_wp2_with fail
     refine (onward (w0:=w) ad (CX.out _)).mono ?_;rintro e w4 ⟨rfl,ae⟩
     go_wp2
     go_ret
     exact nG ae
  ·rw [wJ (fun h=>h2 h.2)]
   rw [h1] at ca
   rw [Bool.eq_false_iff.2 h2] at cb
   have CA:=hid ca;have CB:=hid cb
   clear ca cb h1 h2
   go_enter func170,ntmps170
   go_wp2_with fail
   refine (onward (w0:=w) ac (CA.out _)).mono ?_;rintro e w1 ⟨rfl,aa⟩
   go_wp2_with fail
   refine (onward (w0:=w) aa (CB.out _)).mono ?_;rintro e w2 ⟨rfl,ab⟩
   go_wp2
   go_ret
   exact pU ab
 ·rw [wJ (fun h=>h1 h.1)]
  rw [Bool.eq_false_iff.2 h1] at ca
  have CA:=hid ca
  clear ca cb h1
  go_enter func170,ntmps170
  go_wp2_with fail
  refine (onward (w0:=w) ac (CA.out _)).mono ?_;rintro e w1 ⟨rfl,aa⟩
  go_wp2
  go_ret
  exact pU aa
end Go.Proofs.YtfiobemeogaaiaaGreat
