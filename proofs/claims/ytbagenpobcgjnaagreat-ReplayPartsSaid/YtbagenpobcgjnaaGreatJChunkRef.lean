/-
  Joined: ChunkRef, ChunkRef2, ChunkDev, ChunkJoin.
-/
import Derived.Test.YtbagenpobcgjnaaGreatJUtfRTake
import Derived.Test.YtbagenpobcgjnaaGreatJStrs
import Derived.Test.YtbagenpobcgjnaaGreatJCells
import Derived.Deep.QuietTactic
import Derived.BigQuiet
import Derived.Deep.RegionHeld3
variable {a b:ByteArray}
namespace Go.Proofs.YtbagenpobcgjnaaGreat
open Go.RowKit
set_option linter.unusedVariables false
theorem AE (s:ByteArray) (h:¬ 1≤s.size):fitsB s=false:=by unfold fitsB;rw [decide_eq_false h];rfl
theorem EZ (s:ByteArray) (h:¬ s.size≤16):fitsB s=false:=by unfold fitsB;rw [decide_eq_false h,Bool.false_and,Bool.and_false]
theorem LP (s:ByteArray) (h1:1≤s.size) (h2:s.size≤16):fitsB s=vldB s.data.toList:=by unfold fitsB;rw [decide_eq_true h1,decide_eq_true h2];rfl
set_option linter.unusedSimpArgs false
structure C2 (w:World) (p q:Addr) (u v:Value) (w':World):Prop where
 B:Below w.heap.size w w'
 p:w'.cell? p=some u
 q:w'.cell? q=some v
open Go.Proofs.Tryz
set_option maxRecDepth 100000
open Lib (hid)
theorem kK {s:ByteArray} (h:s.size=0):s=⟨#[]⟩:=by
 apply aI
 rw [List.eq_nil_of_length_eq_zero (l:=s.data.toList) (by simpa using h)]
theorem jY {s:ByteArray} (h:1≤s.size):(s.toList != [])=true:=by
 have e:=aD s
 rw [decide_eq_false (by omega)] at e
 cases hl:s.toList with
 | nil=>rw [hl] at e;cases e
 | cons a l=>rfl
theorem eB {s:ByteArray} (h:1≤s.size):s.toList.isEmpty=false:=by
 rw [aD];exact decide_eq_false (by omega)
theorem dR (s:ByteArray) (h:s.size≤16) (w:World) :
 Calls prog 189 #[.string s] w fun e w'=>e=.returned (.bool true)∧w=w':=by
 go_enter func189,ntmps189
 go_wp2
 go_ret
 exact ⟨aA (by simp;omega),rfl⟩
theorem iO (s:ByteArray) (h:¬ s.size≤16) (w:World) :
 Calls prog 189 #[.string s] w fun e w'=>e=.returned (.bool false)∧w=w':=by
 go_enter func189,ntmps189
 go_wp2
 go_ret
 exact ⟨aA (by simp;omega),rfl⟩
set_option maxHeartbeats 400000 in
theorem dZ (s:ByteArray) (hs:s.size≤maxLen) (w:World) :
 Calls prog 188 #[.string s] w fun e w'=>e=.returned (.bool (fitsB s))∧Below w.heap.size w w':=by
 have hv:=dB s hs
 by_cases h1:1≤s.size
 ·have t1:=jY h1
  have t2:=eB h1
  by_cases h2:s.size≤16
  ·rw [LP s h1 h2]
   have c1:=dR s h2
   obtain ⟨b,hb⟩:∃ b,vldB s.data.toList=b:=⟨_,rfl⟩
   rw [hb] at hv ⊢
   have HV:=hid hv;have C1:=hid c1;clear hv hb c1
   go_enter func188,ntmps188
   go_wp2_with fail
   refine (C1.out _).mono ?_;rintro e w' ⟨rfl,rfl⟩
   go_wp2_with fail
   refine (HV.out _).mono ?_;rintro e w' ⟨rfl,aa⟩
   go_wp2
   go_ret
   exact ⟨aA (by simp),aa⟩
  ·rw [EZ s h2]
   have c1:=iO s h2
   have C1:=hid c1
   clear hv c1
   go_enter func188,ntmps188
   go_wp2_with fail
   refine (C1.out _).mono ?_;rintro e w' ⟨rfl,rfl⟩
   go_wp2
   go_ret
   exact ⟨aA (by simp),Below.refl _ _⟩
 ·rw [AE s h1]
  obtain rfl:=kK (s:=s) (by omega)
  clear hv h1
  go_enter func188,ntmps188
  go_wp2
  go_ret
  exact ⟨aA (by simp),Below.refl _ _⟩
set_option maxHeartbeats 400000 in
theorem IK (s:ByteArray) (hs:s.size≤1000000) (w:World) :
 Calls prog 190 #[.string s] w fun e w'=>e=.returned (.tuple #[.string (s.extract 0 (halfN s)),.string (s.extract (halfN s) s.size)])∧Below w.heap.size w w':=by
 have hb:=iK s (by unfold maxLen;omega) ((s.size:Int) - (s.size:Int) / 2)
 have e:backI s.data.toList ((s.size:Int) - (s.size:Int) / 2)=halfN s:=by
  rw [show (s.size:Int) - (s.size:Int) / 2=(((s.size+1) / 2:Nat):Int) by omega,jO _ _ (by simp;omega)]
  rfl
 rw [e] at hb
 have hn:=mN s
 obtain ⟨n,hh⟩:∃ n,halfN s=n:=⟨_,rfl⟩
 rw [hh] at hb hn ⊢
 have HB:=hid hb;clear hb hh e
 go_enter func190,ntmps190
 go_wp2_with fail
 refine (HB.out _).mono ?_;rintro e w' ⟨rfl,rfl⟩
 go_wp2
 go_quiet (fail)
 go_wp2
 go_ret2
 exact ⟨rfl,aN (Below.refl _ _) _⟩
theorem tG (h:¬ (fitsB a=true∧fitsB b=true)):joinL a b=[]:=by unfold joinL;rw [if_neg h]
theorem IB (h:fitsB a=true∧fitsB b=true) (h1:(a++b).size≤16):joinL a b=[a++b]:=by unfold joinL;rw [if_pos h,if_pos h1]
theorem FR (h:fitsB a=true∧fitsB b=true) (h1:¬ (a++b).size≤16) (h2:fitsB ((a++b).extract 0 (halfN (a++b)))=true∧fitsB ((a++b).extract (halfN (a++b)) (a++b).size)=true) :
 joinL a b=[(a++b).extract 0 (halfN (a++b)),(a++b).extract (halfN (a++b)) (a++b).size]:=by unfold joinL;rw [if_pos h,if_neg h1,if_pos h2]
theorem ES (h:fitsB a=true∧fitsB b=true) (h1:¬ (a++b).size≤16) (h2:¬ (fitsB ((a++b).extract 0 (halfN (a++b)))=true∧fitsB ((a++b).extract (halfN (a++b)) (a++b).size)=true)) :
 joinL a b=[a,b]:=by unfold joinL;rw [if_pos h,if_neg h1,if_neg h2]
theorem pC {w w':World} (h:Below w.heap.size w w'):RetStrs w [] (.returned (.slice none 0 0)) w':=⟨none,0,rfl,fun k hk=>absurd hk (by simp),h⟩
theorem MS {w w1:World} {x:ByteArray} {t:TypeId} (h:Below w.heap.size w w1):RetStrs w [x] (.returned (.slice (some ⟨w1.heap.size,0,none⟩) 1 1)) (w1.alloc (.cells #[.string x] t)):=
 ⟨_,1,rfl,JO (Below.refl _ _),h.alloc h.size _⟩
theorem nE {w w1:World} {x y:ByteArray} {t:TypeId} (h:Below w.heap.size w w1):RetStrs w [x,y] (.returned (.slice (some ⟨w1.heap.size,0,none⟩) 2 2)) (w1.alloc (.cells #[.string x,.string y] t)):=
 ⟨_,2,rfl,KS (Below.refl _ _),h.alloc h.size _⟩
set_option maxHeartbeats 800000 in
theorem vC (a b:ByteArray) (ha:a.size≤1000000) (hb:b.size≤1000000) (w:World) :
 Calls prog 163 #[.string a,.string b] w (RetStrs w (joinL a b)):=by
 have ca:=dZ a (by first|omega|(unfold maxLen;omega))
 have cb:=dZ b (by first|omega|(unfold maxLen;omega))
 have ac:=Below.refl w.heap.size w
 by_cases h1:fitsB a=true
 ·by_cases h2:fitsB b=true
  ·have s1:=((aU _).1 h1).2.1
   have s2:=((aU _).1 h2).2.1
   have hz:(a++b).size=a.size+b.size:=ByteArray.size_append
   by_cases h3:(a++b).size≤16
   ·rw [IB ⟨h1,h2⟩ h3]
    rw [h1] at ca
    rw [h2] at cb
    have d1:a.size+b.size≤16:=by omega
    have d2:(a.size:Int)+(b.size:Int)≤16:=by omega
    have CA:=hid ca;have CB:=hid cb;have CS:=hid (dR (a++b) h3)
    clear ca cb h1 h2 h3 hz
    go_enter func163,ntmps163
    go_wp2_with fail
    refine (onward (w0:=w) ac (CA.out _)).mono ?_;rintro e w1 ⟨rfl,aa⟩
    go_wp2_with fail
    refine (onward (w0:=w) aa (CB.out _)).mono ?_;rintro e w2 ⟨rfl,ab⟩
    go_wp2_with fail
    refine (CS.out _).mono ?_;rintro e w9 ⟨rfl,rfl⟩
    go_wp2
    go_ret
    exact MS ab
   ·have ch:=IK (a++b) (by omega)
    have hx:=cH (a++b) (halfN (a++b)) (mN _)
    have hy:=dN (a++b) (halfN (a++b))
    have hn:=mN (a++b)
    have cx:=dZ ((a++b).extract 0 (halfN (a++b))) (by first|omega|(unfold maxLen;omega))
    have cy:=dZ ((a++b).extract (halfN (a++b)) (a++b).size) (by first|omega|(unfold maxLen;omega))
    have j1:=fun h=>FR ⟨h1,h2⟩ h3 h
    have j2:=fun h=>ES ⟨h1,h2⟩ h3 h
    obtain ⟨x,hxx⟩:∃ x,(a++b).extract 0 (halfN (a++b))=x:=⟨_,rfl⟩
    obtain ⟨y,hyy⟩:∃ y,(a++b).extract (halfN (a++b)) (a++b).size=y:=⟨_,rfl⟩
    simp only [hxx] at ch cx j1 j2
    simp only [hyy] at ch cy j1 j2
    rw [h1] at ca
    rw [h2] at cb
    have d1:¬ a.size+b.size≤16:=by omega
    have d2:¬ (a.size:Int)+(b.size:Int)≤16:=by omega
    have CA:=hid ca;have CB:=hid cb;have CH:=hid ch;have CS:=hid (iO (a++b) h3)
    clear ca cb ch h1 h2 h3 hz hx hy hn hxx hyy
    by_cases g1:fitsB x=true
    ·rw [g1] at cx
     by_cases g2:fitsB y=true
     ·rw [j1 ⟨g1,g2⟩]
      rw [g2] at cy
      have CX:=hid cx;have CY:=hid cy
      clear cx cy g1 g2 j1 j2
      go_enter func163,ntmps163
      go_wp2_with fail
      refine (onward (w0:=w) ac (CA.out _)).mono ?_;rintro e w1 ⟨rfl,aa⟩
      go_wp2_with fail
      refine (onward (w0:=w) aa (CB.out _)).mono ?_;rintro e w2 ⟨rfl,ab⟩
      go_wp2_with fail
      refine (CS.out _).mono ?_;rintro e w9 ⟨rfl,rfl⟩
      go_wp2_with fail
      refine (onward (w0:=w) ab (CH.out _)).mono ?_;rintro e w3 ⟨rfl,ad⟩
      go_wp2_with fail
      refine (onward (w0:=w) ad (CX.out _)).mono ?_;rintro e w4 ⟨rfl,ae⟩
      go_wp2_with fail
      refine (onward (w0:=w) ae (CY.out _)).mono ?_;rintro e w5 ⟨rfl,af⟩
      go_wp2
      go_ret
      exact nE af
     ·rw [j2 (fun h=>g2 h.2)]
      rw [Bool.eq_false_iff.2 g2] at cy
      have CX:=hid cx;have CY:=hid cy
      clear cx cy g1 g2 j1 j2
      go_enter func163,ntmps163
      go_wp2_with fail
      refine (onward (w0:=w) ac (CA.out _)).mono ?_;rintro e w1 ⟨rfl,aa⟩
      go_wp2_with fail
      refine (onward (w0:=w) aa (CB.out _)).mono ?_;rintro e w2 ⟨rfl,ab⟩
      go_wp2_with fail
      refine (CS.out _).mono ?_;rintro e w9 ⟨rfl,rfl⟩
      go_wp2_with fail
      refine (onward (w0:=w) ab (CH.out _)).mono ?_;rintro e w3 ⟨rfl,ad⟩
      go_wp2_with fail
      refine (onward (w0:=w) ad (CX.out _)).mono ?_;rintro e w4 ⟨rfl,ae⟩
      go_wp2_with fail
      refine (onward (w0:=w) ae (CY.out _)).mono ?_;rintro e w5 ⟨rfl,af⟩
      go_wp2
      go_ret
      exact nE af
    ·rw [j2 (fun h=>g1 h.1)]
     rw [Bool.eq_false_iff.2 g1] at cx
     have CX:=hid cx
     clear cx cy g1 j1 j2
     go_enter func163,ntmps163
     go_wp2_with fail
     refine (onward (w0:=w) ac (CA.out _)).mono ?_;rintro e w1 ⟨rfl,aa⟩
     go_wp2_with fail
     refine (onward (w0:=w) aa (CB.out _)).mono ?_;rintro e w2 ⟨rfl,ab⟩
     go_wp2_with fail
     refine (CS.out _).mono ?_;rintro e w9 ⟨rfl,rfl⟩
     go_wp2_with fail
     refine (onward (w0:=w) ab (CH.out _)).mono ?_;rintro e w3 ⟨rfl,ad⟩
     go_wp2_with fail
     refine (onward (w0:=w) ad (CX.out _)).mono ?_;rintro e w4 ⟨rfl,ae⟩
     go_wp2
     go_ret
     exact nE ae
  ·rw [tG (fun h=>h2 h.2)]
   rw [h1] at ca
   rw [Bool.eq_false_iff.2 h2] at cb
   have CA:=hid ca;have CB:=hid cb
   clear ca cb h1 h2
   go_enter func163,ntmps163
   go_wp2_with fail
   refine (onward (w0:=w) ac (CA.out _)).mono ?_;rintro e w1 ⟨rfl,aa⟩
   go_wp2_with fail
   refine (onward (w0:=w) aa (CB.out _)).mono ?_;rintro e w2 ⟨rfl,ab⟩
   go_wp2
   go_ret
   exact pC ab
 ·rw [tG (fun h=>h1 h.1)]
  rw [Bool.eq_false_iff.2 h1] at ca
  have CA:=hid ca
  clear ca cb h1
  go_enter func163,ntmps163
  go_wp2_with fail
  refine (onward (w0:=w) ac (CA.out _)).mono ?_;rintro e w1 ⟨rfl,aa⟩
  go_wp2
  go_ret
  exact pC aa
end Go.Proofs.YtbagenpobcgjnaaGreat
