/-
  Joined: ChunkRef, ChunkRef2, ChunkDev, ChunkJoin, Mrk, EditRow.
-/
import Derived.Test.YtbagenpobcgjnaaGreatJUtfRTake
import Derived.Test.YtbagenpobcgjnaaGreatJStrs
import Derived.Test.YtbagenpobcgjnaaGreatJCells
import Derived.Deep.QuietTactic
import Derived.BigQuiet
import Derived.Deep.RegionHeld3
import Derived.Test.YtbagenpobcgjnaaGreatJCommon
import Derived.Test.YtbagenpobcgjnaaGreatJUtfLeaf
variable {a b:ByteArray} {base:Nat} {t:Go.TypeId} {w:Go.World}
namespace Go.Proofs.YtbagenpobcgjnaaGreat
open Go.RowKit
set_option linter.unusedVariables false
theorem zW (s:ByteArray) (h:¬ 1≤s.size):fitsB s=false:=by unfold fitsB;rw [decide_eq_false h];rfl
theorem GA (s:ByteArray) (h:¬ s.size≤16):fitsB s=false:=by unfold fitsB;rw [decide_eq_false h,Bool.false_and,Bool.and_false]
theorem JV (s:ByteArray) (h1:1≤s.size) (h2:s.size≤16):fitsB s=vldB s.data.toList:=by unfold fitsB;rw [decide_eq_true h1,decide_eq_true h2];rfl
set_option linter.unusedSimpArgs false
structure C2 (w:World) (p q:Addr) (u v:Value) (w':World):Prop where
 B:Below w.heap.size w w'
 p:w'.cell? p=some u
 q:w'.cell? q=some v
open Go.Proofs.Tryz
set_option maxRecDepth 100000
open Lib (hid)
theorem lP {s:ByteArray} (h:s.size=0):s=⟨#[]⟩:=by
 apply aP
 rw [List.eq_nil_of_length_eq_zero (l:=s.data.toList) (by simpa using h)]
theorem lA {s:ByteArray} (h:1≤s.size):(s.toList != [])=true:=by
 have e:=lR s
 rw [decide_eq_false (by omega)] at e
 cases hl:s.toList with
 | nil=>rw [hl] at e;cases e
 | cons a l=>rfl
theorem eH {s:ByteArray} (h:1≤s.size):s.toList.isEmpty=false:=by
 rw [lR];exact decide_eq_false (by omega)
theorem dZ (s:ByteArray) (h:s.size≤16) (w:World) :
 Calls prog 189 #[.string s] w fun e w'=>e=.returned (.bool true)∧w=w':=by
 go_enter func189,ntmps189
 go_wp2
 go_ret
 exact ⟨aM (by simp;omega),rfl⟩
theorem jI (s:ByteArray) (h:¬ s.size≤16) (w:World) :
 Calls prog 189 #[.string s] w fun e w'=>e=.returned (.bool false)∧w=w':=by
 go_enter func189,ntmps189
 go_wp2
 go_ret
 exact ⟨aM (by simp;omega),rfl⟩
set_option maxHeartbeats 400000 in
theorem eN (s:ByteArray) (hs:s.size≤maxLen) (w:World) :
 Calls prog 188 #[.string s] w fun e w'=>e=.returned (.bool (fitsB s))∧Below w.heap.size w w':=by
 have hv:=dU s hs
 by_cases h1:1≤s.size
 ·have t1:=lA h1
  have t2:=eH h1
  by_cases h2:s.size≤16
  ·rw [JV s h1 h2]
   have c1:=dZ s h2
   obtain ⟨b,hb⟩:∃ b,vldB s.data.toList=b:=⟨_,rfl⟩
   rw [hb] at hv ⊢
   have HV:=hid hv;have C1:=hid c1;clear hv hb c1
   go_enter func188,ntmps188
   go_wp2_with fail
   refine (C1.out _).mono ?_;rintro e w' ⟨rfl,rfl⟩
   go_wp2_with fail
   refine (HV.out _).mono ?_;rintro e w' ⟨rfl,aa⟩
   go_wp2
   go_ret
   exact ⟨aM (by simp),aa⟩
  ·rw [GA s h2]
   have c1:=jI s h2
   have C1:=hid c1
   clear hv c1
   go_enter func188,ntmps188
   go_wp2_with fail
   refine (C1.out _).mono ?_;rintro e w' ⟨rfl,rfl⟩
   go_wp2
   go_ret
   exact ⟨aM (by simp),Below.refl _ _⟩
 ·rw [zW s h1]
  obtain rfl:=lP (s:=s) (by omega)
  clear hv h1
  go_enter func188,ntmps188
  go_wp2
  go_ret
  exact ⟨aM (by simp),Below.refl _ _⟩
set_option maxHeartbeats 400000 in
theorem KN (s:ByteArray) (hs:s.size≤1000000) (w:World) :
 Calls prog 190 #[.string s] w fun e w'=>e=.returned (.tuple #[.string (s.extract 0 (halfN s)),.string (s.extract (halfN s) s.size)])∧Below w.heap.size w w':=by
 have hb:=jX s (by unfold maxLen;omega) ((s.size:Int) - (s.size:Int) / 2)
 have e:backI s.data.toList ((s.size:Int) - (s.size:Int) / 2)=halfN s:=by
  rw [show (s.size:Int) - (s.size:Int) / 2=(((s.size+1) / 2:Nat):Int) by omega,kU _ _ (by simp;omega)]
  rfl
 rw [e] at hb
 have hn:=oA s
 obtain ⟨n,hh⟩:∃ n,halfN s=n:=⟨_,rfl⟩
 rw [hh] at hb hn ⊢
 have HB:=hid hb;clear hb hh e
 go_enter func190,ntmps190
 go_wp2_with fail
 refine (HB.out _).mono ?_;rintro e w' ⟨rfl,rfl⟩
 go_wp2
 go_quiet (fail)
 go_wp2
 go_ret2
 exact ⟨rfl,aB (Below.refl _ _) _⟩
theorem wT (h:¬ (fitsB a=true∧fitsB b=true)):joinL a b=[]:=by unfold joinL;rw [if_neg h]
theorem JJ (h:fitsB a=true∧fitsB b=true) (h1:(a++b).size≤16):joinL a b=[a++b]:=by unfold joinL;rw [if_pos h,if_pos h1]
theorem JF (h:fitsB a=true∧fitsB b=true) (h1:¬ (a++b).size≤16) (h2:fitsB ((a++b).extract 0 (halfN (a++b)))=true∧fitsB ((a++b).extract (halfN (a++b)) (a++b).size)=true) :
 joinL a b=[(a++b).extract 0 (halfN (a++b)),(a++b).extract (halfN (a++b)) (a++b).size]:=by unfold joinL;rw [if_pos h,if_neg h1,if_pos h2]
theorem ET (h:fitsB a=true∧fitsB b=true) (h1:¬ (a++b).size≤16) (h2:¬ (fitsB ((a++b).extract 0 (halfN (a++b)))=true∧fitsB ((a++b).extract (halfN (a++b)) (a++b).size)=true)) :
 joinL a b=[a,b]:=by unfold joinL;rw [if_pos h,if_neg h1,if_neg h2]
theorem qB {w':World} (h:Below w.heap.size w w'):RetStrs w [] (.returned (.slice none 0 0)) w':=⟨none,0,rfl,fun k hk=>absurd hk (by simp),h⟩
theorem OA {w1:World} {x:ByteArray} (h:Below w.heap.size w w1):RetStrs w [x] (.returned (.slice (some ⟨w1.heap.size,0,none⟩) 1 1)) (w1.alloc (.cells #[.string x] t)):=
 ⟨_,1,rfl,LC (Below.refl _ _),h.alloc h.size _⟩
theorem nK {w1:World} {x y:ByteArray} (h:Below w.heap.size w w1):RetStrs w [x,y] (.returned (.slice (some ⟨w1.heap.size,0,none⟩) 2 2)) (w1.alloc (.cells #[.string x,.string y] t)):=
 ⟨_,2,rfl,LI (Below.refl _ _),h.alloc h.size _⟩
set_option maxHeartbeats 800000 in
theorem vJ (a b:ByteArray) (ha:a.size≤1000000) (hb:b.size≤1000000) (w:World) :
 Calls prog 163 #[.string a,.string b] w (RetStrs w (joinL a b)):=by
 have ca:=eN a (by first|omega|(unfold maxLen;omega))
 have cb:=eN b (by first|omega|(unfold maxLen;omega))
 have ac:=Below.refl w.heap.size w
 by_cases h1:fitsB a=true
 ·by_cases h2:fitsB b=true
  ·have s1:=((aU _).1 h1).2.1
   have s2:=((aU _).1 h2).2.1
   have hz:(a++b).size=a.size+b.size:=ByteArray.size_append
   by_cases h3:(a++b).size≤16
   ·rw [JJ ⟨h1,h2⟩ h3]
    rw [h1] at ca
    rw [h2] at cb
    have d1:a.size+b.size≤16:=by omega
    have d2:(a.size:Int)+(b.size:Int)≤16:=by omega
    have CA:=hid ca;have CB:=hid cb;have CS:=hid (dZ (a++b) h3)
    clear ca cb h1 h2 h3 hz
    go_enter func163,ntmps163
    go_wp2_with fail
    refine (onward (w0:=w) ac (CA.out _)).mono ?_;rintro e w1 ⟨rfl,aa⟩
    go_wp2_with fail
    refine (onward (w0:=w) aa (CB.out _)).mono ?_;rintro e w2 ⟨rfl,ab⟩
    go_wp2_with fail
    refine (CS.out _).mono ?_;rintro e w9 ⟨rfl,rfl⟩
    go_wp2
    go_ret
    exact OA ab
   ·have ch:=KN (a++b) (by omega)
    have hx:=bD (a++b) (halfN (a++b)) (oA _)
    have hy:=cK (a++b) (halfN (a++b))
    have hn:=oA (a++b)
    have cx:=eN ((a++b).extract 0 (halfN (a++b))) (by first|omega|(unfold maxLen;omega))
    have cy:=eN ((a++b).extract (halfN (a++b)) (a++b).size) (by first|omega|(unfold maxLen;omega))
    have j1:=fun h=>JF ⟨h1,h2⟩ h3 h
    have j2:=fun h=>ET ⟨h1,h2⟩ h3 h
    obtain ⟨x,hxx⟩:∃ x,(a++b).extract 0 (halfN (a++b))=x:=⟨_,rfl⟩
    obtain ⟨y,hyy⟩:∃ y,(a++b).extract (halfN (a++b)) (a++b).size=y:=⟨_,rfl⟩
    simp only [hxx] at ch cx j1 j2
    simp only [hyy] at ch cy j1 j2
    rw [h1] at ca
    rw [h2] at cb
    have d1:¬ a.size+b.size≤16:=by omega
    have d2:¬ (a.size:Int)+(b.size:Int)≤16:=by omega
    have CA:=hid ca;have CB:=hid cb;have CH:=hid ch;have CS:=hid (jI (a++b) h3)
    clear ca cb ch h1 h2 h3 hz hx hy hn hxx hyy
    by_cases g1:fitsB x=true
    ·rw [g1] at cx
     by_cases g2:fitsB y=true
     ·rw [j1 ⟨g1,g2⟩]
      rw [g2] at cy
      have CX:=hid cx;have CY:=hid cy
      clear cx cy g1 g2 j1 j2
      go_enter func163,ntmps163
      go_wp2_with fail
      refine (onward (w0:=w) ac (CA.out _)).mono ?_;rintro e w1 ⟨rfl,aa⟩
      go_wp2_with fail
      refine (onward (w0:=w) aa (CB.out _)).mono ?_;rintro e w2 ⟨rfl,ab⟩
      go_wp2_with fail
      refine (CS.out _).mono ?_;rintro e w9 ⟨rfl,rfl⟩
      go_wp2_with fail
      refine (onward (w0:=w) ab (CH.out _)).mono ?_;rintro e w3 ⟨rfl,ad⟩
      go_wp2_with fail
      refine (onward (w0:=w) ad (CX.out _)).mono ?_;rintro e w4 ⟨rfl,ae⟩
      go_wp2_with fail
      refine (onward (w0:=w) ae (CY.out _)).mono ?_;rintro e w5 ⟨rfl,af⟩
      go_wp2
      go_ret
      exact nK af
     ·rw [j2 (fun h=>g2 h.2)]
      rw [Bool.eq_false_iff.2 g2] at cy
      have CX:=hid cx;have CY:=hid cy
      clear cx cy g1 g2 j1 j2
      go_enter func163,ntmps163
      go_wp2_with fail
      refine (onward (w0:=w) ac (CA.out _)).mono ?_;rintro e w1 ⟨rfl,aa⟩
      go_wp2_with fail
      refine (onward (w0:=w) aa (CB.out _)).mono ?_;rintro e w2 ⟨rfl,ab⟩
      go_wp2_with fail
      refine (CS.out _).mono ?_;rintro e w9 ⟨rfl,rfl⟩
      go_wp2_with fail
      refine (onward (w0:=w) ab (CH.out _)).mono ?_;rintro e w3 ⟨rfl,ad⟩
      go_wp2_with fail
      refine (onward (w0:=w) ad (CX.out _)).mono ?_;rintro e w4 ⟨rfl,ae⟩
      go_wp2_with fail
      refine (onward (w0:=w) ae (CY.out _)).mono ?_;rintro e w5 ⟨rfl,af⟩
      go_wp2
      go_ret
      exact nK af
    ·rw [j2 (fun h=>g1 h.1)]
     rw [Bool.eq_false_iff.2 g1] at cx
     have CX:=hid cx
     clear cx cy g1 j1 j2
     go_enter func163,ntmps163
     go_wp2_with fail
     refine (onward (w0:=w) ac (CA.out _)).mono ?_;rintro e w1 ⟨rfl,aa⟩
     go_wp2_with fail
     refine (onward (w0:=w) aa (CB.out _)).mono ?_;rintro e w2 ⟨rfl,ab⟩
     go_wp2_with fail
     refine (CS.out _).mono ?_;rintro e w9 ⟨rfl,rfl⟩
     go_wp2_with fail
     refine (onward (w0:=w) ab (CH.out _)).mono ?_;rintro e w3 ⟨rfl,ad⟩
     go_wp2_with fail
     refine (onward (w0:=w) ad (CX.out _)).mono ?_;rintro e w4 ⟨rfl,ae⟩
     go_wp2
     go_ret
     exact nK ae
  ·rw [wT (fun h=>h2 h.2)]
   rw [h1] at ca
   rw [Bool.eq_false_iff.2 h2] at cb
   have CA:=hid ca;have CB:=hid cb
   clear ca cb h1 h2
   go_enter func163,ntmps163
   go_wp2_with fail
   refine (onward (w0:=w) ac (CA.out _)).mono ?_;rintro e w1 ⟨rfl,aa⟩
   go_wp2_with fail
   refine (onward (w0:=w) aa (CB.out _)).mono ?_;rintro e w2 ⟨rfl,ab⟩
   go_wp2
   go_ret
   exact qB ab
 ·rw [wT (fun h=>h1 h.1)]
  rw [Bool.eq_false_iff.2 h1] at ca
  have CA:=hid ca
  clear ca cb h1
  go_enter func163,ntmps163
  go_wp2_with fail
  refine (onward (w0:=w) ac (CA.out _)).mono ?_;rintro e w1 ⟨rfl,aa⟩
  go_wp2
  go_ret
  exact qB aa
end Go.Proofs.YtbagenpobcgjnaaGreat
namespace Go.Proofs.YtbagenpobcgjnaaGreat
open Go.Proofs.Tryz
open Go.RowKit Go.ChangeShapes Go.WideShapes Go.Deep
set_option linter.unusedVariables false
structure Mrk where
 name:ByteArray
 p:Int
def Mrk.fits (x:Mrk):Prop:=x.name.size≤maxLen∧(-9223372036854775808≤x.p∧x.p≤9223372036854775807)
abbrev Mrk.v (x:Mrk):Value:=.agg #[.string x.name,.int .i64 x.p]
def Mrks (w:World) (B:Nat→Prop) (a:Option Addr) (l:List Mrk):Prop:=
 ∀ (k:Nat) (h:k<l.length),∃ ad,a=some ad∧B ad.block∧w.cell? (ad.add (k * 2))=some (.string (l[k]).name)∧w.cell? ⟨(ad.add (k * 2)).block,(ad.add (k * 2)).off+1,none⟩=some (.int .i64 (l[k]).p)
theorem Mrks.keep {w':World} {B:Nat→Prop} {a:Option Addr} {l:List Mrk} (h:Mrks w B a l) (hk:∀ p:Addr,B p.block→w'.cell? p=w.cell? p):Mrks w' B a l:=fun k hl=>by
 obtain ⟨ad,e,hb,q0,q1⟩:=h k hl
 exact ⟨ad,e,hb,(hk _ (by rw [show (ad.add (k * 2)).block=ad.block by unfold Addr.add;split <;> rfl];exact hb)).trans q0,(hk _ (by show B (ad.add (k * 2)).block;rw [show (ad.add (k * 2)).block=ad.block by unfold Addr.add;split <;> rfl];exact hb)).trans q1⟩
theorem Mrks.below {w':World} {B:Nat→Prop} {N:Nat} {a:Option Addr} {l:List Mrk} (h:Mrks w B a l) (hN:∀ b,B b→b<N) (hb:Below N w w'):Mrks w' B a l:=h.keep fun _ hp=>hb.cell (hN _ hp)
theorem Mrks.more {w:World} {B B':Nat→Prop} {a:Option Addr} {l:List Mrk} (h:Mrks w B a l) (hB:∀ b,B b→B' b):Mrks w B' a l:=fun k hl=>by
 obtain ⟨ad,e,hb,h1⟩:=h k hl
 exact ⟨ad,e,hB _ hb,h1⟩
section
variable {H : Type} {enc : TypeId × Value → H} {w : World} {base : Nat} {spare : Nat → Bool} {held : Bool}
theorem rH:prog.cellsOf 90=2:=by kernel_rfl
end
def Mrk.flat (l:List Mrk):List Value:=l.flatMap fun x=>[.string x.name,.int .i64 x.p]
theorem Mrk.flat_len (l:List Mrk):(Mrk.flat l).length=l.length * 2:=by
 unfold Mrk.flat
 induction l with
 | nil=>rfl
 | cons a r ih=>rw [List.flatMap_cons,List.length_append,ih];simp;omega
theorem Mrk.flat_app (a b:List Mrk):Mrk.flat (a++b)=Mrk.flat a++Mrk.flat b:=by simp [Mrk.flat]
theorem Mrk.flat_get (l:List Mrk) (k:Nat) (h:k<l.length):(Mrk.flat l)[k * 2]? = some (.string (l[k]'h).name)∧(Mrk.flat l)[k * 2+1]? = some (.int .i64 (l[k]'h).p):=by
 induction l generalizing k with
 | nil=>simp at h
 | cons a r ih =>
  have e:Mrk.flat (a::r)=([.string a.name,.int .i64 a.p]:List Value)++Mrk.flat r:=by simp [Mrk.flat]
  rw [e]
  match k,h with
  | 0,_=>simp
  | k+1,h =>
   have hr:=ih k (by simpa using h)
   rw [show (k+1) * 2=([.string a.name,.int .i64 a.p]:List Value).length+k * 2 from by simp;omega]
   simp only [Nat.add_assoc,List.getElem?_append_right (Nat.le_add_right _ _),Nat.add_sub_cancel_left]
   exact hr
theorem cY:(prog.info? 90).map (fun i=>(i.zero,i.size,i.bytes))=some (some (.agg #[.string ByteArray.empty,.int .i64 0]),2,24):=by kernel_rfl
theorem aV (w:World) (name:ByteArray) (p:Int) (t:TypeId):∀ j u,([.string name,.int .i64 p]:List Value)[j]? = some u→(w.alloc (.cells #[.string name,.int .i64 p] t)).cell? ((⟨w.heap.size,0,none⟩:Addr).add j)=some u:=by
 intro j u hj
 match j,hj with
 | 0,hj=>simp at hj;subst hj;simp [Addr.add]
 | 1,hj=>simp at hj;subst hj;simp [Addr.add,World.cell?_alloc_new]
theorem aX (name:ByteArray) (p:Int):∀ u∈([.string name,.int .i64 p]:List Value),u.oneCell'=true:=by
 intro u hu
 simp at hu
 rcases hu with rfl|rfl <;> rfl
theorem tZ {v:Value} {l:List Mrk} (h:w.ownsRow base t 2 v l.length (Mrk.flat l)):∃ a c,v=.slice a l.length c∧Mrks w (fun b=>base≤b∧b<w.heap.size) a l:=by
 rcases h.2 with ⟨rfl,h0⟩|⟨g,cap,cur,rfl,hgb,hg,_⟩
 ·exact ⟨none,0,by rw [h0],fun k hk=>absurd hk (by omega)⟩
 ·refine ⟨_,_,rfl,fun k hk=>⟨_,rfl,⟨hgb,(h.lt g rfl).2⟩,?_,?_⟩⟩
  ·exact h.cells (g:=g) rfl (k * 2) _ (Mrk.flat_get l k hk).1
  ·have:=h.cells (g:=g) rfl (k * 2+1) _ (Mrk.flat_get l k hk).2
   have e:(⟨((⟨g,0,none⟩:Addr).add (k * 2)).block,((⟨g,0,none⟩:Addr).add (k * 2)).off+1,none⟩:Addr)=(⟨g,0,none⟩:Addr).add (k * 2+1):=by
    unfold Addr.add
    by_cases hk0:k * 2=0 <;> simp [hk0]
   rw [e];exact this
structure MrkR (w:World) (base:Nat) (a:Option Addr) (l:List Mrk) (c:Nat):Prop where
 row:Mrks w (fun b=>base≤b∧b<w.heap.size) a l
 nil:a=none→c=0
 le:l.length≤c
 cap:c≤maxLen
theorem MrkR.more {w:World} {base b2:Nat} {a:Option Addr} {l:List Mrk} {c:Nat} (h:MrkR w base a l c) (hb:b2≤base):MrkR w b2 a l c:=⟨h.row.more fun b hb2=>⟨Nat.le_trans hb hb2.1,hb2.2⟩,h.nil,h.le,h.cap⟩
theorem MrkR.none (w:World) (base:Nat):MrkR w base .none [] 0:=⟨fun k hk=>absurd hk (by simp),fun _=>rfl,Nat.le_refl _,Nat.zero_le _⟩
theorem cH {v:Value} {l:List Mrk} (h:w.ownsRow base t 2 v l.length (Mrk.flat l)):∃ a c,v=.slice a l.length c∧MrkR w base a l c:=by
 obtain ⟨a,c,e,hr⟩:=tZ h
 refine ⟨a,c,e,hr,?_,?_,?_⟩
 ·intro hn
  rcases h.2 with ⟨rfl,h0⟩|⟨g,cap,cur,rfl,-⟩
  ·injection e with _ _ e3;exact e3.symm
  ·injection e with e1;rw [hn] at e1;cases e1
 ·rcases h.2 with ⟨rfl,h0⟩|⟨g,cap,cur,rfl,_,_,hnc,_⟩
  ·injection e with _ e2 e3;omega
  ·injection e with _ _ e3;omega
 ·rcases h.2 with ⟨rfl,h0⟩|⟨g,cap,cur,rfl,_,_,hnc,hcm,_⟩
  ·injection e with _ e2 e3;unfold maxLen;omega
  ·injection e with _ _ e3;omega
def RetMrksR (w:World) (l:List Mrk) (e:Ending) (w':World):Prop:=∃ a c,e=.returned (.slice a l.length c)∧MrkR w' w.heap.size a l c∧Below w.heap.size w w'
end Go.Proofs.YtbagenpobcgjnaaGreat
namespace Go.Proofs.YtbagenpobcgjnaaGreat
open Go.RowKit
set_option linter.unusedVariables false
instance :Inhabited Edt:=⟨⟨0,ByteArray.empty,ByteArray.empty⟩⟩
structure EPc where
 a:Option Addr
 l:List Edt
 c:Nat
instance :Inhabited EPc:=⟨⟨none,[],0⟩⟩
def EPc.v (x:EPc):Value:=.slice x.a x.l.length x.c
structure EPcs (w:World) (x:EPc):Prop where
 row:Edts w (·<w.heap.size) x.a x.l
 nil:x.a=none→x.c=0
theorem EPcs.len {x:EPc} (h:EPcs w x) (hn:x.a=none):x.l=[]:=by
 cases hl:x.l with
 | nil=>rfl
 | cons y r =>
  obtain ⟨ad,e,-⟩:=h.row 0 (by rw [hl];simp)
  rw [hn] at e
  cases e
theorem eget {l:List Edt} {k:Nat} (h:k<l.length):l[k]! = l[k]:=getElem!_pos l k h
theorem rO (ad:Addr) (k i:Nat) (h:0<i):(⟨(ad.add (k * 3)).block,(ad.add (k * 3)).off+i,none⟩:Addr)=ad.add (k * 3+i):=by
 unfold Addr.add
 by_cases hk:k * 3=0
 ·rw [if_pos hk,if_neg (by omega),hk,Nat.zero_add]
 ·rw [if_neg hk,if_neg (by omega)]
  show (⟨ad.block,ad.off+k * 3+i,none⟩:Addr)=⟨ad.block,ad.off+(k * 3+i),none⟩
  rw [Nat.add_assoc]
theorem lG {B:Nat→Prop} {ad:Addr} {l:List Edt} (h:Edts w B (some ad) l):∀ j u,(Edt.flat l)[j]? = some u→w.cell? (ad.add j)=some u:=fun j u hj=>by
 have hlt:j<l.length * 3:=by
  rcases Nat.lt_or_ge j (l.length * 3) with g|g
  ·exact g
  ·rw [List.getElem?_eq_none (by rw [Edt.flat_len];exact g)] at hj
   cases hj
 obtain ⟨ad',e,-,q0,q1,q2⟩:=h (j / 3) (by omega)
 obtain rfl:ad=ad':=by injection e
 obtain ⟨g0,g1,g2⟩:=Edt.flat_get l (j / 3) (by omega)
 rcases (show j=j / 3 * 3∨j=j / 3 * 3+1∨j=j / 3 * 3+2 by omega) with g|g|g
 ·rw [g] at hj ⊢
  rw [g0] at hj
  rw [q0]
  exact hj
 ·rw [g] at hj ⊢
  rw [g1] at hj
  rw [← rO _ _ _ (by decide),q1]
  exact hj
 ·rw [g] at hj ⊢
  rw [g2] at hj
  rw [← rO _ _ _ (by decide),q2]
  exact hj
theorem lO (l:List Edt):∀ u∈Edt.flat l,u.oneCell'=true:=fun u hu=>by
 unfold Edt.flat at hu
 obtain ⟨x,-,hx⟩:=List.mem_flatMap.1 hu
 exact mQ _ _ _ u hx
structure ERow (w:World) (base:Nat) (x:EPc):Prop where
 row:Edts w (fun b=>base≤b∧b<w.heap.size) x.a x.l
 nil:x.a=none→x.c=0
 le:x.l.length≤x.c
 cap:x.c≤maxLen
theorem dE {v:Value} {l:List Edt} (h:w.ownsRow base t 3 v l.length (Edt.flat l)):∃ a c,v=.slice a l.length c∧ERow w base ⟨a,l,c⟩:=by
 obtain ⟨a,c,e,hr⟩:=JT h
 refine ⟨a,c,e,hr,?_,?_,?_⟩
 ·intro hn
  have hn:a=none:=hn
  rcases h.2 with ⟨rfl,h0⟩|⟨g,cap,cur,rfl,-⟩
  ·injection e with _ _ e3;exact e3.symm
  ·injection e with e1;rw [hn] at e1;cases e1
 ·show l.length≤c
  rcases h.2 with ⟨rfl,h0⟩|⟨g,cap,cur,rfl,_,_,hnc,_⟩
  ·injection e with _ e2 e3;omega
  ·injection e with _ _ e3;omega
 ·show c≤maxLen
  rcases h.2 with ⟨rfl,h0⟩|⟨g,cap,cur,rfl,_,_,hnc,hcm,_⟩
  ·injection e with _ e2 e3;unfold maxLen;omega
  ·injection e with _ _ e3;omega
theorem ERow.in {x:EPc} (h:ERow w base x):EPcs w x:=⟨h.row.more fun _ hb=>hb.2,h.nil⟩
theorem ERow.below {W:World} {x:EPc} (h:ERow w base x) (hb:Below w.heap.size w W):ERow W base x:=
 ⟨(h.row.below (fun _ h=>h.2) hb).more fun _ aa=>⟨aa.1,Nat.lt_of_lt_of_le aa.2 hb.size⟩,h.nil,h.le,h.cap⟩
theorem ERow.mono {b2:Nat} {x:EPc} (h:ERow w base x) (hb:b2≤base):ERow w b2 x:=⟨h.row.more fun _ hb2=>⟨Nat.le_trans hb hb2.1,hb2.2⟩,h.nil,h.le,h.cap⟩
def RetERow (w:World) (l:List Edt) (e:Ending) (w':World):Prop:=∃ a c,e=.returned (.slice a l.length c)∧ERow w' w.heap.size ⟨a,l,c⟩∧Below w.heap.size w w'
theorem EPcs.later {W:World} {x:EPc} (h:EPcs w x) (hb:Below w.heap.size w W):EPcs W x:=⟨(h.row.below (fun _ h=>h) hb).more fun b hb2=>Nat.lt_of_lt_of_le hb2 hb.size,h.nil⟩
theorem EPcs.empty (w:World):EPcs w ⟨.none,[],0⟩:=⟨fun k hk=>absurd hk (by simp),fun _=>rfl⟩
def esumP (ps:List EPc):Nat:=(ps.map fun x=>x.l.length).sum
def ecatP (ps:List EPc):List Edt:=ps.flatMap fun x=>x.l
theorem epget {ps:List EPc} {k:Nat} (h:k<ps.length):ps[k]! = ps[k]:=getElem!_pos ps k h
theorem eptake (ps:List EPc) (k:Nat) (h:k<ps.length):ps.take (k+1)=ps.take k++[ps[k]!]:=by
 rw [List.take_succ_eq_append_getElem h,epget h]
theorem oW (ps:List EPc) (k:Nat) (h:k<ps.length):esumP (ps.take (k+1))=esumP (ps.take k)+(ps[k]!).l.length:=by
 unfold esumP
 rw [eptake ps k h,List.map_append,List.sum_append]
 simp
theorem BT (ps:List EPc) (k:Nat) (h:k<ps.length):ecatP (ps.take (k+1))=ecatP (ps.take k)++(ps[k]!).l:=by
 unfold ecatP
 rw [eptake ps k h,List.flatMap_append]
 simp
theorem EP (ps:List EPc):(ecatP ps).length=esumP ps:=by
 unfold ecatP esumP
 rw [List.length_flatMap]
theorem jR (ps:List EPc) (k:Nat):esumP (ps.take k)≤esumP ps:=by
 have e:=congrArg esumP (List.take_append_drop k ps)
 unfold esumP at e ⊢
 rw [List.map_append,List.sum_append] at e
 omega
end Go.Proofs.YtbagenpobcgjnaaGreat
