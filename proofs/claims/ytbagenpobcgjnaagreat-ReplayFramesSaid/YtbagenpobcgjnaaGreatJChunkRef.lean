/-
  Joined: ChunkRef, ChunkRef2, ChunkDev, ChunkJoin, Mrk, EditRow, Frms.
-/
import Derived.Test.YtbagenpobcgjnaaGreatJUtfRTake
import Derived.Test.YtbagenpobcgjnaaGreatJStrs
open Bool renaming eq_false_iff->zy
open ByteArray renaming empty->zz,size_append->Aj
open Go renaming Addr->zm,Calls->zx,Value->zp,World->zk,maxLen->zu
open Go.Addr renaming add->zt
open Go.Ending renaming returned->zv
open Go.Value renaming int->zq,slice->zw,string->zn
open List renaming map_append->Af,range->Ai,sum_append->Ag
open Nat renaming add_assoc->Aa,le_trans->Ab,lt_of_lt_of_le->Ae,zero_le->Ad
variable {a b:ByteArray} {base:Nat} {B:Nat→Prop} {t:Go.TypeId} {w w':Go.World}
namespace Go.Proofs.YtbagenpobcgjnaaGreat
open Go.RowKit
set_option linter.unusedVariables false
theorem FK (s:ByteArray) (h:¬ 1≤s.size):oe s=false:=by unfold oe;rw [decide_eq_false h];rfl
theorem JN (s:ByteArray) (h:¬ s.size≤16):oe s=false:=by unfold oe;rw [decide_eq_false h,Bool.false_and,Bool.and_false]
theorem OB (s:ByteArray) (h1:1≤s.size) (h2:s.size≤16):oe s=nx s.data.toList:=by unfold oe;rw [decide_eq_true h1,decide_eq_true h2];rfl
set_option linter.unusedSimpArgs false
structure C2 (w:zk) (p q:zm) (u v:zp) (w':zk):Prop where
 B:Below w w w'
 p:w' p=some u
 q:w' q=some v
open Go.Proofs.Tryz
set_option maxRecDepth 100000
open Lib (hid)
theorem lY {s:ByteArray} (h:s.size=0):s=⟨#[]⟩:=by
 apply aW;rw [List.eq_nil_of_length_eq_zero (l:=s.data.toList) (by simpa using h)]
theorem mJ {s:ByteArray} (h:1≤s.size):(s.toList != [])=true:=by
 have e:=aE s;rw [decide_eq_false lg] at e;cases hl:s.toList with
 | nil=>rw [hl] at e;cases e
 | cons a l=>rfl
theorem eX {s:ByteArray} (h:1≤s.size):s.toList.isEmpty=false:=by
 rw [aE];exact decide_eq_false lg
theorem eI (s:ByteArray) (h:s.size≤16) (w:zk) :
 zx prog 189 #[zn s] w fun e w'=>e=zv (.bool true)∧w=w':=by
 go_enter func189,ntmps189;go_wp2;go_ret;exact ⟨aA lr,rfl⟩
theorem lL (s:ByteArray) (h:¬ s.size≤16) (w:zk) :
 zx prog 189 #[zn s] w fun e w'=>e=zv (.bool false)∧w=w':=by
 go_enter func189,ntmps189;go_wp2;go_ret;exact ⟨aA lr,rfl⟩
set_option maxHeartbeats 400000 in
theorem fC (s:ByteArray) (hs:s.size≤zu) (w:zk) :
 zx prog 188 #[zn s] w fun e w'=>e=zv (.bool (oe s))∧Below w w w':=by
 have hv:=dU s hs;by_cases h1:1≤s.size
 ·have t1:=mJ h1;have t2:=eX h1;by_cases h2:s.size≤16
  ·rw [OB s h1 h2];have c1:=eI s h2;obtain ⟨b,hb⟩:∃ b,nx s.data.toList=b:=⟨_,rfl⟩;rw [hb] at hv ⊢;have HV:=hid hv;have C1:=hid c1;clear hv hb c1;go_enter func188,ntmps188;go_wp2_with fail;refine (C1.out _).mono ?_;rintro e w' ⟨rfl,rfl⟩;go_wp2_with fail;refine (HV.out _).mono ?_;rintro e w' ⟨rfl,aa⟩;go_wp2;go_ret;exact ⟨aA li,aa⟩
  ·rw [JN s h2];have c1:=lL s h2;have C1:=hid c1;clear hv c1;go_enter func188,ntmps188;go_wp2_with fail;refine (C1.out _).mono ?_;rintro e w' ⟨rfl,rfl⟩;go_wp2;go_ret;exact ⟨aA li,Below.refl _ _⟩
 ·rw [FK s h1];obtain rfl:=lY (s:=s) lg;clear hv h1;go_enter func188,ntmps188;go_wp2;go_ret;exact ⟨aA li,Below.refl _ _⟩
set_option maxHeartbeats 400000 in
theorem OZ (s:ByteArray) (hs:s.size≤1000000) (w:zk) :
 zx prog 190 #[zn s] w fun e w'=>e=zv (.tuple #[zn (s.extract 0 (qh s)),zn (s.extract (qh s) s.size)])∧Below w w w':=by
 have hb:=kJ s lq ((s.size:Int) - (s.size:Int) / 2);have e:mi s.data.toList ((s.size:Int) - (s.size:Int) / 2)=qh s:=by
  rw [show (s.size:Int) - (s.size:Int) / 2=(((s.size+1) / 2:Nat):Int) by omega,mT _ _ lr];rfl
 rw [e] at hb;have hn:=pI s;obtain ⟨n,hh⟩:∃ n,qh s=n:=⟨_,rfl⟩;rw [hh] at hb hn ⊢;have HB:=hid hb;clear hb hh e;go_enter func190,ntmps190;go_wp2_with fail;refine (HB.out _).mono ?_;rintro e w' ⟨rfl,rfl⟩;go_wp2;go_quiet (fail);go_wp2;go_ret2;exact ⟨rfl,aC (Below.refl _ _) _⟩
theorem wK (h:¬ (oe a=true∧oe b=true)):rf a b=[]:=by unfold rf;rw [if_neg h]
theorem ON (h:oe a=true∧oe b=true) (h1:(a++b).size≤16):rf a b=[a++b]:=by unfold rf;rw [if_pos h,if_pos h1]
theorem LN (h:oe a=true∧oe b=true) (h1:¬ (a++b).size≤16) (h2:oe ((a++b).extract 0 (qh (a++b)))=true∧oe ((a++b).extract (qh (a++b)) (a++b).size)=true) :
 rf a b=[(a++b).extract 0 (qh (a++b)),(a++b).extract (qh (a++b)) (a++b).size]:=by unfold rf;rw [if_pos h,if_neg h1,if_pos h2]
theorem JQ (h:oe a=true∧oe b=true) (h1:¬ (a++b).size≤16) (h2:¬ (oe ((a++b).extract 0 (qh (a++b)))=true∧oe ((a++b).extract (qh (a++b)) (a++b).size)=true)) :
 rf a b=[a,b]:=by unfold rf;rw [if_pos h,if_neg h1,if_neg h2]
theorem rO (h:Below w w w'):ss w [] (zv (zw none 0 0)) w':=⟨none,0,rfl,fun k hk=>absurd hk li,h⟩
theorem QY {w1:zk} {x:ByteArray} (h:Below w w w1):ss w [x] (zv (zw (some ⟨w1,0,none⟩) 1 1)) (w1.alloc (.cells #[zn x] t)):=
 ⟨_,1,rfl,OL (Below.refl _ _),h.alloc h.size _⟩
theorem pH {w1:zk} {x y:ByteArray} (h:Below w w w1):ss w [x,y] (zv (zw (some ⟨w1,0,none⟩) 2 2)) (w1.alloc (.cells #[zn x,zn y] t)):=
 ⟨_,2,rfl,PS (Below.refl _ _),h.alloc h.size _⟩
set_option maxHeartbeats 800000 in
theorem wS (a b:ByteArray) (ha:a.size≤1000000) (hb:b.size≤1000000) (w:zk) :
 zx prog 163 #[zn a,zn b] w (ss w (rf a b)):=by
 have ca:=fC a (by first|omega|(unfold zu;omega));have cb:=fC b (by first|omega|(unfold zu;omega));have ac:=Below.refl w w;by_cases h1:oe a=true
 ·by_cases h2:oe b=true
  ·have s1:=((aV _).1 h1).2.1;have s2:=((aV _).1 h2).2.1;have hz:(a++b).size=a.size+b.size:=Aj;by_cases h3:(a++b).size≤16
   ·rw [ON ⟨h1,h2⟩ h3];rw [h1] at ca;rw [h2] at cb;have d1:a.size+b.size≤16:=lg;have d2:(a.size:Int)+(b.size:Int)≤16:=lg;have CA:=hid ca;have CB:=hid cb;have CS:=hid (eI (a++b) h3);clear ca cb h1 h2 h3 hz;go_enter func163,ntmps163;go_wp2_with fail;refine (mw (w0:=w) ac (CA.out _)).mono ?_;rintro e w1 ⟨rfl,aa⟩;go_wp2_with fail;refine (mw (w0:=w) aa (CB.out _)).mono ?_;rintro e w2 ⟨rfl,ab⟩;go_wp2_with fail;refine (CS.out _).mono ?_;rintro e w9 ⟨rfl,rfl⟩;go_wp2;go_ret;exact QY ab
   ·have ch:=OZ (a++b) lg;have hx:=bK (a++b) (qh (a++b)) (pI _);have hy:=dA (a++b) (qh (a++b));have hn:=pI (a++b);have cx:=fC ((a++b).extract 0 (qh (a++b))) (by first|omega|(unfold zu;omega));have cy:=fC ((a++b).extract (qh (a++b)) (a++b).size) (by first|omega|(unfold zu;omega));have j1:=fun h=>LN ⟨h1,h2⟩ h3 h;have j2:=fun h=>JQ ⟨h1,h2⟩ h3 h;obtain ⟨x,hxx⟩:∃ x,(a++b).extract 0 (qh (a++b))=x:=⟨_,rfl⟩;obtain ⟨y,hyy⟩:∃ y,(a++b).extract (qh (a++b)) (a++b).size=y:=⟨_,rfl⟩;simp only [hxx] at ch cx j1 j2;simp only [hyy] at ch cy j1 j2;rw [h1] at ca;rw [h2] at cb;have d1:¬ a.size+b.size≤16:=lg;have d2:¬ (a.size:Int)+(b.size:Int)≤16:=lg;have CA:=hid ca;have CB:=hid cb;have CH:=hid ch;have CS:=hid (lL (a++b) h3);clear ca cb ch h1 h2 h3 hz hx hy hn hxx hyy;by_cases g1:oe x=true
    ·rw [g1] at cx;by_cases g2:oe y=true
     ·rw [j1 ⟨g1,g2⟩];rw [g2] at cy;have CX:=hid cx;have CY:=hid cy;clear cx cy g1 g2 j1 j2;go_enter func163,ntmps163;go_wp2_with fail;refine (mw (w0:=w) ac (CA.out _)).mono ?_;rintro e w1 ⟨rfl,aa⟩;go_wp2_with fail;refine (mw (w0:=w) aa (CB.out _)).mono ?_;rintro e w2 ⟨rfl,ab⟩;go_wp2_with fail;refine (CS.out _).mono ?_;rintro e w9 ⟨rfl,rfl⟩;go_wp2_with fail;refine (mw (w0:=w) ab (CH.out _)).mono ?_;rintro e w3 ⟨rfl,ad⟩;go_wp2_with fail;refine (mw (w0:=w) ad (CX.out _)).mono ?_;rintro e w4 ⟨rfl,ae⟩;go_wp2_with fail;refine (mw (w0:=w) ae (CY.out _)).mono ?_;rintro e w5 ⟨rfl,af⟩;go_wp2;go_ret;exact pH af
     ·rw [j2 (fun h=>g2 h.2)];rw [zy.2 g2] at cy;have CX:=hid cx;have CY:=hid cy;clear cx cy g1 g2 j1 j2;go_enter func163,ntmps163;go_wp2_with fail;refine (mw (w0:=w) ac (CA.out _)).mono ?_;rintro e w1 ⟨rfl,aa⟩;go_wp2_with fail;refine (mw (w0:=w) aa (CB.out _)).mono ?_;rintro e w2 ⟨rfl,ab⟩;go_wp2_with fail;refine (CS.out _).mono ?_;rintro e w9 ⟨rfl,rfl⟩;go_wp2_with fail;refine (mw (w0:=w) ab (CH.out _)).mono ?_;rintro e w3 ⟨rfl,ad⟩;go_wp2_with fail;refine (mw (w0:=w) ad (CX.out _)).mono ?_;rintro e w4 ⟨rfl,ae⟩;go_wp2_with fail;refine (mw (w0:=w) ae (CY.out _)).mono ?_;rintro e w5 ⟨rfl,af⟩;go_wp2;go_ret;exact pH af
    ·rw [j2 (fun h=>g1 h.1)];rw [zy.2 g1] at cx;have CX:=hid cx;clear cx cy g1 j1 j2;go_enter func163,ntmps163;go_wp2_with fail;refine (mw (w0:=w) ac (CA.out _)).mono ?_;rintro e w1 ⟨rfl,aa⟩;go_wp2_with fail;refine (mw (w0:=w) aa (CB.out _)).mono ?_;rintro e w2 ⟨rfl,ab⟩;go_wp2_with fail;refine (CS.out _).mono ?_;rintro e w9 ⟨rfl,rfl⟩;go_wp2_with fail;refine (mw (w0:=w) ab (CH.out _)).mono ?_;rintro e w3 ⟨rfl,ad⟩;go_wp2_with fail;refine (mw (w0:=w) ad (CX.out _)).mono ?_;rintro e w4 ⟨rfl,ae⟩;go_wp2;go_ret;exact pH ae
  ·rw [wK (fun h=>h2 h.2)];rw [h1] at ca;rw [zy.2 h2] at cb;have CA:=hid ca;have CB:=hid cb;clear ca cb h1 h2;go_enter func163,ntmps163;go_wp2_with fail;refine (mw (w0:=w) ac (CA.out _)).mono ?_;rintro e w1 ⟨rfl,aa⟩;go_wp2_with fail;refine (mw (w0:=w) aa (CB.out _)).mono ?_;rintro e w2 ⟨rfl,ab⟩;go_wp2;go_ret;exact rO ab
 ·rw [wK (fun h=>h1 h.1)];rw [zy.2 h1] at ca;have CA:=hid ca;clear ca cb h1;go_enter func163,ntmps163;go_wp2_with fail;refine (mw (w0:=w) ac (CA.out _)).mono ?_;rintro e w1 ⟨rfl,aa⟩;go_wp2;go_ret;exact rO aa
end Go.Proofs.YtbagenpobcgjnaaGreat
namespace Go.Proofs.YtbagenpobcgjnaaGreat
open Go.Proofs.Tryz
open Go.RowKit Go.ChangeShapes Go.WideShapes Go.Deep
set_option linter.unusedVariables false
structure l9 where
 name:ByteArray
 p:Int
def l9.fits (x:l9):Prop:=x.name.size≤zu∧(-9223372036854775808≤x.p∧x.p≤9223372036854775807)
abbrev l9.v (x:l9):zp:=.agg #[zn x.name,zq .i64 x.p]
def o4 (w:zk) (B:Nat→Prop) (a:Option zm) (l:List l9):Prop:=
 ∀ (k:Nat) (h:k<l.length),∃ ad,a=some ad∧B ad.block∧w (ad.add (k * 2))=some (zn (l[k]).name)∧w ⟨(ad.add (k * 2)).block,(ad.add (k * 2)).off+1,none⟩=some (zq .i64 (l[k]).p)
theorem o4.keep {a:Option zm} {l:List l9} (h:o4 w B a l) (hk:∀ p:zm,B p.block→w' p=w p):o4 w' B a l:=fun k hl=>by
 obtain ⟨ad,e,hb,q0,q1⟩:=h k hl;exact ⟨ad,e,hb,(hk _ (by rw [show (ad.add (k * 2)).block=ad.block by unfold zt;split <;> rfl];exact hb)).trans q0,(hk _ (by show B (ad.add (k * 2)).block;rw [show (ad.add (k * 2)).block=ad.block by unfold zt;split <;> rfl];exact hb)).trans q1⟩
theorem o4.below {N:Nat} {a:Option zm} {l:List l9} (h:o4 w B a l) (hN:∀ b,B b→b<N) (hb:Below N w w'):o4 w' B a l:=h.keep fun _ hp=>hb.cell (hN _ hp)
theorem o4.more {w:zk} {B B':Nat→Prop} {a:Option zm} {l:List l9} (h:o4 w B a l) (hB:∀ b,B b→B' b):o4 w B' a l:=fun k hl=>by
 obtain ⟨ad,e,hb,h1⟩:=h k hl;exact ⟨ad,e,hB _ hb,h1⟩
section
variable {H : Type} {enc : TypeId × Value → H} {w : World} {base : Nat} {spare : Nat → Bool} {held : Bool}
theorem tU:prog.cellsOf 90=2:=lh
end
def l9.flat (l:List l9):List zp:=l.flatMap fun x=>[zn x.name,zq .i64 x.p]
theorem l9.flat_len (l:List l9):(l9.flat l).length=l.length * 2:=by
 unfold l9.flat
 induction l with
 | nil=>rfl
 | cons a r ih=>rw [List.flatMap_cons,List.length_append,ih];simp;omega
theorem l9.flat_app (a b:List l9):l9.flat (a++b)=l9.flat a++l9.flat b:=by simp [l9.flat]
theorem l9.flat_get (l:List l9) (k:Nat) (h:k<l.length):(l9.flat l)[k * 2]? = some (zn (l[k]'h).name)∧(l9.flat l)[k * 2+1]? = some (zq .i64 (l[k]'h).p):=by
 induction l generalizing k with
 | nil=>simp at h
 | cons a r ih =>
  have e:l9.flat (a::r)=([zn a.name,zq .i64 a.p]:List zp)++l9.flat r:=by simp [l9.flat]
  rw [e]
  match k,h with
  | 0,_=>simp
  | k+1,h =>
   have hr:=ih k (by simpa using h);rw [show (k+1) * 2=([zn a.name,zq .i64 a.p]:List zp).length+k * 2 from lr];simp only [Aa,List.getElem?_append_right (Nat.le_add_right _ _),Nat.add_sub_cancel_left];exact hr
theorem dT:(prog.info? 90).map (fun i=>(i.zero,i.size,i.bytes))=some (some (.agg #[zn zz,zq .i64 0]),2,24):=lh
theorem aY (w:zk) (name:ByteArray) (p:Int) (t:TypeId):∀ j u,([zn name,zq .i64 p]:List zp)[j]? = some u→(w.alloc (.cells #[zn name,zq .i64 p] t)) ((⟨w,0,none⟩:zm).add j)=some u:=by
 intro j u hj
 match j,hj with
 | 0,hj=>simp at hj;subst hj;simp [zt]
 | 1,hj=>simp at hj;subst hj;simp [zt,World.cell?_alloc_new]
theorem bA (name:ByteArray) (p:Int):∀ u∈([zn name,zq .i64 p]:List zp),u.oneCell'=true:=by
 intro u hu;simp at hu;rcases hu with rfl|rfl <;> rfl
theorem wQ {v:zp} {l:List l9} (h:w.ownsRow base t 2 v l.length (l9.flat l)):∃ a c,v=zw a l.length c∧o4 w (fun b=>base≤b∧b<w) a l:=by
 rcases h.2 with ⟨rfl,h0⟩|⟨g,cap,cur,rfl,hgb,hg,_⟩
 ·exact ⟨none,0,by rw [h0],fun k hk=>absurd hk lg⟩
 ·refine ⟨_,_,rfl,fun k hk=>⟨_,rfl,⟨hgb,(h.lt g rfl).2⟩,?_,?_⟩⟩
  ·exact h.cells (g:=g) rfl (k * 2) _ (l9.flat_get l k hk).1
  ·have:=h.cells (g:=g) rfl (k * 2+1) _ (l9.flat_get l k hk).2;have e:(⟨((⟨g,0,none⟩:zm).add (k * 2)).block,((⟨g,0,none⟩:zm).add (k * 2)).off+1,none⟩:zm)=(⟨g,0,none⟩:zm).add (k * 2+1):=by
    unfold zt;by_cases hk0:k * 2=0 <;> simp [hk0]
   rw [e];exact this
structure td (w:zk) (base:Nat) (a:Option zm) (l:List l9) (c:Nat):Prop where
 row:o4 w (fun b=>base≤b∧b<w) a l
 nil:a=none→c=0
 le:l.length≤c
 cap:c≤zu
theorem td.more {w:zk} {base b2:Nat} {a:Option zm} {l:List l9} {c:Nat} (h:td w base a l c) (hb:b2≤base):td w b2 a l c:=⟨h.row.more fun b hb2=>⟨Ab hb hb2.1,hb2.2⟩,h.nil,h.le,h.cap⟩
theorem td.none (w:zk) (base:Nat):td w base .none [] 0:=⟨fun k hk=>absurd hk li,fun _=>rfl,Nat.le_refl _,Ad _⟩
theorem dB {v:zp} {l:List l9} (h:w.ownsRow base t 2 v l.length (l9.flat l)):∃ a c,v=zw a l.length c∧td w base a l c:=by
 obtain ⟨a,c,e,hr⟩:=wQ h;refine ⟨a,c,e,hr,?_,?_,?_⟩
 ·intro hn;rcases h.2 with ⟨rfl,h0⟩|⟨g,cap,cur,rfl,-⟩
  ·injection e with _ _ e3;exact e3.symm
  ·injection e with e1;rw [hn] at e1;cases e1
 ·rcases h.2 with ⟨rfl,h0⟩|⟨g,cap,cur,rfl,_,_,hnc,_⟩
  ·injection e with _ e2 e3;omega
  ·injection e with _ _ e3;omega
 ·rcases h.2 with ⟨rfl,h0⟩|⟨g,cap,cur,rfl,_,_,hnc,hcm,_⟩
  ·injection e with _ e2 e3;unfold zu;omega
  ·injection e with _ _ e3;omega
def sb (w:zk) (l:List l9) (e:Ending) (w':zk):Prop:=∃ a c,e=zv (zw a l.length c)∧td w' w a l c∧Below w w w'
end Go.Proofs.YtbagenpobcgjnaaGreat
namespace Go.Proofs.YtbagenpobcgjnaaGreat
open Go.RowKit
set_option linter.unusedVariables false
instance :Inhabited l8:=⟨⟨0,zz,zz⟩⟩
structure mo where
 a:Option zm
 l:List l8
 c:Nat
instance :Inhabited mo:=⟨⟨none,[],0⟩⟩
def mo.v (x:mo):zp:=zw x.a x.l.length x.c
structure o0 (w:zk) (x:mo):Prop where
 row:qf w (·<w) x.a x.l
 nil:x.a=none→x.c=0
theorem o0.len {x:mo} (h:o0 w x) (hn:x.a=none):x.l=[]:=by
 cases hl:x.l with
 | nil=>rfl
 | cons y r =>
  obtain ⟨ad,e,-⟩:=h.row 0 (by rw [hl];simp);rw [hn] at e;cases e
theorem tu {l:List l8} {k:Nat} (h:k<l.length):l[k]! = l[k]:=getElem!_pos l k h
theorem sM (ad:zm) (k i:Nat) (h:0<i):(⟨(ad.add (k * 3)).block,(ad.add (k * 3)).off+i,none⟩:zm)=ad.add (k * 3+i):=by
 unfold zt;by_cases hk:k * 3=0
 ·rw [if_pos hk,if_neg lg,hk,Nat.zero_add]
 ·rw [if_neg hk,if_neg lg];show (⟨ad.block,ad.off+k * 3+i,none⟩:zm)=⟨ad.block,ad.off+(k * 3+i),none⟩;rw [Aa]
theorem mD {ad:zm} {l:List l8} (h:qf w B (some ad) l):∀ j u,(l8.flat l)[j]? = some u→w (ad.add j)=some u:=fun j u hj=>by
 have hlt:j<l.length * 3:=by
  rcases Nat.lt_or_ge j (l.length * 3) with g|g
  ·exact g
  ·rw [List.getElem?_eq_none (by rw [l8.flat_len];exact g)] at hj;cases hj
 obtain ⟨ad',e,-,q0,q1,q2⟩:=h (j / 3) lg;obtain rfl:ad=ad':=by injection e
 obtain ⟨g0,g1,g2⟩:=l8.flat_get l (j / 3) lg;rcases (show j=j / 3 * 3∨j=j / 3 * 3+1∨j=j / 3 * 3+2 by omega) with g|g|g
 ·rw [g] at hj ⊢;rw [g0] at hj;rw [q0];exact hj
 ·rw [g] at hj ⊢;rw [g1] at hj;rw [← sM _ _ _ lj,q1];exact hj
 ·rw [g] at hj ⊢;rw [g2] at hj;rw [← sM _ _ _ lj,q2];exact hj
theorem mG (l:List l8):∀ u∈l8.flat l,u.oneCell'=true:=fun u hu=>by
 unfold l8.flat at hu;obtain ⟨x,-,hx⟩:=List.mem_flatMap.1 hu;exact nP _ _ _ u hx
structure rp (w:zk) (base:Nat) (x:mo):Prop where
 row:qf w (fun b=>base≤b∧b<w) x.a x.l
 nil:x.a=none→x.c=0
 le:x.l.length≤x.c
 cap:x.c≤zu
theorem dV {v:zp} {l:List l8} (h:w.ownsRow base t 3 v l.length (l8.flat l)):∃ a c,v=zw a l.length c∧rp w base ⟨a,l,c⟩:=by
 obtain ⟨a,c,e,hr⟩:=PA h;refine ⟨a,c,e,hr,?_,?_,?_⟩
 ·intro hn;have hn:a=none:=hn;rcases h.2 with ⟨rfl,h0⟩|⟨g,cap,cur,rfl,-⟩
  ·injection e with _ _ e3;exact e3.symm
  ·injection e with e1;rw [hn] at e1;cases e1
 ·show l.length≤c;rcases h.2 with ⟨rfl,h0⟩|⟨g,cap,cur,rfl,_,_,hnc,_⟩
  ·injection e with _ e2 e3;omega
  ·injection e with _ _ e3;omega
 ·show c≤zu;rcases h.2 with ⟨rfl,h0⟩|⟨g,cap,cur,rfl,_,_,hnc,hcm,_⟩
  ·injection e with _ e2 e3;unfold zu;omega
  ·injection e with _ _ e3;omega
theorem rp.in {x:mo} (h:rp w base x):o0 w x:=⟨h.row.more fun _ hb=>hb.2,h.nil⟩
theorem rp.below {W:zk} {x:mo} (h:rp w base x) (hb:Below w w W):rp W base x:=
 ⟨(h.row.below (fun _ h=>h.2) hb).more fun _ aa=>⟨aa.1,Ae aa.2 hb.size⟩,h.nil,h.le,h.cap⟩
theorem rp.mono {b2:Nat} {x:mo} (h:rp w base x) (hb:b2≤base):rp w b2 x:=⟨h.row.more fun _ hb2=>⟨Ab hb hb2.1,hb2.2⟩,h.nil,h.le,h.cap⟩
def yu (w:zk) (l:List l8) (e:Ending) (w':zk):Prop:=∃ a c,e=zv (zw a l.length c)∧rp w' w ⟨a,l,c⟩∧Below w w w'
theorem o0.later {W:zk} {x:mo} (h:o0 w x) (hb:Below w w W):o0 W x:=⟨(h.row.below (fun _ h=>h) hb).more fun b hb2=>Ae hb2 hb.size,h.nil⟩
theorem o0.empty (w:zk):o0 w ⟨.none,[],0⟩:=⟨fun k hk=>absurd hk li,fun _=>rfl⟩
def r8 (ps:List mo):Nat:=(ps.map fun x=>x.l.length).sum
def sy (ps:List mo):List l8:=ps.flatMap fun x=>x.l
theorem og {ps:List mo} {k:Nat} (h:k<ps.length):ps[k]! = ps[k]:=getElem!_pos ps k h
theorem eptake (ps:List mo) (k:Nat) (h:k<ps.length):ps.take (k+1)=ps.take k++[ps[k]!]:=by
 rw [List.take_succ_eq_append_getElem h,og h]
theorem pZ (ps:List mo) (k:Nat) (h:k<ps.length):r8 (ps.take (k+1))=r8 (ps.take k)+(ps[k]!).l.length:=by
 unfold r8;rw [eptake ps k h,Af,Ag];simp
theorem GF (ps:List mo) (k:Nat) (h:k<ps.length):sy (ps.take (k+1))=sy (ps.take k)++(ps[k]!).l:=by
 unfold sy;rw [eptake ps k h,List.flatMap_append];simp
theorem JO (ps:List mo):(sy ps).length=r8 ps:=by
 unfold sy r8;rw [List.length_flatMap]
theorem jX (ps:List mo) (k:Nat):r8 (ps.take k)≤r8 ps:=by
 have e:=congrArg r8 (List.take_append_drop k ps);unfold r8 at e ⊢;rw [Af,Ag] at e;omega
end Go.Proofs.YtbagenpobcgjnaaGreat
namespace Go.Proofs.YtbagenpobcgjnaaGreat
open Go.Proofs.Tryz
set_option maxRecDepth 100000
open Go.RowKit Go.ChangeShapes Go.WideShapes Go.Deep
set_option linter.unusedVariables false
structure vq where
 ep:Int
 sq:Int
 data:ByteArray
def vq.fits (x:vq):Prop:=(-9223372036854775808≤x.ep∧x.ep≤9223372036854775807)∧(-9223372036854775808≤x.sq∧x.sq≤9223372036854775807)∧x.data.size≤zu
abbrev vq.v (x:vq):zp:=.agg #[zq .i64 x.ep,zq .i64 x.sq,zn x.data]
def sd (w:zk) (B:Nat→Prop) (a:Option zm) (l:List vq):Prop:=
 ∀ (k:Nat) (h:k<l.length),∃ ad,a=some ad∧B ad.block∧w (ad.add (k * 3))=some (zq .i64 (l[k]).ep)∧w ⟨(ad.add (k * 3)).block,(ad.add (k * 3)).off+1,none⟩=some (zq .i64 (l[k]).sq)∧w ⟨(ad.add (k * 3)).block,(ad.add (k * 3)).off+2,none⟩=some (zn (l[k]).data)
theorem sd.keep {a:Option zm} {l:List vq} (h:sd w B a l) (hk:∀ p:zm,B p.block→w' p=w p):sd w' B a l:=fun k hl=>by
 obtain ⟨ad,e,hb,q0,q1,q2⟩:=h k hl;exact ⟨ad,e,hb,(hk _ (by rw [show (ad.add (k * 3)).block=ad.block by unfold zt;split <;> rfl];exact hb)).trans q0,(hk _ (by show B (ad.add (k * 3)).block;rw [show (ad.add (k * 3)).block=ad.block by unfold zt;split <;> rfl];exact hb)).trans q1,(hk _ (by show B (ad.add (k * 3)).block;rw [show (ad.add (k * 3)).block=ad.block by unfold zt;split <;> rfl];exact hb)).trans q2⟩
theorem sd.below {N:Nat} {a:Option zm} {l:List vq} (h:sd w B a l) (hN:∀ b,B b→b<N) (hb:Below N w w'):sd w' B a l:=h.keep fun _ hp=>hb.cell (hN _ hp)
theorem sd.more {w:zk} {B B':Nat→Prop} {a:Option zm} {l:List vq} (h:sd w B a l) (hB:∀ b,B b→B' b):sd w B' a l:=fun k hl=>by
 obtain ⟨ad,e,hb,h1⟩:=h k hl;exact ⟨ad,e,hB _ hb,h1⟩
section
variable {H : Type} {enc : TypeId × Value → H} {w : World} {base : Nat} {spare : Nat → Bool} {held : Bool}
theorem sD:prog.cellsOf 38=3:=lh
theorem PU {n:Nat} {cs:List zp} {x:DataW H×List MemPlace} (h:DataW.trod enc prog w base spare held n 38 cs=some x) :
 ∃ x:vq,x.fits∧cs=[.int .i64 x.ep,.int .i64 x.sq,.string x.data]:=by
 obtain ⟨hl,hf⟩:=open_fields underlying38 lh h;rw [sD] at hl;obtain ⟨u0,u1,u2,rfl⟩:∃ u0 u1 u2,cs=[u0,u1,u2]:=by
  match cs,hl with
  | [u0,u1,u2],_=>exact ⟨u0,u1,u2,rfl⟩
 obtain ⟨m0,y0,h0⟩:=hf 0 _ li rfl;obtain ⟨x0,e0,_,w0⟩:=DataW.trod_int underlying3 h0;have g0:u0=.int .i64 x0:=by simpa using e0
 obtain ⟨m1,y1,h1⟩:=hf 1 _ li rfl;obtain ⟨x1,e1,_,w1⟩:=DataW.trod_int underlying3 h1;have g1:u1=.int .i64 x1:=by simpa using e1
 obtain ⟨m2,y2,h2⟩:=hf 2 _ li rfl;obtain ⟨x2,e2,_,w2⟩:=DataW.trod_string underlying9 h2;have g2:u2=.string x2:=by simpa using e2
 subst g0 g1 g2;exact ⟨⟨x0,x1,x2⟩,⟨bounds_i64 w0,bounds_i64 w1,w2⟩,rfl⟩
theorem open_frms {r:Reach} {b0:Nat} {v:zp} {d:DataW H} {p:List MemPlace} (hv:Value.okWide prog w r b0 36 v) (h:DataW.Trod enc prog w base spare held 36 v d p) (_:∀ x∈p,x.block<w) :
 ∃ (a:Option zm) (l:List vq) (c:Nat),v=.slice a l.length c∧sd w (·<w) a l∧(∀ x∈l,x.fits)∧l.length≤zu:=by
 rcases open_row underlying36 hv h with rfl|⟨a,len,cap,rfl,hlc,hcm,hx⟩
 ·exact ⟨none,[],0,rfl,fun k hk=>absurd hk li,fun x hx=>absurd hx li,Ad _⟩
 ·haveI:Inhabited vq:=⟨⟨0,0,zz⟩⟩
  obtain ⟨V,hV⟩:=choose_lt (α:=vq) (p:=fun i x=>x.fits∧w.cells? base (a.add (i * prog.cellsOf 38)) (prog.cellsOf 38)=some [.int .i64 x.ep,.int .i64 x.sq,.string x.data]) (fun i hi=>by
   obtain ⟨cs,n,x,h1,h2⟩:=hx i hi;obtain ⟨c,hf,rfl⟩:=PU h2;exact ⟨c,hf,h1⟩)
  have hlen:((Ai len).map V).length=len:=li;refine ⟨some a,(Ai len).map V,cap,by rw [hlen],fun k hk=>?_,fun x hx=>?_,by rw [hlen];omega⟩
  ·have hk':k<len:=by rw [hlen] at hk;exact hk
   have h1:=(hV k hk').2;rw [sD] at h1;obtain ⟨_,hc⟩:=gC h1;have hbl:(a.add (k * 3)).block=a.block:=by unfold zt;split <;> rfl
   have q0:=hc 0 li;have q1:=hc 1 li;have q2:=hc 2 li;refine ⟨a,rfl,?_,?_,?_,?_⟩
   ·have:=World.block_lt_of_cell? w _ q0;rwa [show ((a.add (k * 3)).add 0).block=(a.add (k * 3)).block by unfold zt;simp,hbl] at this
   ·simpa [zt] using q0
   ·simpa [zt] using q1
   ·simpa [zt] using q2
  ·obtain ⟨i,hi,rfl⟩:=List.mem_map.1 hx;exact (hV i (List.mem_range.1 hi)).1
end
end Go.Proofs.YtbagenpobcgjnaaGreat
