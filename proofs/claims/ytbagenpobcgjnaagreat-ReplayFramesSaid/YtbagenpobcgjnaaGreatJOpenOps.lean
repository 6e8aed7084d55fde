/-
  Joined: OpenOps, Row, KnotMath, WeldMath.
-/
import Derived.Test.YtbagenpobcgjnaaGreatJStrs
import Derived.Lib.Join
open ByteArray renaming empty->Ah,size_append->zk
open Go.Addr renaming add->zn
open Int renaming natCast_add->zr
open List renaming append_nil->Ab,drop_zero->Ad,foldl_cons->zy,getLastD_eq_getLast?->zt,intercalate->Aa,length_append->zm,length_cons->zo,length_drop->Ag,length_pos_iff->zp,range->zw,take_of_length_le->Af
open Nat renaming eq_zero_or_pos->zq,le_refl->zx,lt_or_ge->zu,sub_zero->Ae,zero_le->zv
variable {A B L:List ByteArray} {n:Nat}
namespace Go.Proofs.YtbagenpobcgjnaaGreat
open Go.Proofs.Tryz
set_option maxRecDepth 100000
open Go.RowKit Go.ChangeShapes Go.WideShapes Go.Deep
set_option linter.unusedVariables false
section
variable {H : Type} {enc : TypeId × Value → H} {w : World} {base : Nat} {spare : Nat → Bool} {held : Bool}
theorem open_oprs {r:Reach} {b0:Nat} {v:Value} {d:DataW H} {p:List MemPlace} (hv:Value.okWide prog w r b0 27 v) (h:DataW.Trod enc prog w base spare held 27 v d p) (_:∀ x∈p,x.block<w) :
 ∃ (a:Option Addr) (l:List ru) (c:Nat),v=.slice a l.length c∧ud w (·<w) a l∧(∀ x∈l,x.fits)∧l.length≤maxLen:=by
 rcases open_row underlying27 hv h with rfl|⟨a,len,cap,rfl,hlc,hcm,hx⟩
 ·exact ⟨none,[],0,rfl,fun k hk=>absurd hk li,fun x hx=>absurd hx li,zv _⟩
 ·haveI:Inhabited ru:=⟨⟨0,0,0,Ah⟩⟩
  obtain ⟨V,hV⟩:=choose_lt (α:=ru) (p:=fun i x=>x.fits∧w.cells? base (a.add (i * prog.cellsOf 50)) (prog.cellsOf 50)=some [.int .i64 x.k,.int .i64 x.a,.int .i64 x.n,.string x.s]) (fun i hi=>by
   obtain ⟨cs,n,x,h1,h2⟩:=hx i hi;obtain ⟨c,hf,rfl⟩:=QB h2;exact ⟨c,hf,h1⟩)
  have hlen:((zw len).map V).length=len:=li;refine ⟨some a,(zw len).map V,cap,by rw [hlen],fun k hk=>?_,fun x hx=>?_,by rw [hlen];omega⟩
  ·have hk':k<len:=by rw [hlen] at hk;exact hk
   have h1:=(hV k hk').2;rw [tB] at h1;obtain ⟨_,hc⟩:=gC h1;have hbl:(a.add (k * 4)).block=a.block:=by unfold zn;split <;> rfl
   have q0:=hc 0 li;have q1:=hc 1 li;have q2:=hc 2 li;have q3:=hc 3 li;refine ⟨a,rfl,?_,?_,?_,?_,?_⟩
   ·have:=World.block_lt_of_cell? w _ q0;rwa [show ((a.add (k * 4)).add 0).block=(a.add (k * 4)).block by unfold zn;simp,hbl] at this
   ·simpa [zn] using q0
   ·simpa [zn] using q1
   ·simpa [zn] using q2
   ·simpa [zn] using q3
  ·obtain ⟨i,hi,rfl⟩:=List.mem_map.1 hx;exact (hV i (List.mem_range.1 hi)).1
end
end Go.Proofs.YtbagenpobcgjnaaGreat
namespace Go.Proofs.YtbagenpobcgjnaaGreat
open Go.RowKit
set_option linter.unusedVariables false
def wq (n:Nat):Nat:=if n=9 then 7 else min n 8
theorem RH (h:0<n):0<wq n:=by unfold wq;split <;> omega
theorem MB (n:Nat):wq n≤n:=by unfold wq;split <;> omega
theorem RZ (n:Nat):wq n≤8:=by unfold wq;split <;> omega
theorem BX (h:2≤n):2≤wq n:=by unfold wq;split <;> omega
theorem vQ (h:n≠1):n - wq n≠1:=by unfold wq;split <;> omega
def pm (n:Nat):Nat:=if h:n=0 then 0 else 1+pm (n - wq n)
 termination_by n
 decreasing_by have:=RH (Nat.pos_of_ne_zero h);omega
theorem fS:pm 0=0:=by rw [pm];rfl
theorem gF (h:0<n):pm n=1+pm (n - wq n):=by rw [pm,dif_neg lg]
theorem jK (n:Nat):n≠1→2 * pm n≤n:=by
 induction n using Nat.strongRecOn with
 | _ n ih =>
  intro h;rcases zq n with rfl|h0
  ·rw [fS];exact zx _
  ·rw [gF h0];have h2:=BX (n:=n) lg;have:=MB n;have:=ih (n - wq n) lg (vQ h);omega
theorem oH (h:0<n):0<pm n:=by rw [gF h];omega
def zj (n h:Nat):Nat:=if n≤1 then h else if n≤8 then h+1 else if hq:pm n<n then zj (pm n) (h+1) else 0
 termination_by n
theorem RA {h:Nat} (hn:n≤1):zj n h=h:=by rw [zj,if_pos hn]
theorem SJ {h:Nat} (hn:1<n) (h8:n≤8):zj n h=h+1:=by rw [zj,if_neg lg,if_pos h8]
theorem PI {h:Nat} (hn:8<n):zj n h=zj (pm n) (h+1):=by
 have:=jK n lg
 conv=>lhs;rw [zj]
 rw [if_neg lg,if_neg lg,dif_pos lg]
theorem aJ (A B:List ByteArray):ly (A++B)=ly A++ly B:=by
 have h:∀ (B:List ByteArray) (p q:ByteArray),B.foldl (·++·) (p++q)=p++B.foldl (·++·) q:=by
  intro B
  induction B with
  | nil=>intro p q;rfl
  | cons x B ih=>intro p q;rw [zy,zy,gK,ih]
 unfold ly;rw [List.foldl_append];have:=h B (A.foldl (·++·) ⟨#[]⟩) ⟨#[]⟩;rwa [pM _ ⟨#[]⟩ rfl] at this
theorem cE (x:ByteArray):ly [x]=x:=BG x
theorem KL:ly []=⟨#[]⟩:=rfl
theorem GG (h:∀ s∈L,qt s):(ly L).size≤16 * L.length:=by
 induction L with
 | nil=>exact zv _
 | cons x L ih =>
  have e:ly (x::L)=x++ly L:=by
   have:=aJ [x] L;rwa [cE] at this
  have h1:=(h x li).2.1;have h2:=ih fun s hs=>h s (by simp [hs]);rw [e,zk,zo];omega
theorem DV (L:List ByteArray):Lib.join (L.map (·.data.toList)) []=(ly L).data.toList:=by
 have h:∀ L:List ByteArray,(ly L).data.toList=(L.map (·.data.toList)).flatten:=by
  intro L
  induction L with
  | nil=>rfl
  | cons x L ih =>
   have e:ly (x::L)=x++ly L:=by
    have:=aJ [x] L;rwa [cE] at this
   rw [e,aI,ih,List.map_cons,List.flatten_cons]
 rw [h];have g:∀ M:List (List UInt8),Aa [] M=M.flatten:=by
  intro M;unfold Aa
  induction M with
  | nil=>rfl
  | cons x M ih =>
   cases M with
   | nil=>simp
   | cons y M=>simp at ih ⊢;exact ih
 unfold Lib.join;exact g _
def uj (s:ByteArray):sw:=⟨s.size,oo s.data.toList,op s.data.toList⟩
theorem lK (h:n≤1000000):wrap64 (n:Int)=n:=by unfold wrap64;omega
theorem QA (a b:ByteArray) (ha:(a++b).size≤1000000):(uj a).plus (uj b)=uj (a++b):=by
 have h1:=uX (a++b).data.toList;have h2:=xF (a++b).data.toList;have h3:(a++b).data.toList.length=(a++b).size:=li;have e1:oo (a++b).data.toList=oo a.data.toList+oo b.data.toList:=by rw [aI,tY]
 have e2:op (a++b).data.toList=op a.data.toList+op b.data.toList:=by rw [aI,uE]
 have e3:(a++b).size=a.size+b.size:=zk;unfold sw.plus uj;simp only [sw.mk.injEq];refine ⟨?_,?_,?_⟩
 ·rw [e3,← zr];exact lK lg
 ·rw [e1,← zr];exact lK lg
 ·rw [e2,← zr];exact lK lg
def py (L:List ByteArray):ByteArray:=L.headD ⟨#[]⟩
def pl (L:List ByteArray):ByteArray:=L.getLastD ⟨#[]⟩
theorem OJ (h:A≠[]):py (A++B)=py A:=by
 cases A with
 | nil=>exact absurd rfl h
 | cons x A=>rfl
theorem yQ (h:B≠[]):pl (A++B)=pl B:=by
 unfold pl;rw [zt,zt,List.getLast?_append];obtain ⟨x,hx⟩:∃ x,B.getLast? = some x:=by
  cases hB:B.getLast? with
  | none=>exact absurd (List.getLast?_eq_none_iff.1 hB) h
  | some x=>exact ⟨x,rfl⟩
 rw [hx];rfl
theorem xG (h:0<L.length):py L=L[0]:=by
 cases L with
 | nil=>exact absurd h (Nat.lt_irrefl 0)
 | cons x L=>rfl
theorem xJ (h:0<L.length):pl L=L[L.length - 1]' lg:=by
 unfold pl;rw [zt,List.getLast?_eq_getElem?,List.getElem?_eq_getElem lg];rfl
theorem eS (x:ByteArray) (L:List ByteArray):ly (x::L)=x++ly L:=by
 have:=aJ [x] L;rwa [cE] at this
theorem aU (x:ByteArray) (L:List ByteArray):mr (x::L)↔qt x∧(L≠[]→16<x.size+(py L).size)∧mr L:=by
 constructor
 ·intro h;refine ⟨(h 0 li).1,fun hn=>?_,fun k hk=>?_⟩
  ·cases L with
   | nil=>exact absurd rfl hn
   | cons y L=>exact (h 1 li).2 lj
  ·refine ⟨(h (k+1) (by simpa using hk)).1,fun h0=>?_⟩;have:=(h (k+1) (by simpa using hk)).2 lg;obtain ⟨j,rfl⟩:∃ j,k=j+1:=⟨k - 1,lg⟩;exact this
 ·rintro ⟨h1,h2,h3⟩;refine lA h1 (fun h=>?_) h3;cases L with
  | nil=>exact absurd h li
  | cons y L=>exact h2 li
theorem dN (A B:List ByteArray):mr (A++B)↔mr A∧mr B∧(A≠[]→B≠[]→16<(pl A).size+(py B).size):=by
 induction A with
 | nil=>simp [aR]
 | cons x A ih =>
  rw [List.cons_append,aU,ih,aU];cases A with
  | nil =>
   constructor
   ·rintro ⟨h1,h2,h3,h4,h5⟩;exact ⟨⟨h1,fun h=>absurd rfl h,aR⟩,h4,fun _ hb=>h2 (by simpa using hb)⟩
   ·rintro ⟨⟨h1,h2,h3⟩,h4,h5⟩;exact ⟨h1,fun hb=>h5 li (by simpa using hb),aR,h4,fun h=>absurd rfl h⟩
  | cons y A =>
   have e1:py (y::A++B)=y:=rfl;have e2:py (y::A)=y:=rfl;have e3:pl (x::y::A)=pl (y::A):=rfl;rw [e1,e2,e3];constructor
   ·rintro ⟨h1,h2,h3,h4,h5⟩;exact ⟨⟨h1,fun _=>h2 li,h3⟩,h4,fun _ hb=>h5 li hb⟩
   ·rintro ⟨⟨h1,h2,h3⟩,h4,h5⟩;exact ⟨h1,fun _=>h2 li,h3,h4,fun _ hb=>h5 li hb⟩
theorem KD {x:ByteArray} (h:qt x):mr [x]:=(aU x []).2 ⟨h,fun h=>absurd rfl h,aR⟩
theorem eQ (h:mr L):∀ s∈L,qt s:=fun s hs=>by
 obtain ⟨k,hk,rfl⟩:=List.mem_iff_getElem.1 hs;exact (h k hk).1
theorem qI:∀ L:List ByteArray,mr L→17 * (L.length / 2)≤(ly L).size
 | [],_=>li
 | [x],_=>li
 | x::y::L,h=>by
  obtain ⟨h1,h2,h3⟩:=(aU x (y::L)).1 h;obtain ⟨h4,h5,h6⟩:=(aU y L).1 h3;have:=qI L h6;have e:py (y::L)=y:=rfl;have g:=h2 li;rw [e] at g;rw [eS,eS,zk,zk,zo,zo];omega
theorem tQ (h:mr L):17 * L.length≤2 * (ly L).size+17:=by have:=qI L h;omega
theorem QH (h:∀ s∈L,qt s):rm (ly L).data.toList:=by
 induction L with
 | nil=>exact hG
 | cons x L ih =>
  rw [eS,aI];exact fD _ _ (h x li).2.2 (ih fun s hs=>h s (by simp [hs]))
theorem OW (h:∀ s∈L,qt s):L.length≤(ly L).size:=by
 induction L with
 | nil=>simp
 | cons x L ih =>
  have:=(h x li).1;have:=ih fun s hs=>h s (by simp [hs]);rw [eS,zk,zo];omega
theorem iH (a b:ByteArray):(rf a b).length=1↔(qt a∧qt b∧a.size+b.size≤16):=by
 unfold rf;by_cases hf:oe a=true∧oe b=true
 ·rw [if_pos hf];have g:=hf;rw [aV,aV] at g;by_cases hz:(a++b).size≤16
  ·rw [if_pos hz];rw [zk] at hz;simp [g,hz]
  ·rw [if_neg hz];rw [zk] at hz;split <;> simp <;> intro _ _ <;> omega
 ·rw [if_neg hf];rw [aV,aV] at hf;simp;intro h1 h2;exact absurd ⟨h1,h2⟩ hf
theorem AE {a b:ByteArray} (h:(rf a b).length=1):rf a b=[a++b]:=by
 obtain ⟨h1,h2,h3⟩:=(iH a b).1 h;unfold rf;rw [if_pos ⟨(aV a).2 h1,(aV b).2 h2⟩,if_pos (by rw [zk];exact h3)]
theorem xR {a b:ByteArray} (h1:qt a) (h2:qt b) (h3:a.size+b.size≤16):qt (a++b):=
 ⟨by rw [zk];have:=h1.1;omega,by rw [zk];exact h3,by rw [aI];exact fD _ _ h1.2.2 h2.2.2⟩
theorem MJ (A:List ByteArray) (x:ByteArray):pl (A++[x])=x:=yQ li
theorem OO {x y:ByteArray} (hA:mr (A++[x])) (hB:mr (y::B)) (hz:x.size+y.size≤16) :
 mr (A++([x++y]++B))∧ly (A++([x++y]++B))=ly (A++[x])++ly (y::B):=by
 obtain ⟨a1,a2,a3⟩:=(dN A [x]).1 hA;obtain ⟨b1,b2,b3⟩:=(aU y B).1 hB;have hx:=((aU x []).1 a2).1;have hs:(x++y).size=x.size+y.size:=zk;refine ⟨(dN _ _).2 ⟨a1,(aU _ _).2 ⟨xR hx b1 hz,fun h=>?_,b3⟩,fun h1 h2=>?_⟩,?_⟩
 ·have:=b2 h;show 16<(x++y).size+(py B).size;omega
 ·have:16<(pl A).size+x.size:=a3 h1 li;show 16<(pl A).size+(x++y).size;omega
 ·rw [aJ,aJ,aJ,cE,cE,eS,gK,gK]
theorem QD (hA:mr A) (hB:mr B) (h:(rf (pl A) (py B)).length≠1):mr (A++B):=by
 refine (dN _ _).2 ⟨hA,hB,fun h1 h2=>?_⟩;rcases zu 16 ((pl A).size+(py B).size) with g|g
 ·exact g
 ·have p1:0<A.length:=zp.2 h1;have p2:0<B.length:=zp.2 h2;refine absurd ((iH _ _).2 ⟨?_,?_,g⟩) h
  ·rw [xJ p1];exact (hA _ _).1
  ·rw [xG p2];exact (hB _ _).1
def ri (x:ByteArray):List ByteArray:=if oe x=true then [x] else []
theorem yF {x:ByteArray} (hz:x.size≤16) (hv:rm x.data.toList):mr (ri x)∧ly (ri x)=x:=by
 unfold ri;by_cases h:oe x=true
 ·rw [if_pos h];exact ⟨KD ((aV x).1 h),cE x⟩
 ·rw [if_neg h];have:x.size=0:=by
   rcases zq x.size with g|g
   ·exact g
   ·exact absurd ((aV x).2 ⟨g,hz,hv⟩) h
  refine ⟨aR,?_⟩;rw [KL];apply aW;exact (List.eq_nil_of_length_eq_zero (l:=x.data.toList) (by simpa using this)).symm
theorem tX {a s:List UInt8} (hs:rm s) (hn:s≠[]):¬ (128≤bt (a++s) a.length∧bt (a++s) a.length≤191):=by
 rcases eM s hs with h|h
 ·exact absurd h hn
 ·rw [dJ _ _ _ (zx _),Nat.sub_self];exact h
theorem vZ (a s c:List UInt8) (hs:rm s) (hc:rm c) (k:Nat) (hk:k≤s.length):o6 (a++(s++c)) (a.length+k)↔o6 s k:=by
 have hsc:rm (s++c):=fD s c hs hc;have hl:(a++(s++c)).length=a.length+(s.length+c.length):=by rw [zm,zm]
 rcases zq k with rfl|h0
 ·refine iff_of_true ?_ (bZ s);by_cases h:s++c=[]
  ·rw [h,Ab];exact lC a
  ·have:=zp.2 h;rw [zm] at this;exact .inr (.inr ⟨lg,tX hsc h⟩)
 ·rcases zu k s.length with h1|h1
  ·have e:bt (a++(s++c)) (a.length+k)=bt s k:=by
    rw [dJ _ _ _ lg,show a.length+k - a.length=k by omega,bF _ _ _ h1]
   unfold o6;rw [e,hl];constructor
   ·rintro (h|h|h)
    ·omega
    ·omega
    ·exact .inr (.inr ⟨h1,h.2⟩)
   ·rintro (h|h|h)
    ·omega
    ·omega
    ·exact .inr (.inr ⟨lg,h.2⟩)
  ·obtain rfl:k=s.length:=lg;refine iff_of_true ?_ (lC s);by_cases h:c=[]
   ·subst h;rw [Ab];refine .inr (.inl ?_);rw [zm]
   ·have:=zp.2 h;have g:=tX (a:=a++s) hc h;rw [List.append_assoc,zm] at g;exact .inr (.inr ⟨lg,g⟩)
theorem NE (a s c:List UInt8) (p:Int) (hs:rm s) (hc:rm c) (h1:a≠[]→(a.length:Int)≤p) (h2:c≠[]→p - a.length<s.length) :
 mi (a++(s++c)) p=a.length+mi s (p - a.length):=by
 have hl:(a++(s++c)).length=a.length+(s.length+c.length):=by rw [zm,zm]
 have ha:a=[]∨(a.length:Int)≤p:=by
  by_cases h:a=[]
  ·exact .inl h
  ·exact .inr (h1 h)
 have hc':c.length=0∨p - a.length<s.length:=by
  by_cases h:c=[]
  ·subst h;exact .inl rfl
  ·exact .inr (h2 h)
 by_cases h0:p<0
 ·rcases ha with rfl|h
  ·unfold mi;simp [h0]
  ·omega
 ·have hp:(0:Int)≤p - a.length:=by
   rcases ha with rfl|h
   ·simp;omega
   ·omega
  by_cases h3:((a++(s++c)).length:Int)<p
  ·have:(s.length:Int)<p - a.length:=by rw [hl] at h3;omega
   have h4:¬ p - (a.length:Int)<0:=lg;unfold mi;rw [if_neg h0,if_pos h3,if_neg h4,if_pos this,hl];omega
  ·have h4:¬ p - (a.length:Int)<0:=lg;have h5:¬ (s.length:Int)<p - a.length:=by rw [hl] at h3;omega
   unfold mi;rw [if_neg h0,if_neg h3,if_neg h4,if_neg h5];obtain ⟨k,hk⟩:∃ k,(p - a.length).toNat=k:=⟨_,rfl⟩;have aa:p.toNat=a.length+k:=lg;have hks:k≤s.length:=lg;rw [hk,aa];apply Nat.le_antisymm
   ·have g1:=jN (a++(s++c)) (a.length+k);have g2:=jM (a++(s++c)) (a.length+k);rcases zu (qv (a++(s++c)) (a.length+k)) a.length with g|g
    ·omega
    ·obtain ⟨m,hm⟩:∃ m,qv (a++(s++c)) (a.length+k)=a.length+m:=⟨_,(Nat.add_sub_cancel' g).symm⟩;rw [hm] at g1 g2 ⊢;have:=rJ s m k ((vZ a s c hs hc m lg).1 g1) lg;omega
   ·have g2:=jM s k;exact rJ _ _ _ ((vZ a s c hs hc _ lg).2 (jN s k)) lg
theorem iU (l:List UInt8) (p:Int):mi l p≤l.length:=by
 unfold mi;split
 ·omega
 ·split
  ·omega
  ·have:=jM l p.toNat;omega
theorem EL (l:List UInt8) (p:Int):o6 l (mi l p):=by
 unfold mi;split
 ·exact bZ l
 ·split
  ·exact lC l
  ·exact jN _ _
theorem RF (a s c:ByteArray) (m:Nat) (hm:m≤s.size) :
 (a++(s++c)).extract 0 (a.size+m)=a++s.extract 0 m∧(a++(s++c)).extract (a.size+m) (a++(s++c)).size=s.extract m s.size++c:=by
 have ha:a.data.toList.length=a.size:=li;have hs:s.data.toList.length=s.size:=li;have hc:c.data.toList.length=c.size:=li;constructor
 ·apply aW;rw [aH,aI,aI,aI,aH,Ad,Ad,Ae,Ae,← ha,List.take_length_add_append,List.take_append_of_le_length lg]
 ·apply aW;rw [aH,aI,aI,aI,aH,zk,zk,← ha,List.drop_length_add_append,List.drop_append_of_le_length lg];rw [Af (l:=s.data.toList.drop m) (by rw [Ag];omega),Af];rw [zm,Ag];omega
structure vs (L:List ByteArray) (p:Int) (A:List ByteArray) (s:ByteArray) (C:List ByteArray) (q:Int):Prop where
 all:L=A++([s]++C)
 at':q=p - (ly A).size
 lo:A≠[]→0≤q
 hi:C≠[]→q<s.size
theorem vs.back {C:List ByteArray} {s:ByteArray} {p q:Int} (h:vs L p A s C q) (hL:mr L) :
 mi (ly L).data.toList p=(ly A).size+mi s.data.toList q∧ly L=ly A++(s++ly C):=by
 obtain ⟨rfl,rfl,h1,h2⟩:=h;obtain ⟨t1,t2,-⟩:=(dN _ _).1 hL;obtain ⟨t3,t4,-⟩:=(dN _ _).1 t2;have e:ly (A++([s]++C))=ly A++(s++ly C):=by rw [aJ,aJ,cE]
 have ha:(ly A).data.toList.length=(ly A).size:=li;have hs:s.data.toList.length=s.size:=li;refine ⟨?_,e⟩;rw [e,aI,aI];have:=NE (ly A).data.toList s.data.toList (ly C).data.toList p (eQ t3 s li).2.2 (QH (eQ t4)) (fun hn=>?_) (fun hn=>?_)
 ·rw [this,ha]
 ·rw [ha];have:=h1 fun e=>hn (by rw [e];rfl);omega
 ·rw [ha,hs];exact h2 fun e=>hn (by rw [e];rfl)
theorem vs.parts {C:List ByteArray} {s:ByteArray} {p q:Int} (h:vs L p A s C q) (hL:mr L) :
 mr A∧mr C∧qt s∧mi s.data.toList q≤s.size ∧
 mr (ri (s.extract 0 (mi s.data.toList q)))∧ly (ri (s.extract 0 (mi s.data.toList q)))=s.extract 0 (mi s.data.toList q) ∧
 mr (ri (s.extract (mi s.data.toList q) s.size))∧ly (ri (s.extract (mi s.data.toList q) s.size))=s.extract (mi s.data.toList q) s.size ∧
 (ly L).extract 0 (mi (ly L).data.toList p)=ly A++s.extract 0 (mi s.data.toList q) ∧
 (ly L).extract (mi (ly L).data.toList p) (ly L).size=s.extract (mi s.data.toList q) s.size++ly C:=by
 obtain ⟨b1,b2⟩:=h.back hL;have hL':=hL;rw [h.all] at hL';obtain ⟨t1,t2,-⟩:=(dN _ _).1 hL';obtain ⟨t3,t4,-⟩:=(dN _ _).1 t2;have hf:=eQ t3 s li;have hle:mi s.data.toList q≤s.size:=by have:=iU s.data.toList q;simpa using this
 obtain ⟨v1,v2⟩:=mA s _ hf.2.2 (EL s.data.toList q);have z1:=bK s _ hle;have z2:=dA s (mi s.data.toList q);have hz:=hf.2.1;obtain ⟨l1,l2⟩:=yF (x:=s.extract 0 (mi s.data.toList q)) lg v1;obtain ⟨m1,m2⟩:=yF (x:=s.extract (mi s.data.toList q) s.size) lg v2;obtain ⟨c1,c2⟩:=RF (ly A) s (ly C) _ hle;refine ⟨t1,t4,hf,hle,l1,l2,m1,m2,?_,?_⟩
 ·rw [b1,b2,c1]
 ·rw [b1,b2,c2]
end Go.Proofs.YtbagenpobcgjnaaGreat
