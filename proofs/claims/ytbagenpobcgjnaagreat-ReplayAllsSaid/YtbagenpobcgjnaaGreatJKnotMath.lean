/-
  Joined: KnotMath, WeldMath.
-/
import Derived.Test.YtbagenpobcgjnaaGreatJUtfRTake
import Derived.Test.YtbagenpobcgjnaaGreatJStrs
import Derived.Lib.Join
open ByteArray renaming size_append->yv
open Int renaming natCast_add->zd
open List renaming append_nil->zk,drop_zero->zm,foldl_cons->zh,getLastD_eq_getLast?->ze,intercalate->zj,length_append->yw,length_cons->yx,length_drop->zp,length_pos_iff->yy,take_of_length_le->zo
open Nat renaming eq_zero_or_pos->yz,le_refl->zg,lt_or_ge->zf,sub_zero->zn
variable {A B L:List ByteArray} {n:Nat}
namespace Go.Proofs.YtbagenpobcgjnaaGreat
open Go.RowKit
set_option linter.unusedVariables false
def wc (n:Nat):Nat:=if n=9 then 7 else min n 8
theorem QL (h:0<n):0<wc n:=by unfold wc;split <;> omega
theorem IE (n:Nat):wc n≤n:=by unfold wc;split <;> omega
theorem PS (n:Nat):wc n≤8:=by unfold wc;split <;> omega
theorem AG (h:2≤n):2≤wc n:=by unfold wc;split <;> omega
theorem vJ (h:n≠1):n - wc n≠1:=by unfold wc;split <;> omega
def pr (n:Nat):Nat:=if h:n=0 then 0 else 1+pr (n - wc n)
 termination_by n
 decreasing_by have:=QL (Nat.pos_of_ne_zero h);omega
theorem fG:pr 0=0:=by rw [pr];rfl
theorem gD (h:0<n):pr n=1+pr (n - wc n):=by rw [pr,dif_neg lf]
theorem iT (n:Nat):n≠1→2 * pr n≤n:=by
 induction n using Nat.strongRecOn with
 | _ n ih =>
  intro h;rcases yz n with rfl|h0
  ·rw [fG];exact zg _
  ·rw [gD h0];have h2:=AG (n:=n) lf;have:=IE n;have:=ih (n - wc n) lf (vJ h);omega
theorem nW (h:0<n):0<pr n:=by rw [gD h];omega
def yu (n h:Nat):Nat:=if n≤1 then h else if n≤8 then h+1 else if hq:pr n<n then yu (pr n) (h+1) else 0
 termination_by n
theorem OQ {h:Nat} (hn:n≤1):yu n h=h:=by rw [yu,if_pos hn]
theorem OW {h:Nat} (hn:1<n) (h8:n≤8):yu n h=h+1:=by rw [yu,if_neg lf,if_pos h8]
theorem NM {h:Nat} (hn:8<n):yu n h=yu (pr n) (h+1):=by
 have:=iT n lf
 conv=>lhs;rw [yu]
 rw [if_neg lf,if_neg lf,dif_pos lf]
theorem aG (A B:List ByteArray):lx (A++B)=lx A++lx B:=by
 have h:∀ (B:List ByteArray) (p q:ByteArray),B.foldl (·++·) (p++q)=p++B.foldl (·++·) q:=by
  intro B
  induction B with
  | nil=>intro p q;rfl
  | cons x B ih=>intro p q;rw [zh,zh,fZ,ih]
 unfold lx;rw [List.foldl_append];have:=h B (A.foldl (·++·) ⟨#[]⟩) ⟨#[]⟩;rwa [oL _ ⟨#[]⟩ rfl] at this
theorem bQ (x:ByteArray):lx [x]=x:=AI x
theorem IL:lx []=⟨#[]⟩:=rfl
theorem DP (h:∀ s∈L,qq s):(lx L).size≤16 * L.length:=by
 induction L with
 | nil=>exact Nat.zero_le _
 | cons x L ih =>
  have e:lx (x::L)=x++lx L:=by
   have:=aG [x] L;rwa [bQ] at this
  have h1:=(h x lh).2.1;have h2:=ih fun s hs=>h s (by simp [hs]);rw [e,yv,yx];omega
theorem DZ (L:List ByteArray):Lib.join (L.map (·.data.toList)) []=(lx L).data.toList:=by
 have h:∀ L:List ByteArray,(lx L).data.toList=(L.map (·.data.toList)).flatten:=by
  intro L
  induction L with
  | nil=>rfl
  | cons x L ih =>
   have e:lx (x::L)=x++lx L:=by
    have:=aG [x] L;rwa [bQ] at this
   rw [e,aF,ih,List.map_cons,List.flatten_cons]
 rw [h];have g:∀ M:List (List UInt8),zj [] M=M.flatten:=by
  intro M;unfold zj
  induction M with
  | nil=>rfl
  | cons x M ih =>
   cases M with
   | nil=>simp
   | cons y M=>simp at ih ⊢;exact ih
 unfold Lib.join;exact g _
def tr (s:ByteArray):sq:=⟨s.size,op s.data.toList,oq s.data.toList⟩
theorem jZ (h:n≤1000000):wrap64 (n:Int)=n:=by unfold wrap64;omega
theorem MS (a b:ByteArray) (ha:(a++b).size≤1000000):(tr a).plus (tr b)=tr (a++b):=by
 have h1:=wQ (a++b).data.toList;have h2:=xC (a++b).data.toList;have h3:(a++b).data.toList.length=(a++b).size:=lh;have e1:op (a++b).data.toList=op a.data.toList+op b.data.toList:=by rw [aF,sA]
 have e2:oq (a++b).data.toList=oq a.data.toList+oq b.data.toList:=by rw [aF,sC]
 have e3:(a++b).size=a.size+b.size:=yv;unfold sq.plus tr;simp only [sq.mk.injEq];refine ⟨?_,?_,?_⟩
 ·rw [e3,← zd];exact jZ lf
 ·rw [e1,← zd];exact jZ lf
 ·rw [e2,← zd];exact jZ lf
def p9 (L:List ByteArray):ByteArray:=L.headD ⟨#[]⟩
def pq (L:List ByteArray):ByteArray:=L.getLastD ⟨#[]⟩
theorem NA (h:A≠[]):p9 (A++B)=p9 A:=by
 cases A with
 | nil=>exact absurd rfl h
 | cons x A=>rfl
theorem wK (h:B≠[]):pq (A++B)=pq B:=by
 unfold pq;rw [ze,ze,List.getLast?_append];obtain ⟨x,hx⟩:∃ x,B.getLast? = some x:=by
  cases hB:B.getLast? with
  | none=>exact absurd (List.getLast?_eq_none_iff.1 hB) h
  | some x=>exact ⟨x,rfl⟩
 rw [hx];rfl
theorem wS (h:0<L.length):p9 L=L[0]:=by
 cases L with
 | nil=>exact absurd h (Nat.lt_irrefl 0)
 | cons x L=>rfl
theorem xQ (h:0<L.length):pq L=L[L.length - 1]' lf:=by
 unfold pq;rw [ze,List.getLast?_eq_getElem?,List.getElem?_eq_getElem lf];rfl
theorem eG (x:ByteArray) (L:List ByteArray):lx (x::L)=x++lx L:=by
 have:=aG [x] L;rwa [bQ] at this
theorem aV (x:ByteArray) (L:List ByteArray):ms (x::L)↔qq x∧(L≠[]→16<x.size+(p9 L).size)∧ms L:=by
 constructor
 ·intro h;refine ⟨(h 0 lh).1,fun hn=>?_,fun k hk=>?_⟩
  ·cases L with
   | nil=>exact absurd rfl hn
   | cons y L=>exact (h 1 lh).2 li
  ·refine ⟨(h (k+1) (by simpa using hk)).1,fun h0=>?_⟩;have:=(h (k+1) (by simpa using hk)).2 lf;obtain ⟨j,rfl⟩:∃ j,k=j+1:=⟨k - 1,lf⟩;exact this
 ·rintro ⟨h1,h2,h3⟩;refine jQ h1 (fun h=>?_) h3;cases L with
  | nil=>exact absurd h lh
  | cons y L=>exact h2 lh
theorem dF (A B:List ByteArray):ms (A++B)↔ms A∧ms B∧(A≠[]→B≠[]→16<(pq A).size+(p9 B).size):=by
 induction A with
 | nil=>simp [aR]
 | cons x A ih =>
  rw [List.cons_append,aV,ih,aV];cases A with
  | nil =>
   constructor
   ·rintro ⟨h1,h2,h3,h4,h5⟩;exact ⟨⟨h1,fun h=>absurd rfl h,aR⟩,h4,fun _ hb=>h2 (by simpa using hb)⟩
   ·rintro ⟨⟨h1,h2,h3⟩,h4,h5⟩;exact ⟨h1,fun hb=>h5 lh (by simpa using hb),aR,h4,fun h=>absurd rfl h⟩
  | cons y A =>
   have e1:p9 (y::A++B)=y:=rfl;have e2:p9 (y::A)=y:=rfl;have e3:pq (x::y::A)=pq (y::A):=rfl;rw [e1,e2,e3];constructor
   ·rintro ⟨h1,h2,h3,h4,h5⟩;exact ⟨⟨h1,fun _=>h2 lh,h3⟩,h4,fun _ hb=>h5 lh hb⟩
   ·rintro ⟨⟨h1,h2,h3⟩,h4,h5⟩;exact ⟨h1,fun _=>h2 lh,h3,h4,fun _ hb=>h5 lh hb⟩
theorem JR {x:ByteArray} (h:qq x):ms [x]:=(aV x []).2 ⟨h,fun h=>absurd rfl h,aR⟩
theorem eJ (h:ms L):∀ s∈L,qq s:=fun s hs=>by
 obtain ⟨k,hk,rfl⟩:=List.mem_iff_getElem.1 hs;exact (h k hk).1
theorem pV:∀ L:List ByteArray,ms L→17 * (L.length / 2)≤(lx L).size
 | [],_=>lh
 | [x],_=>lh
 | x::y::L,h=>by
  obtain ⟨h1,h2,h3⟩:=(aV x (y::L)).1 h;obtain ⟨h4,h5,h6⟩:=(aV y L).1 h3;have:=pV L h6;have e:p9 (y::L)=y:=rfl;have g:=h2 lh;rw [e] at g;rw [eG,eG,yv,yv,yx,yx];omega
theorem qV (h:ms L):17 * L.length≤2 * (lx L).size+17:=by have:=pV L h;omega
theorem NU (h:∀ s∈L,qq s):rp (lx L).data.toList:=by
 induction L with
 | nil=>exact gJ
 | cons x L ih =>
  rw [eG,aF];exact eV _ _ (h x lh).2.2 (ih fun s hs=>h s (by simp [hs]))
theorem MP (h:∀ s∈L,qq s):L.length≤(lx L).size:=by
 induction L with
 | nil=>simp
 | cons x L ih =>
  have:=(h x lh).1;have:=ih fun s hs=>h s (by simp [hs]);rw [eG,yv,yx];omega
theorem gZ (a b:ByteArray):(rg a b).length=1↔(qq a∧qq b∧a.size+b.size≤16):=by
 unfold rg;by_cases hf:oe a=true∧oe b=true
 ·rw [if_pos hf];have g:=hf;rw [aQ,aQ] at g;by_cases hz:(a++b).size≤16
  ·rw [if_pos hz];rw [yv] at hz;simp [g,hz]
  ·rw [if_neg hz];rw [yv] at hz;split <;> simp <;> intro _ _ <;> omega
 ·rw [if_neg hf];rw [aQ,aQ] at hf;simp;intro h1 h2;exact absurd ⟨h1,h2⟩ hf
theorem yZ {a b:ByteArray} (h:(rg a b).length=1):rg a b=[a++b]:=by
 obtain ⟨h1,h2,h3⟩:=(gZ a b).1 h;unfold rg;rw [if_pos ⟨(aQ a).2 h1,(aQ b).2 h2⟩,if_pos (by rw [yv];exact h3)]
theorem xM {a b:ByteArray} (h1:qq a) (h2:qq b) (h3:a.size+b.size≤16):qq (a++b):=
 ⟨by rw [yv];have:=h1.1;omega,by rw [yv];exact h3,by rw [aF];exact eV _ _ h1.2.2 h2.2.2⟩
theorem IB (A:List ByteArray) (x:ByteArray):pq (A++[x])=x:=wK lh
theorem NV {x y:ByteArray} (hA:ms (A++[x])) (hB:ms (y::B)) (hz:x.size+y.size≤16) :
 ms (A++([x++y]++B))∧lx (A++([x++y]++B))=lx (A++[x])++lx (y::B):=by
 obtain ⟨a1,a2,a3⟩:=(dF A [x]).1 hA;obtain ⟨b1,b2,b3⟩:=(aV y B).1 hB;have hx:=((aV x []).1 a2).1;have hs:(x++y).size=x.size+y.size:=yv;refine ⟨(dF _ _).2 ⟨a1,(aV _ _).2 ⟨xM hx b1 hz,fun h=>?_,b3⟩,fun h1 h2=>?_⟩,?_⟩
 ·have:=b2 h;show 16<(x++y).size+(p9 B).size;omega
 ·have:16<(pq A).size+x.size:=a3 h1 lh;show 16<(pq A).size+(x++y).size;omega
 ·rw [aG,aG,aG,bQ,bQ,eG,fZ,fZ]
theorem KV (hA:ms A) (hB:ms B) (h:(rg (pq A) (p9 B)).length≠1):ms (A++B):=by
 refine (dF _ _).2 ⟨hA,hB,fun h1 h2=>?_⟩;rcases zf 16 ((pq A).size+(p9 B).size) with g|g
 ·exact g
 ·have p1:0<A.length:=yy.2 h1;have p2:0<B.length:=yy.2 h2;refine absurd ((gZ _ _).2 ⟨?_,?_,g⟩) h
  ·rw [xQ p1];exact (hA _ _).1
  ·rw [wS p2];exact (hB _ _).1
def ri (x:ByteArray):List ByteArray:=if oe x=true then [x] else []
theorem uR {x:ByteArray} (hz:x.size≤16) (hv:rp x.data.toList):ms (ri x)∧lx (ri x)=x:=by
 unfold ri;by_cases h:oe x=true
 ·rw [if_pos h];exact ⟨JR ((aQ x).1 h),bQ x⟩
 ·rw [if_neg h];have:x.size=0:=by
   rcases yz x.size with g|g
   ·exact g
   ·exact absurd ((aQ x).2 ⟨g,hz,hv⟩) h
  refine ⟨aR,?_⟩;rw [IL];apply aU;exact (List.eq_nil_of_length_eq_zero (l:=x.data.toList) (by simpa using this)).symm
theorem rI {a s:List UInt8} (hs:rp s) (hn:s≠[]):¬ (128≤bt (a++s) a.length∧bt (a++s) a.length≤191):=by
 rcases eF s hs with h|h
 ·exact absurd h hn
 ·rw [dA _ _ _ (zg _),Nat.sub_self];exact h
theorem vH (a s c:List UInt8) (hs:rp s) (hc:rp c) (k:Nat) (hk:k≤s.length):o9 (a++(s++c)) (a.length+k)↔o9 s k:=by
 have hsc:rp (s++c):=eV s c hs hc;have hl:(a++(s++c)).length=a.length+(s.length+c.length):=by rw [yw,yw]
 rcases yz k with rfl|h0
 ·refine iff_of_true ?_ (bN s);by_cases h:s++c=[]
  ·rw [h,zk];exact jP a
  ·have:=yy.2 h;rw [yw] at this;exact .inr (.inr ⟨lf,rI hsc h⟩)
 ·rcases zf k s.length with h1|h1
  ·have e:bt (a++(s++c)) (a.length+k)=bt s k:=by
    rw [dA _ _ _ lf,show a.length+k - a.length=k by omega,bC _ _ _ h1]
   unfold o9;rw [e,hl];constructor
   ·rintro (h|h|h)
    ·omega
    ·omega
    ·exact .inr (.inr ⟨h1,h.2⟩)
   ·rintro (h|h|h)
    ·omega
    ·omega
    ·exact .inr (.inr ⟨lf,h.2⟩)
  ·obtain rfl:k=s.length:=lf;refine iff_of_true ?_ (jP s);by_cases h:c=[]
   ·subst h;rw [zk];refine .inr (.inl ?_);rw [yw]
   ·have:=yy.2 h;have g:=rI (a:=a++s) hc h;rw [List.append_assoc,yw] at g;exact .inr (.inr ⟨lf,g⟩)
theorem LH (a s c:List UInt8) (p:Int) (hs:rp s) (hc:rp c) (h1:a≠[]→(a.length:Int)≤p) (h2:c≠[]→p - a.length<s.length) :
 mi (a++(s++c)) p=a.length+mi s (p - a.length):=by
 have hl:(a++(s++c)).length=a.length+(s.length+c.length):=by rw [yw,yw]
 have ha:a=[]∨(a.length:Int)≤p:=by
  by_cases h:a=[]
  ·exact .inl h
  ·exact .inr (h1 h)
 have hc':c.length=0∨p - a.length<s.length:=by
  by_cases h:c=[]
  ·subst h;exact .inl rfl
  ·exact .inr (h2 h)
 by_cases h0:p<0
 ·rcases ha with rfl|h
  ·unfold mi;simp [h0]
  ·omega
 ·have hp:(0:Int)≤p - a.length:=by
   rcases ha with rfl|h
   ·simp;omega
   ·omega
  by_cases h3:((a++(s++c)).length:Int)<p
  ·have:(s.length:Int)<p - a.length:=by rw [hl] at h3;omega
   have h4:¬ p - (a.length:Int)<0:=lf;unfold mi;rw [if_neg h0,if_pos h3,if_neg h4,if_pos this,hl];omega
  ·have h4:¬ p - (a.length:Int)<0:=lf;have h5:¬ (s.length:Int)<p - a.length:=by rw [hl] at h3;omega
   unfold mi;rw [if_neg h0,if_neg h3,if_neg h4,if_neg h5];obtain ⟨k,hk⟩:∃ k,(p - a.length).toNat=k:=⟨_,rfl⟩;have aa:p.toNat=a.length+k:=lf;have hks:k≤s.length:=lf;rw [hk,aa];apply Nat.le_antisymm
   ·have g1:=iY (a++(s++c)) (a.length+k);have g2:=jE (a++(s++c)) (a.length+k);rcases zf (qt (a++(s++c)) (a.length+k)) a.length with g|g
    ·omega
    ·obtain ⟨m,hm⟩:∃ m,qt (a++(s++c)) (a.length+k)=a.length+m:=⟨_,(Nat.add_sub_cancel' g).symm⟩;rw [hm] at g1 g2 ⊢;have:=qS s m k ((vH a s c hs hc m lf).1 g1) lf;omega
   ·have g2:=jE s k;exact qS _ _ _ ((vH a s c hs hc _ lf).2 (iY s k)) lf
theorem hO (l:List UInt8) (p:Int):mi l p≤l.length:=by
 unfold mi;split
 ·omega
 ·split
  ·omega
  ·have:=jE l p.toNat;omega
theorem EC (l:List UInt8) (p:Int):o9 l (mi l p):=by
 unfold mi;split
 ·exact bN l
 ·split
  ·exact jP l
  ·exact iY _ _
theorem PL (a s c:ByteArray) (m:Nat) (hm:m≤s.size) :
 (a++(s++c)).extract 0 (a.size+m)=a++s.extract 0 m∧(a++(s++c)).extract (a.size+m) (a++(s++c)).size=s.extract m s.size++c:=by
 have ha:a.data.toList.length=a.size:=lh;have hs:s.data.toList.length=s.size:=lh;have hc:c.data.toList.length=c.size:=lh;constructor
 ·apply aU;rw [aE,aF,aF,aF,aE,zm,zm,zn,zn,← ha,List.take_length_add_append,List.take_append_of_le_length lf]
 ·apply aU;rw [aE,aF,aF,aF,aE,yv,yv,← ha,List.drop_length_add_append,List.drop_append_of_le_length lf];rw [zo (l:=s.data.toList.drop m) (by rw [zp];omega),zo];rw [yw,zp];omega
structure vi (L:List ByteArray) (p:Int) (A:List ByteArray) (s:ByteArray) (C:List ByteArray) (q:Int):Prop where
 all:L=A++([s]++C)
 at':q=p - (lx A).size
 lo:A≠[]→0≤q
 hi:C≠[]→q<s.size
theorem vi.back {C:List ByteArray} {s:ByteArray} {p q:Int} (h:vi L p A s C q) (hL:ms L) :
 mi (lx L).data.toList p=(lx A).size+mi s.data.toList q∧lx L=lx A++(s++lx C):=by
 obtain ⟨rfl,rfl,h1,h2⟩:=h;obtain ⟨t1,t2,-⟩:=(dF _ _).1 hL;obtain ⟨t3,t4,-⟩:=(dF _ _).1 t2;have e:lx (A++([s]++C))=lx A++(s++lx C):=by rw [aG,aG,bQ]
 have ha:(lx A).data.toList.length=(lx A).size:=lh;have hs:s.data.toList.length=s.size:=lh;refine ⟨?_,e⟩;rw [e,aF,aF];have:=LH (lx A).data.toList s.data.toList (lx C).data.toList p (eJ t3 s lh).2.2 (NU (eJ t4)) (fun hn=>?_) (fun hn=>?_)
 ·rw [this,ha]
 ·rw [ha];have:=h1 fun e=>hn (by rw [e];rfl);omega
 ·rw [ha,hs];exact h2 fun e=>hn (by rw [e];rfl)
theorem vi.parts {C:List ByteArray} {s:ByteArray} {p q:Int} (h:vi L p A s C q) (hL:ms L) :
 ms A∧ms C∧qq s∧mi s.data.toList q≤s.size ∧
 ms (ri (s.extract 0 (mi s.data.toList q)))∧lx (ri (s.extract 0 (mi s.data.toList q)))=s.extract 0 (mi s.data.toList q) ∧
 ms (ri (s.extract (mi s.data.toList q) s.size))∧lx (ri (s.extract (mi s.data.toList q) s.size))=s.extract (mi s.data.toList q) s.size ∧
 (lx L).extract 0 (mi (lx L).data.toList p)=lx A++s.extract 0 (mi s.data.toList q) ∧
 (lx L).extract (mi (lx L).data.toList p) (lx L).size=s.extract (mi s.data.toList q) s.size++lx C:=by
 obtain ⟨b1,b2⟩:=h.back hL;have hL':=hL;rw [h.all] at hL';obtain ⟨t1,t2,-⟩:=(dF _ _).1 hL';obtain ⟨t3,t4,-⟩:=(dF _ _).1 t2;have hf:=eJ t3 s lh;have hle:mi s.data.toList q≤s.size:=by have:=hO s.data.toList q;simpa using this
 obtain ⟨v1,v2⟩:=mM s _ hf.2.2 (EC s.data.toList q);have z1:=bF s _ hle;have z2:=cL s (mi s.data.toList q);have hz:=hf.2.1;obtain ⟨l1,l2⟩:=uR (x:=s.extract 0 (mi s.data.toList q)) lf v1;obtain ⟨m1,m2⟩:=uR (x:=s.extract (mi s.data.toList q) s.size) lf v2;obtain ⟨c1,c2⟩:=PL (lx A) s (lx C) _ hle;refine ⟨t1,t4,hf,hle,l1,l2,m1,m2,?_,?_⟩
 ·rw [b1,b2,c1]
 ·rw [b1,b2,c2]
end Go.Proofs.YtbagenpobcgjnaaGreat
