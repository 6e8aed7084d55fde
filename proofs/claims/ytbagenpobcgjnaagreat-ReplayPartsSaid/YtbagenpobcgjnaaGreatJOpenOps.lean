/-
  Joined: OpenOps, Row, OpenOpc, KnotMath, WeldMath.
-/
import Derived.Test.YtbagenpobcgjnaaGreatJStrs
import Derived.RegionTactic
import Derived.BigRegion
import Derived.Test.YtbagenpobcgjnaaGreatJUtfRTake
import Derived.Lib.Join
import Derived.Test.YtbagenpobcgjnaaGreatJUtfLeaf
variable {A B L:List ByteArray} {n:Nat}
namespace Go.Proofs.YtbagenpobcgjnaaGreat
open Go.RowKit Go.ChangeShapes Go.WideShapes Go.Deep
set_option linter.unusedVariables false
section
variable {H : Type} {enc : TypeId × Value → H} {w : World} {base : Nat} {spare : Nat → Bool} {held : Bool}
end
end Go.Proofs.YtbagenpobcgjnaaGreat
namespace Go.Proofs.YtbagenpobcgjnaaGreat
open Go.RowKit
end Go.Proofs.YtbagenpobcgjnaaGreat
namespace Go.Proofs.YtbagenpobcgjnaaGreat
open Go.Proofs.Tryz
set_option maxRecDepth 100000
open Go.RowKit Go.ChangeShapes Go.WideShapes Go.Deep
set_option linter.unusedVariables false
section
variable {H : Type} {enc : TypeId × Value → H} {w : World} {base : Nat} {spare : Nat → Bool} {held : Bool}
theorem open_oprc {r:Reach} {b0:Nat} {v:Value} {d:DataW H} {p:List MemPlace} (hv:Value.okWide prog w r b0 27 v) (h:DataW.Trod enc prog w base spare held 27 v d p) (_:∀ x∈p,x.block<w.heap.size) :
 ∃ (a:Option Addr) (l:List Opr) (c:Nat),v=.slice a l.length c∧Oprs w (·<w.heap.size) a l∧(∀ x∈l,x.fits)∧l.length≤c∧c≤maxLen∧(a=none→c=0):=by
 rcases open_row underlying27 hv h with rfl|⟨a,len,cap,rfl,hlc,hcm,hx⟩
 ·exact ⟨none,[],0,rfl,fun k hk=>absurd hk (by simp),fun x hx=>absurd hx (by simp),Nat.le_refl _,Nat.zero_le _,fun _=>rfl⟩
 ·haveI:Inhabited Opr:=⟨⟨0,0,0,ByteArray.empty⟩⟩
  obtain ⟨V,hV⟩:=choose_lt (α:=Opr) (p:=fun i x=>x.fits∧w.cells? base (a.add (i * prog.cellsOf 50)) (prog.cellsOf 50)=some [.int .i64 x.k,.int .i64 x.a,.int .i64 x.n,.string x.s]) (fun i hi=>by
   obtain ⟨cs,n,x,h1,h2⟩:=hx i hi
   obtain ⟨c,hf,rfl⟩:=IT h2
   exact ⟨c,hf,h1⟩)
  have hlen:((List.range len).map V).length=len:=by simp
  refine ⟨some a,(List.range len).map V,cap,by rw [hlen],fun k hk=>?_,fun x hx=>?_,by rw [hlen];exact hlc,hcm,fun e=>by cases e⟩
  ·have hk':k<len:=by rw [hlen] at hk;exact hk
   have h1:=(hV k hk').2
   rw [rD] at h1
   obtain ⟨_,hc⟩:=FB h1
   have hbl:(a.add (k * 4)).block=a.block:=by unfold Addr.add;split <;> rfl
   have q0:=hc 0 (by simp)
   have q1:=hc 1 (by simp)
   have q2:=hc 2 (by simp)
   have q3:=hc 3 (by simp)
   refine ⟨a,rfl,?_,?_,?_,?_,?_⟩
   ·have:=World.block_lt_of_cell? w _ q0
    rwa [show ((a.add (k * 4)).add 0).block=(a.add (k * 4)).block by unfold Addr.add;simp,hbl] at this
   ·simpa [Addr.add] using q0
   ·simpa [Addr.add] using q1
   ·simpa [Addr.add] using q2
   ·simpa [Addr.add] using q3
  ·obtain ⟨i,hi,rfl⟩:=List.mem_map.1 hx
   exact (hV i (List.mem_range.1 hi)).1
end
end Go.Proofs.YtbagenpobcgjnaaGreat
namespace Go.Proofs.YtbagenpobcgjnaaGreat
open Go.RowKit
set_option linter.unusedVariables false
def gsz (n:Nat):Nat:=if n=9 then 7 else min n 8
theorem NN (h:0<n):0<gsz n:=by unfold gsz;split <;> omega
theorem EX (n:Nat):gsz n≤n:=by unfold gsz;split <;> omega
theorem MQ (n:Nat):gsz n≤8:=by unfold gsz;split <;> omega
theorem xE (h:2≤n):2≤gsz n:=by unfold gsz;split <;> omega
theorem tB (h:n≠1):n - gsz n≠1:=by unfold gsz;split <;> omega
def gcount (n:Nat):Nat:=if h:n=0 then 0 else 1+gcount (n - gsz n)
 termination_by n
 decreasing_by have:=NN (Nat.pos_of_ne_zero h);omega
theorem eJ:gcount 0=0:=by rw [gcount];rfl
theorem eZ (h:0<n):gcount n=1+gcount (n - gsz n):=by rw [gcount,dif_neg (by omega)]
theorem gW (n:Nat):n≠1→2 * gcount n≤n:=by
 induction n using Nat.strongRecOn with
 | _ n ih =>
  intro h
  rcases Nat.eq_zero_or_pos n with rfl|h0
  ·rw [eJ];exact Nat.le_refl _
  ·rw [eZ h0]
   have h2:=xE (n:=n) (by omega)
   have:=EX n
   have:=ih (n - gsz n) (by omega) (tB h)
   omega
theorem mF (h:0<n):0<gcount n:=by rw [eZ h];omega
def upH (n h:Nat):Nat:=if n≤1 then h else if n≤8 then h+1 else if hq:gcount n<n then upH (gcount n) (h+1) else 0
 termination_by n
theorem NE {h:Nat} (hn:n≤1):upH n h=h:=by rw [upH,if_pos hn]
theorem MX {h:Nat} (hn:1<n) (h8:n≤8):upH n h=h+1:=by rw [upH,if_neg (by omega),if_pos h8]
theorem LR {h:Nat} (hn:8<n):upH n h=upH (gcount n) (h+1):=by
 have:=gW n (by omega)
 conv=>lhs;rw [upH]
 rw [if_neg (by omega),if_neg (by omega),dif_pos (by omega)]
theorem aE (A B:List ByteArray):wholeL (A++B)=wholeL A++wholeL B:=by
 have h:∀ (B:List ByteArray) (p q:ByteArray),B.foldl (·++·) (p++q)=p++B.foldl (·++·) q:=by
  intro B
  induction B with
  | nil=>intro p q;rfl
  | cons x B ih=>intro p q;rw [List.foldl_cons,List.foldl_cons,fC,ih]
 unfold wholeL
 rw [List.foldl_append]
 have:=h B (A.foldl (·++·) ⟨#[]⟩) ⟨#[]⟩
 rwa [nD _ ⟨#[]⟩ rfl] at this
theorem bO (x:ByteArray):wholeL [x]=x:=xO x
theorem DL:wholeL []=⟨#[]⟩:=rfl
theorem yQ (h:∀ s∈L,fitsP s):(wholeL L).size≤16 * L.length:=by
 induction L with
 | nil=>exact Nat.zero_le _
 | cons x L ih =>
  have e:wholeL (x::L)=x++wholeL L:=by
   have:=aE [x] L
   rwa [bO] at this
  have h1:=(h x (by simp)).2.1
  have h2:=ih fun s hs=>h s (by simp [hs])
  rw [e,ByteArray.size_append,List.length_cons]
  omega
theorem yB (L:List ByteArray):Lib.join (L.map (·.data.toList)) []=(wholeL L).data.toList:=by
 have h:∀ L:List ByteArray,(wholeL L).data.toList=(L.map (·.data.toList)).flatten:=by
  intro L
  induction L with
  | nil=>rfl
  | cons x L ih =>
   have e:wholeL (x::L)=x++wholeL L:=by
    have:=aE [x] L
    rwa [bO] at this
   rw [e,aB,ih,List.map_cons,List.flatten_cons]
 rw [h]
 have g:∀ M:List (List UInt8),List.intercalate [] M=M.flatten:=by
  intro M
  unfold List.intercalate
  induction M with
  | nil=>rfl
  | cons x M ih =>
   cases M with
   | nil=>simp
   | cons y M=>simp at ih ⊢;exact ih
 unfold Lib.join
 exact g _
def cntK (s:ByteArray):Cnt:=⟨s.size,runes s.data.toList,lines s.data.toList⟩
theorem iI (h:n≤1000000):wrap64 (n:Int)=n:=by unfold wrap64;omega
theorem KU (a b:ByteArray) (ha:(a++b).size≤1000000):(cntK a).plus (cntK b)=cntK (a++b):=by
 have h1:=vD (a++b).data.toList
 have h2:=tL (a++b).data.toList
 have h3:(a++b).data.toList.length=(a++b).size:=by simp
 have e1:runes (a++b).data.toList=runes a.data.toList+runes b.data.toList:=by rw [aB,pQ]
 have e2:lines (a++b).data.toList=lines a.data.toList+lines b.data.toList:=by rw [aB,qU]
 have e3:(a++b).size=a.size+b.size:=ByteArray.size_append
 unfold Cnt.plus cntK
 simp only [Cnt.mk.injEq]
 refine ⟨?_,?_,?_⟩
 ·rw [e3,← Int.natCast_add];exact iI (by omega)
 ·rw [e1,← Int.natCast_add];exact iI (by omega)
 ·rw [e2,← Int.natCast_add];exact iI (by omega)
def fstL (L:List ByteArray):ByteArray:=L.headD ⟨#[]⟩
def lstL (L:List ByteArray):ByteArray:=L.getLastD ⟨#[]⟩
theorem JW (h:A≠[]):fstL (A++B)=fstL A:=by
 cases A with
 | nil=>exact absurd rfl h
 | cons x A=>rfl
theorem uU (h:B≠[]):lstL (A++B)=lstL B:=by
 unfold lstL
 rw [List.getLastD_eq_getLast?,List.getLastD_eq_getLast?,List.getLast?_append]
 obtain ⟨x,hx⟩:∃ x,B.getLast? = some x:=by
  cases hB:B.getLast? with
  | none=>exact absurd (List.getLast?_eq_none_iff.1 hB) h
  | some x=>exact ⟨x,rfl⟩
 rw [hx]
 rfl
theorem sJ (h:0<L.length):fstL L=L[0]:=by
 cases L with
 | nil=>exact absurd h (Nat.lt_irrefl 0)
 | cons x L=>rfl
theorem tJ (h:0<L.length):lstL L=L[L.length - 1]'(by omega):=by
 unfold lstL
 rw [List.getLastD_eq_getLast?,List.getLast?_eq_getElem?,List.getElem?_eq_getElem (by omega)]
 rfl
theorem dS (x:ByteArray) (L:List ByteArray):wholeL (x::L)=x++wholeL L:=by
 have:=aE [x] L
 rwa [bO] at this
theorem aR (x:ByteArray) (L:List ByteArray):TightP (x::L)↔fitsP x∧(L≠[]→16<x.size+(fstL L).size)∧TightP L:=by
 constructor
 ·intro h
  refine ⟨(h 0 (by simp)).1,fun hn=>?_,fun k hk=>?_⟩
  ·cases L with
   | nil=>exact absurd rfl hn
   | cons y L=>exact (h 1 (by simp)).2 (by decide)
  ·refine ⟨(h (k+1) (by simpa using hk)).1,fun h0=>?_⟩
   have:=(h (k+1) (by simpa using hk)).2 (by omega)
   obtain ⟨j,rfl⟩:∃ j,k=j+1:=⟨k - 1,by omega⟩
   exact this
 ·rintro ⟨h1,h2,h3⟩
  refine iM h1 (fun h=>?_) h3
  cases L with
  | nil=>exact absurd h (by simp)
  | cons y L=>exact h2 (by simp)
theorem cW (A B:List ByteArray):TightP (A++B)↔TightP A∧TightP B∧(A≠[]→B≠[]→16<(lstL A).size+(fstL B).size):=by
 induction A with
 | nil=>simp [aQ]
 | cons x A ih =>
  rw [List.cons_append,aR,ih,aR]
  cases A with
  | nil =>
   constructor
   ·rintro ⟨h1,h2,h3,h4,h5⟩
    exact ⟨⟨h1,fun h=>absurd rfl h,aQ⟩,h4,fun _ hb=>h2 (by simpa using hb)⟩
   ·rintro ⟨⟨h1,h2,h3⟩,h4,h5⟩
    exact ⟨h1,fun hb=>h5 (by simp) (by simpa using hb),aQ,h4,fun h=>absurd rfl h⟩
  | cons y A =>
   have e1:fstL (y::A++B)=y:=rfl
   have e2:fstL (y::A)=y:=rfl
   have e3:lstL (x::y::A)=lstL (y::A):=rfl
   rw [e1,e2,e3]
   constructor
   ·rintro ⟨h1,h2,h3,h4,h5⟩
    exact ⟨⟨h1,fun _=>h2 (by simp),h3⟩,h4,fun _ hb=>h5 (by simp) hb⟩
   ·rintro ⟨⟨h1,h2,h3⟩,h4,h5⟩
    exact ⟨h1,fun _=>h2 (by simp),h3,h4,fun _ hb=>h5 (by simp) hb⟩
theorem GC {x:ByteArray} (h:fitsP x):TightP [x]:=(aR x []).2 ⟨h,fun h=>absurd rfl h,aQ⟩
theorem dU (h:TightP L):∀ s∈L,fitsP s:=fun s hs=>by
 obtain ⟨k,hk,rfl⟩:=List.mem_iff_getElem.1 hs
 exact (h k hk).1
theorem oL:∀ L:List ByteArray,TightP L→17 * (L.length / 2)≤(wholeL L).size
 | [],_=>by simp
 | [x],_=>by simp
 | x::y::L,h=>by
  obtain ⟨h1,h2,h3⟩:=(aR x (y::L)).1 h
  obtain ⟨h4,h5,h6⟩:=(aR y L).1 h3
  have:=oL L h6
  have e:fstL (y::L)=y:=rfl
  have g:=h2 (by simp)
  rw [e] at g
  rw [dS,dS,ByteArray.size_append,ByteArray.size_append,List.length_cons,List.length_cons]
  omega
theorem qA (h:TightP L):17 * L.length≤2 * (wholeL L).size+17:=by have:=oL L h;omega
theorem JL (h:∀ s∈L,fitsP s):vld (wholeL L).data.toList:=by
 induction L with
 | nil=>exact fQ
 | cons x L ih =>
  rw [dS,aB]
  exact dW _ _ (h x (by simp)).2.2 (ih fun s hs=>h s (by simp [hs]))
theorem KM (h:∀ s∈L,fitsP s):L.length≤(wholeL L).size:=by
 induction L with
 | nil=>simp
 | cons x L ih =>
  have:=(h x (by simp)).1
  have:=ih fun s hs=>h s (by simp [hs])
  rw [dS,ByteArray.size_append,List.length_cons]
  omega
theorem gA (a b:ByteArray):(joinL a b).length=1↔(fitsP a∧fitsP b∧a.size+b.size≤16):=by
 unfold joinL
 by_cases hf:fitsB a=true∧fitsB b=true
 ·rw [if_pos hf]
  have g:=hf
  rw [aU,aU] at g
  by_cases hz:(a++b).size≤16
  ·rw [if_pos hz]
   rw [ByteArray.size_append] at hz
   simp [g,hz]
  ·rw [if_neg hz]
   rw [ByteArray.size_append] at hz
   split <;> simp <;> intro _ _ <;> omega
 ·rw [if_neg hf]
  rw [aU,aU] at hf
  simp
  intro h1 h2
  exact absurd ⟨h1,h2⟩ hf
theorem vK {a b:ByteArray} (h:(joinL a b).length=1):joinL a b=[a++b]:=by
 obtain ⟨h1,h2,h3⟩:=(gA a b).1 h
 unfold joinL
 rw [if_pos ⟨(aU a).2 h1,(aU b).2 h2⟩,if_pos (by rw [ByteArray.size_append];exact h3)]
theorem sP {a b:ByteArray} (h1:fitsP a) (h2:fitsP b) (h3:a.size+b.size≤16):fitsP (a++b):=
 ⟨by rw [ByteArray.size_append];have:=h1.1;omega,by rw [ByteArray.size_append];exact h3,by rw [aB];exact dW _ _ h1.2.2 h2.2.2⟩
theorem BM (A:List ByteArray) (x:ByteArray):lstL (A++[x])=x:=uU (by simp)
theorem LD {x y:ByteArray} (hA:TightP (A++[x])) (hB:TightP (y::B)) (hz:x.size+y.size≤16) :
 TightP (A++([x++y]++B))∧wholeL (A++([x++y]++B))=wholeL (A++[x])++wholeL (y::B):=by
 obtain ⟨a1,a2,a3⟩:=(cW A [x]).1 hA
 obtain ⟨b1,b2,b3⟩:=(aR y B).1 hB
 have hx:=((aR x []).1 a2).1
 have hs:(x++y).size=x.size+y.size:=ByteArray.size_append
 refine ⟨(cW _ _).2 ⟨a1,(aR _ _).2 ⟨sP hx b1 hz,fun h=>?_,b3⟩,fun h1 h2=>?_⟩,?_⟩
 ·have:=b2 h
  show 16<(x++y).size+(fstL B).size
  omega
 ·have:16<(lstL A).size+x.size:=a3 h1 (by simp)
  show 16<(lstL A).size+(x++y).size
  omega
 ·rw [aE,aE,aE,bO,bO,dS,fC,fC]
theorem IA (hA:TightP A) (hB:TightP B) (h:(joinL (lstL A) (fstL B)).length≠1):TightP (A++B):=by
 refine (cW _ _).2 ⟨hA,hB,fun h1 h2=>?_⟩
 rcases Nat.lt_or_ge 16 ((lstL A).size+(fstL B).size) with g|g
 ·exact g
 ·have p1:0<A.length:=List.length_pos_iff.2 h1
  have p2:0<B.length:=List.length_pos_iff.2 h2
  refine absurd ((gA _ _).2 ⟨?_,?_,g⟩) h
  ·rw [tJ p1];exact (hA _ _).1
  ·rw [sJ p2];exact (hB _ _).1
def leafL (x:ByteArray):List ByteArray:=if fitsB x=true then [x] else []
theorem sW {x:ByteArray} (hz:x.size≤16) (hv:vld x.data.toList):TightP (leafL x)∧wholeL (leafL x)=x:=by
 unfold leafL
 by_cases h:fitsB x=true
 ·rw [if_pos h]
  exact ⟨GC ((aU x).1 h),bO x⟩
 ·rw [if_neg h]
  have:x.size=0:=by
   rcases Nat.eq_zero_or_pos x.size with g|g
   ·exact g
   ·exact absurd ((aU x).2 ⟨g,hz,hv⟩) h
  refine ⟨aQ,?_⟩
  rw [DL]
  apply aI
  exact (List.eq_nil_of_length_eq_zero (l:=x.data.toList) (by simpa using this)).symm
theorem qS {a s:List UInt8} (hs:vld s) (hn:s≠[]):¬ (128≤bt (a++s) a.length∧bt (a++s) a.length≤191):=by
 rcases dQ s hs with h|h
 ·exact absurd h hn
 ·rw [bJ _ _ _ (Nat.le_refl _),Nat.sub_self];exact h
theorem tV (a s c:List UInt8) (hs:vld s) (hc:vld c) (k:Nat) (hk:k≤s.length):edge (a++(s++c)) (a.length+k)↔edge s k:=by
 have hsc:vld (s++c):=dW s c hs hc
 have hl:(a++(s++c)).length=a.length+(s.length+c.length):=by rw [List.length_append,List.length_append]
 rcases Nat.eq_zero_or_pos k with rfl|h0
 ·refine iff_of_true ?_ (bN s)
  by_cases h:s++c=[]
  ·rw [h,List.append_nil];exact iU a
  ·have:=List.length_pos_iff.2 h
   rw [List.length_append] at this
   exact .inr (.inr ⟨by omega,qS hsc h⟩)
 ·rcases Nat.lt_or_ge k s.length with h1|h1
  ·have e:bt (a++(s++c)) (a.length+k)=bt s k:=by
    rw [bJ _ _ _ (by omega),show a.length+k - a.length=k by omega,aV _ _ _ h1]
   unfold edge
   rw [e,hl]
   constructor
   ·rintro (h|h|h)
    ·omega
    ·omega
    ·exact .inr (.inr ⟨h1,h.2⟩)
   ·rintro (h|h|h)
    ·omega
    ·omega
    ·exact .inr (.inr ⟨by omega,h.2⟩)
  ·obtain rfl:k=s.length:=by omega
   refine iff_of_true ?_ (iU s)
   by_cases h:c=[]
   ·subst h
    rw [List.append_nil]
    refine .inr (.inl ?_)
    rw [List.length_append]
   ·have:=List.length_pos_iff.2 h
    have g:=qS (a:=a++s) hc h
    rw [List.append_assoc,List.length_append] at g
    exact .inr (.inr ⟨by omega,g⟩)
theorem JH (a s c:List UInt8) (p:Int) (hs:vld s) (hc:vld c) (h1:a≠[]→(a.length:Int)≤p) (h2:c≠[]→p - a.length<s.length) :
 backI (a++(s++c)) p=a.length+backI s (p - a.length):=by
 have hl:(a++(s++c)).length=a.length+(s.length+c.length):=by rw [List.length_append,List.length_append]
 have ha:a=[]∨(a.length:Int)≤p:=by
  by_cases h:a=[]
  ·exact .inl h
  ·exact .inr (h1 h)
 have hc':c.length=0∨p - a.length<s.length:=by
  by_cases h:c=[]
  ·subst h;exact .inl rfl
  ·exact .inr (h2 h)
 by_cases h0:p<0
 ·rcases ha with rfl|h
  ·unfold backI;simp [h0]
  ·omega
 ·have hp:(0:Int)≤p - a.length:=by
   rcases ha with rfl|h
   ·simp;omega
   ·omega
  by_cases h3:((a++(s++c)).length:Int)<p
  ·have:(s.length:Int)<p - a.length:=by rw [hl] at h3;omega
   have h4:¬ p - (a.length:Int)<0:=by omega
   unfold backI
   rw [if_neg h0,if_pos h3,if_neg h4,if_pos this,hl]
   omega
  ·have h4:¬ p - (a.length:Int)<0:=by omega
   have h5:¬ (s.length:Int)<p - a.length:=by rw [hl] at h3;omega
   unfold backI
   rw [if_neg h0,if_neg h3,if_neg h4,if_neg h5]
   obtain ⟨k,hk⟩:∃ k,(p - a.length).toNat=k:=⟨_,rfl⟩
   have aa:p.toNat=a.length+k:=by omega
   have hks:k≤s.length:=by omega
   rw [hk,aa]
   apply Nat.le_antisymm
   ·have g1:=gY (a++(s++c)) (a.length+k)
    have g2:=iA (a++(s++c)) (a.length+k)
    rcases Nat.lt_or_ge (back (a++(s++c)) (a.length+k)) a.length with g|g
    ·omega
    ·obtain ⟨m,hm⟩:∃ m,back (a++(s++c)) (a.length+k)=a.length+m:=⟨_,(Nat.add_sub_cancel' g).symm⟩
     rw [hm] at g1 g2 ⊢
     have:=oZ s m k ((tV a s c hs hc m (by omega)).1 g1) (by omega)
     omega
   ·have g2:=iA s k
    exact oZ _ _ _ ((tV a s c hs hc _ (by omega)).2 (gY s k)) (by omega)
theorem fV (l:List UInt8) (p:Int):backI l p≤l.length:=by
 unfold backI
 split
 ·omega
 ·split
  ·omega
  ·have:=iA l p.toNat;omega
theorem yH (l:List UInt8) (p:Int):edge l (backI l p):=by
 unfold backI
 split
 ·exact bN l
 ·split
  ·exact iU l
  ·exact gY _ _
theorem NG (a s c:ByteArray) (m:Nat) (hm:m≤s.size) :
 (a++(s++c)).extract 0 (a.size+m)=a++s.extract 0 m∧(a++(s++c)).extract (a.size+m) (a++(s++c)).size=s.extract m s.size++c:=by
 have ha:a.data.toList.length=a.size:=by simp
 have hs:s.data.toList.length=s.size:=by simp
 have hc:c.data.toList.length=c.size:=by simp
 constructor
 ·apply aI
  rw [aC,aB,aB,aB,aC,List.drop_zero,List.drop_zero,Nat.sub_zero,Nat.sub_zero,← ha,List.take_length_add_append,List.take_append_of_le_length (by omega)]
 ·apply aI
  rw [aC,aB,aB,aB,aC,ByteArray.size_append,ByteArray.size_append,← ha,List.drop_length_add_append,List.drop_append_of_le_length (by omega)]
  rw [List.take_of_length_le (l:=s.data.toList.drop m) (by rw [List.length_drop];omega),List.take_of_length_le]
  rw [List.length_append,List.length_drop]
  omega
structure CutAt (L:List ByteArray) (p:Int) (A:List ByteArray) (s:ByteArray) (C:List ByteArray) (q:Int):Prop where
 all:L=A++([s]++C)
 at':q=p - (wholeL A).size
 lo:A≠[]→0≤q
 hi:C≠[]→q<s.size
theorem CutAt.back {C:List ByteArray} {s:ByteArray} {p q:Int} (h:CutAt L p A s C q) (hL:TightP L) :
 backI (wholeL L).data.toList p=(wholeL A).size+backI s.data.toList q∧wholeL L=wholeL A++(s++wholeL C):=by
 obtain ⟨rfl,rfl,h1,h2⟩:=h
 obtain ⟨t1,t2,-⟩:=(cW _ _).1 hL
 obtain ⟨t3,t4,-⟩:=(cW _ _).1 t2
 have e:wholeL (A++([s]++C))=wholeL A++(s++wholeL C):=by rw [aE,aE,bO]
 have ha:(wholeL A).data.toList.length=(wholeL A).size:=by simp
 have hs:s.data.toList.length=s.size:=by simp
 refine ⟨?_,e⟩
 rw [e,aB,aB]
 have:=JH (wholeL A).data.toList s.data.toList (wholeL C).data.toList p (dU t3 s (by simp)).2.2 (JL (dU t4)) (fun hn=>?_) (fun hn=>?_)
 ·rw [this,ha]
 ·rw [ha]
  have:=h1 fun e=>hn (by rw [e];rfl)
  omega
 ·rw [ha,hs]
  exact h2 fun e=>hn (by rw [e];rfl)
theorem CutAt.parts {C:List ByteArray} {s:ByteArray} {p q:Int} (h:CutAt L p A s C q) (hL:TightP L) :
 TightP A∧TightP C∧fitsP s∧backI s.data.toList q≤s.size ∧
 TightP (leafL (s.extract 0 (backI s.data.toList q)))∧wholeL (leafL (s.extract 0 (backI s.data.toList q)))=s.extract 0 (backI s.data.toList q) ∧
 TightP (leafL (s.extract (backI s.data.toList q) s.size))∧wholeL (leafL (s.extract (backI s.data.toList q) s.size))=s.extract (backI s.data.toList q) s.size ∧
 (wholeL L).extract 0 (backI (wholeL L).data.toList p)=wholeL A++s.extract 0 (backI s.data.toList q) ∧
 (wholeL L).extract (backI (wholeL L).data.toList p) (wholeL L).size=s.extract (backI s.data.toList q) s.size++wholeL C:=by
 obtain ⟨b1,b2⟩:=h.back hL
 have hL':=hL
 rw [h.all] at hL'
 obtain ⟨t1,t2,-⟩:=(cW _ _).1 hL'
 obtain ⟨t3,t4,-⟩:=(cW _ _).1 t2
 have hf:=dU t3 s (by simp)
 have hle:backI s.data.toList q≤s.size:=by have:=fV s.data.toList q;simpa using this
 obtain ⟨v1,v2⟩:=jZ s _ hf.2.2 (yH s.data.toList q)
 have z1:=cH s _ hle
 have z2:=dN s (backI s.data.toList q)
 have hz:=hf.2.1
 obtain ⟨l1,l2⟩:=sW (x:=s.extract 0 (backI s.data.toList q)) (by omega) v1
 obtain ⟨m1,m2⟩:=sW (x:=s.extract (backI s.data.toList q) s.size) (by omega) v2
 obtain ⟨c1,c2⟩:=NG (wholeL A) s (wholeL C) _ hle
 refine ⟨t1,t4,hf,hle,l1,l2,m1,m2,?_,?_⟩
 ·rw [b1,b2,c1]
 ·rw [b1,b2,c2]
end Go.Proofs.YtbagenpobcgjnaaGreat
