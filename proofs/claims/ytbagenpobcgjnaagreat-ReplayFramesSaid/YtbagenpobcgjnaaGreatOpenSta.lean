/-
  OpenSta
-/
import Derived.Test.YtbagenpobcgjnaaGreatJMarkCat
import Derived.Test.YtbagenpobcgjnaaGreatJStaRight
open Go renaming DataW->zk,MemPlace->zm,TypeId->zq,maxLen->zr
open Go.Addr renaming add->zp
open Go.DataW renaming trod->zn,trod_int->zy,trod_string->zv
open Go.World renaming block_lt_of_cell?->zw
open List renaming getElem?_eq_getElem->zx,mem_map->zt,mem_range->zu,range->zo
variable {cs:List Go.Value} {n:Nat} {u:Go.Value}
namespace Go.Proofs.YtbagenpobcgjnaaGreat
open Go.Proofs.Tryz
set_option maxRecDepth 100000
open Go.RowKit Go.ChangeShapes Go.WideShapes Go.Deep
set_option linter.unusedVariables false
structure Her {H:Type} (P:Program) (Q:zq→zk H→Prop):Prop where
 agg:∀ (t:zq) (fs:Array Field) (ys:List (zk H)),P.underlying t=some (.struct fs)→Q t (.agg ys)→∀ (j:Nat) (f:Field) (y:zk H),fs[j]? = some f→ys[j]? = some y→Q f.type y
 slice:∀ (t e:zq) (es sp:List (zk H)),P.underlying t=some (.slice e)→Q t (.slice es sp)→∀ y∈es,Q e y
section
variable {H : Type} {enc : TypeId × Value → H} {P : Program} {w : World} {base : Nat} {spare : Nat → Bool} {held : Bool} {Q : TypeId → DataW H → Prop}
theorem openq_fields (her:Her P Q) {e:zq} {fs:Array Field} {x:zk H×List zm} (he:P.underlying e=some (.struct fs)) (hone:oneCellFields P fs=true)
 (h:zn enc P w base spare held n e cs=some x) (hq:Q e x.1) :
 cs.length=P.cellsOf e∧∀ (j:Nat) (f:Field) (hj:j<cs.length),fs[j]? = some f→∃ (m:Nat) (y:zk H×List zm),zn enc P w base spare held m f.type [cs[j]]=some y∧Q f.type y.1:=by
 obtain ⟨xs,m,_,hx,hlen,hxl,hf⟩:=DataW.trod_struct he h;refine ⟨hlen,fun j f hj hfj=>?_⟩;obtain ⟨ho,hk⟩:=hone_of hone j f hfj;have h1:=hf j f hfj;rw [ho,hk,List.drop_eq_getElem_cons hj] at h1;have hjx:j<xs.length:=by rw [hxl];exact (Array.getElem?_eq_some_iff.1 hfj).1
 rw [zx hjx] at h1;rw [hx] at hq;exact ⟨m,_,h1,her.agg e fs _ he hq j f _ hfj (by simp [zx hjx])⟩
theorem openq_row (her:Her P Q) {t e:zq} {x:zk H×List zm} (ht:P.underlying t=some (.slice e)) (h:zn enc P w base spare held n t [u]=some x) (hq:Q t x.1) :
 u=.slice none 0 0 ∨
 ∃ (a:Addr) (len cap:Nat),u=.slice (some a) len cap∧len≤cap∧cap≤zr∧(∃ es sp,es.length=len∧Q t (.slice es sp)) ∧
  ∀ i,i<len→∃ (cs:List Value) (n:Nat) (x:zk H×List zm),w.cells? base (a.add (i * P.cellsOf e)) (P.cellsOf e)=some cs∧zn enc P w base spare held n e cs=some x∧Q e x.1:=by
 rcases open_slice ht h with ⟨h0,_⟩|⟨a',len',cap',m,n',D,Pl,hcs,_,hl,hm,hmm,hxx,hx⟩
 ·left;simpa using h0
 ·right;have e1:u=.slice (some a') len' cap':=by simpa using hcs
  rw [hxx] at hq;refine ⟨a',len',cap',e1,hl,hm,⟨_,_,li,hq⟩,fun i hi=>?_⟩;obtain ⟨cs,h1,h2⟩:=hx i (by rw [hmm];split <;> omega);exact ⟨cs,n',_,h1,h2,her.slice t e _ _ ht hq _ (zt.2 ⟨i,zu.2 hi,rfl⟩)⟩
end
abbrev xm {H:Type} (s:ByteArray):zk H:=.lit (.string s.data.toList)
def EdQ {H:Type} (Q:zq→zk H→Prop) (y:l8):Prop:=Q 9 (xm y.o)∧Q 9 (xm y.n)
def LenQ {H:Type} (Q:zq→zk H→Prop) (n:Nat):Prop:=n=0∨∃ es sp,es.length=n∧Q 24 (.slice es sp)
def xo {H:Type} (Q:zq→zk H→Prop) (x:mo):Prop:=(x.l.length≤x.c∧x.c≤zr)∧(∀ y∈x.l,y.fits∧EdQ Q y)∧LenQ Q x.l.length
structure StaQ {H:Type} (Q:zq→zk H→Prop) (s:l7):Prop where
 t:s.t.size≤zr
 tq:Q 9 (xm s.t)
 ml:s.m.l.length≤zr
 m:∀ x∈s.m.l,x.fits∧Q 9 (xm x.name)
 u:∀ x∈s.u.l,xo Q x
 r:∀ x∈s.r.l,xo Q x
 g:xo Q s.g
section
variable {H : Type} {enc : TypeId × Value → H} {w : World} {base : Nat} {spare : Nat → Bool} {held : Bool} {Q : TypeId → DataW H → Prop}
theorem TT (her:Her prog Q) {x:zk H×List zm} (h:zn enc prog w base spare held n 92 cs=some x) (hq:Q 92 x.1) :
 ∃ x:l8,(x.fits∧EdQ Q x)∧cs=[.int .i64 x.p,.string x.o,.string x.n]:=by
 obtain ⟨hl,hf⟩:=openq_fields her underlying92 lh h hq;rw [sC] at hl;obtain ⟨u0,u1,u2,rfl⟩:∃ u0 u1 u2,cs=[u0,u1,u2]:=by
  match cs,hl with
  | [u0,u1,u2],_=>exact ⟨u0,u1,u2,rfl⟩
 obtain ⟨m0,y0,h0,-⟩:=hf 0 _ li rfl;obtain ⟨x0,e0,_,w0⟩:=zy underlying3 h0;have g0:u0=.int .i64 x0:=by simpa using e0
 obtain ⟨m1,y1,h1,q1⟩:=hf 1 _ li rfl;obtain ⟨x1,e1,d1,w1⟩:=zv underlying9 h1;have g1:u1=.string x1:=by simpa using e1
 obtain ⟨m2,y2,h2,q2⟩:=hf 2 _ li rfl;obtain ⟨x2,e2,d2,w2⟩:=zv underlying9 h2;have g2:u2=.string x2:=by simpa using e2
 subst g0 g1 g2;rw [d1] at q1;rw [d2] at q2;exact ⟨⟨x0,x1,x2⟩,⟨⟨bounds_i64 w0,w1,w2⟩,q1,q2⟩,rfl⟩
theorem TN (her:Her prog Q) {x:zk H×List zm} (h:zn enc prog w base spare held n 90 cs=some x) (hq:Q 90 x.1) :
 ∃ x:l9,(x.fits∧Q 9 (xm x.name))∧cs=[.string x.name,.int .i64 x.p]:=by
 obtain ⟨hl,hf⟩:=openq_fields her underlying90 lh h hq;rw [tU] at hl;obtain ⟨u0,u1,rfl⟩:∃ u0 u1,cs=[u0,u1]:=by
  match cs,hl with
  | [u0,u1],_=>exact ⟨u0,u1,rfl⟩
 obtain ⟨m0,y0,h0,q0⟩:=hf 0 _ li rfl;obtain ⟨x0,e0,d0,w0⟩:=zv underlying9 h0;have g0:u0=.string x0:=by simpa using e0
 obtain ⟨m1,y1,h1,-⟩:=hf 1 _ li rfl;obtain ⟨x1,e1,_,w1⟩:=zy underlying3 h1;have g1:u1=.int .i64 x1:=by simpa using e1
 subst g0 g1;rw [d0] at q0;exact ⟨⟨x0,x1⟩,⟨⟨w0,bounds_i64 w1⟩,q0⟩,rfl⟩
theorem wV (her:Her prog Q) {x:zk H×List zm} (h:zn enc prog w base spare held n 24 [u]=some x) (hq:Q 24 x.1) :
 ∃ (a:Option Addr) (l:List l8) (c:Nat),u=.slice a l.length c∧o0 w ⟨a,l,c⟩∧xo Q ⟨a,l,c⟩:=by
 rcases openq_row her underlying24 h hq with rfl|⟨a,len,cap,rfl,hlc,hcm,hqs,hx⟩
 ·exact ⟨none,[],0,rfl,⟨fun k hk=>absurd hk li,fun _=>rfl⟩,⟨Nat.le_refl _,Nat.zero_le _⟩,fun x hx=>absurd hx li,.inl rfl⟩
 ·obtain ⟨V,hV⟩:=choose_lt (α:=l8) (p:=fun i x=>(x.fits∧EdQ Q x)∧w.cells? base (a.add (i * prog.cellsOf 92)) (prog.cellsOf 92)=some [.int .i64 x.p,.string x.o,.string x.n]) (fun i hi=>by
   obtain ⟨cs,n,x,h1,h2,h3⟩:=hx i hi;obtain ⟨c,hf,rfl⟩:=TT her h2 h3;exact ⟨c,hf,h1⟩)
  have hlen:((zo len).map V).length=len:=li;refine ⟨some a,(zo len).map V,cap,by rw [hlen],⟨fun k hk=>?_,fun e=>by cases e⟩,⟨by show ((zo len).map V).length≤cap;rw [hlen];exact hlc,hcm⟩,fun x hx=>?_,.inr (by obtain ⟨es,sp,hes,hqq⟩:=hqs;exact ⟨es,sp,by rw [hes];exact hlen.symm,hqq⟩)⟩
  ·have hk':k<len:=by rw [hlen] at hk;exact hk
   have h1:=(hV k hk').2;rw [sC] at h1;obtain ⟨_,hc⟩:=gC h1;have hbl:(a.add (k * 3)).block=a.block:=by unfold zp;split <;> rfl
   have q0:=hc 0 li;have q1:=hc 1 li;have q2:=hc 2 li;refine ⟨a,rfl,?_,?_,?_,?_⟩
   ·have:=zw w _ q0;rwa [show ((a.add (k * 3)).add 0).block=(a.add (k * 3)).block by unfold zp;simp,hbl] at this
   ·simpa [zp] using q0
   ·simpa [zp] using q1
   ·simpa [zp] using q2
  ·obtain ⟨i,hi,rfl⟩:=zt.1 hx;exact (hV i (zu.1 hi)).1
theorem TF (her:Her prog Q) {x:zk H×List zm} (h:zn enc prog w base spare held n 54 cs=some x) (hq:Q 54 x.1) :
 ∃ x:mo,cs=[x.v]∧o0 w x∧xo Q x:=by
 obtain ⟨hl,hf⟩:=openq_fields her underlying54 lh h hq;rw [sI] at hl;obtain ⟨u0,rfl⟩:∃ u0,cs=[u0]:=by
  match cs,hl with
  | [u0],_=>exact ⟨u0,rfl⟩
 obtain ⟨m0,y0,h0,q0⟩:=hf 0 _ li rfl;obtain ⟨a,l,c,e,h1,h2⟩:=wV her h0 q0;have e:u0=.slice a l.length c:=by simpa using e
 subst e;exact ⟨⟨a,l,c⟩,rfl,h1,h2⟩
theorem NY (her:Her prog Q) {x:zk H×List zm} (h:zn enc prog w base spare held n 22 [u]=some x) (hq:Q 22 x.1) :
 ∃ (a:Option Addr) (l:List l9) (c:Nat),u=.slice a l.length c∧vf w ⟨a,l,c⟩∧l.length≤zr∧∀ x∈l,x.fits∧Q 9 (xm x.name):=by
 rcases openq_row her underlying22 h hq with rfl|⟨a,len,cap,rfl,hlc,hcm,hqs,hx⟩
 ·exact ⟨none,[],0,rfl,vf.empty w,Nat.zero_le _,fun x hx=>absurd hx li⟩
 ·obtain ⟨V,hV⟩:=choose_lt (α:=l9) (p:=fun i x=>(x.fits∧Q 9 (xm x.name))∧w.cells? base (a.add (i * prog.cellsOf 90)) (prog.cellsOf 90)=some [.string x.name,.int .i64 x.p]) (fun i hi=>by
   obtain ⟨cs,n,x,h1,h2,h3⟩:=hx i hi;obtain ⟨c,hf,rfl⟩:=TN her h2 h3;exact ⟨c,hf,h1⟩)
  have hlen:((zo len).map V).length=len:=li;refine ⟨some a,(zo len).map V,cap,by rw [hlen],⟨fun k hk=>?_,fun e=>by cases e⟩,by rw [hlen];exact Nat.le_trans hlc hcm,fun x hx=>?_⟩
  ·have hk':k<len:=by rw [hlen] at hk;exact hk
   have h1:=(hV k hk').2;rw [tU] at h1;obtain ⟨_,hc⟩:=gC h1;have hbl:(a.add (k * 2)).block=a.block:=by unfold zp;split <;> rfl
   have q0:=hc 0 li;have q1:=hc 1 li;refine ⟨a,rfl,?_,?_,?_⟩
   ·have:=zw w _ q0;rwa [show ((a.add (k * 2)).add 0).block=(a.add (k * 2)).block by unfold zp;simp,hbl] at this
   ·simpa [zp] using q0
   ·simpa [zp] using q1
  ·obtain ⟨i,hi,rfl⟩:=zt.1 hx;exact (hV i (zu.1 hi)).1
theorem xT (her:Her prog Q) {x:zk H×List zm} (h:zn enc prog w base spare held n 23 [u]=some x) (hq:Q 23 x.1) :
 ∃ (a:Option Addr) (l:List mo) (c:Nat),u=.slice a l.length c∧nz w ⟨a,l,c⟩∧∀ x∈l,xo Q x:=by
 rcases openq_row her underlying23 h hq with rfl|⟨a,len,cap,rfl,hlc,hcm,hqs,hx⟩
 ·exact ⟨none,[],0,rfl,nz.empty w,fun x hx=>absurd hx li⟩
 ·obtain ⟨V,hV⟩:=choose_lt (α:=mo) (p:=fun i x=>o0 w x∧xo Q x∧w.cells? base (a.add (i * prog.cellsOf 54)) (prog.cellsOf 54)=some [x.v]) (fun i hi=>by
   obtain ⟨cs,n,x,h1,h2,h3⟩:=hx i hi;obtain ⟨y,e,he,hs⟩:=TF her h2 h3;exact ⟨y,he,hs,by rw [h1,e]⟩)
  have hlen:((zo len).map V).length=len:=li;have hget:∀ k,k<len→((zo len).map V)[k]! = V k:=fun k hk=>by rw [og (by rw [hlen];exact hk)];simp
  refine ⟨some a,(zo len).map V,cap,by rw [hlen],⟨fun k hk=>?_,fun x hx=>?_,fun e=>(by cases e),by rw [hlen];exact hlc,hcm⟩,fun x hx=>?_⟩
  ·have hk':k<len:=by
    have h:k<((zo len).map V).length:=hk;rwa [hlen] at h
   have h1:=(hV k hk').2.2;rw [sI,Nat.mul_one] at h1;obtain ⟨_,hc⟩:=gC h1;have q0:=hc 0 li;refine ⟨a,rfl,?_,?_⟩
   ·have:=zw w _ q0;rwa [aX,aX] at this
   ·show w (a.add k)=some (((zo len).map V)[k]!).v;rw [hget k hk'];simpa [zp] using q0
  ·obtain ⟨i,hi,rfl⟩:=zt.1 hx;exact (hV i (zu.1 hi)).1
  ·obtain ⟨i,hi,rfl⟩:=zt.1 hx;exact (hV i (zu.1 hi)).2.1
theorem IL:prog.cellsOf 26=6:=lh
theorem openq_sta (her:Her prog Q) {r:Reach} {b0:Nat} {v:Value} {d:zk H} {p:List zm} (hv:Value.okWide prog w r b0 26 v) (h:DataW.Trod enc prog w base spare held 26 v d p) (_:∀ x∈p,x.block<w) (hq:Q 26 d) :
 ∃ s:l7,v=s.v∧ol w s∧StaQ Q s:=by
 obtain ⟨cs,rfl,_⟩:=okWide_struct underlying26 hv;obtain ⟨n,hn⟩:=h;obtain ⟨L,hL⟩:∃ L,(Value.agg cs).cells.toList=L:=⟨_,rfl⟩;rw [hL] at hn;obtain ⟨hl,hf⟩:=openq_fields her underlying26 lh hn hq;rw [IL] at hl;obtain ⟨u0,u1,u2,u3,u4,u5,rfl⟩:∃ u0 u1 u2 u3 u4 u5,L=[u0,u1,u2,u3,u4,u5]:=by
  match L,hl with
  | [u0,u1,u2,u3,u4,u5],_=>exact ⟨u0,u1,u2,u3,u4,u5,rfl⟩
 obtain ⟨m0,y0,h0,q0⟩:=hf 0 _ li rfl;obtain ⟨x0,e0,d0,w0⟩:=zv underlying9 h0;have g0:u0=.string x0:=by simpa using e0
 rw [d0] at q0;obtain ⟨m1,y1,h1,q1⟩:=hf 1 _ li rfl;obtain ⟨a1,l1,c1,g1,k1,n1,p1⟩:=NY her h1 q1;obtain ⟨m2,y2,h2,q2⟩:=hf 2 _ li rfl;obtain ⟨a2,l2,c2,g2,k2,p2⟩:=xT her h2 q2;obtain ⟨m3,y3,h3,q3⟩:=hf 3 _ li rfl;obtain ⟨a3,l3,c3,g3,k3,p3⟩:=xT her h3 q3;obtain ⟨m4,y4,h4,-⟩:=hf 4 _ li rfl;obtain ⟨o,e4,_⟩:=DataW.trod_bool underlying4 h4;have g4:u4=.bool o:=by simpa using e4
 obtain ⟨m5,y5,h5,q5⟩:=hf 5 _ li rfl;obtain ⟨a5,l5,c5,g5,k5,p5⟩:=wV her h5 q5;refine ⟨⟨x0,⟨a1,l1,c1⟩,⟨a2,l2,c2⟩,⟨a3,l3,c3⟩,o,⟨a5,l5,c5⟩⟩,?_,⟨k1,k2,k3,k5⟩,⟨w0,q0,n1,p1,p2,p3,p5⟩⟩;have:cs.toList=[.string x0,.slice a1 l1.length c1,.slice a2 l2.length c2,.slice a3 l3.length c3,.bool o,.slice a5 l5.length c5]:=by
  have h:=hL;rw [g0,show u1=_ from g1,show u2=_ from g2,show u3=_ from g3,g4,show u5=_ from g5] at h;simpa [Value.cells] using h
 show Value.agg cs=.agg #[_,_,_,_,_,_];rw [show cs=#[.string x0,.slice a1 l1.length c1,.slice a2 l2.length c2,.slice a3 l3.length c3,.bool o,.slice a5 l5.length c5] from Array.toList_inj.1 this]
end
end Go.Proofs.YtbagenpobcgjnaaGreat
