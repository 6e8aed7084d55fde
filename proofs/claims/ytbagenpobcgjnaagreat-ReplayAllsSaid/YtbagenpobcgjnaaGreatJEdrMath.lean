/-
  Joined: EdrMath, EdrMem, RplMath, RplOps, EdrMath2, RplMem, EdrNow, EdrDev, EdrDev2, EdrDev3, EdrDev4, EdrMath3, EdrRef, EdrRef2.
-/
import Derived.Test.YtbagenpobcgjnaaGreatJStaRight
import Derived.Test.YtbagenpobcgjnaaGreatJWeldOf
import Derived.Test.YtbagenpobcgjnaaGreatJMarkDev3
import Derived.Test.YtbagenpobcgjnaaGreatIter
open And renaming intro->zv
open Go renaming Addr->zo,Calls->zn,Ending->A0,TypeId->Aa,Value->zs,World->zh,bodyPost_ret->Ak,maxLen->Ad,results->A3,undef->Ap,wpAnyH_done->zq,wpAnyH_ready->zw,wpAnyH_take->Ao,wp_region_held_drew->zt
open Go.Act renaming put->zi
open Go.AllReadyH renaming cons->zp,nil->zx
open Go.Ending renaming returned->zz
open Go.IntKind renaming i64->yz
open Go.Lib renaming hid->yv
open Go.Obj renaming cells->zk
open Go.Value renaming agg->zu,bool->zd,int->yy,ownBlock->Bz,pointer->ze,slice->yw,string->yx,tuple->Ai
open Go.World renaming alloc->zy,cell?->Aj,cell?_of_block->Bg,drew->Au,putObj_heap_other->Bx,setCell->Ae,size_alloc->Bt
open Int renaming eq_ofNat_of_zero_le->Am
open List renaming append_assoc->A9,drop_eq_getElem_cons->Bv,eq_nil_of_length_eq_zero->A8,getElem?_eq_getElem->Bm,getElem_mem->A6,getElem_of_mem->Av,length->Bq,length_append->Ag,length_cons->Bu,length_drop->Bc,length_singleton->Aw,length_take->Af,mem_append->Ay,mem_cons->zf,mem_cons_of_mem->Bd,mem_map->A7,mem_of_mem_drop->Ax,mem_of_mem_take->An,mem_reverse->Be,mem_singleton->Ah,not_lt->Br,not_mem_nil->Bi,pairwise_append->Az,pairwise_cons->Bs,reverse_append->Bj,singleton_append->Al,take_add_one->Bl,take_append_drop->A5,take_length->Bo,take_succ_cons->Bn
open Nat renaming le_of_eq->zr,le_refl->zj,le_succ->Ar,le_trans->zg,lt_of_lt_of_le->zm,zero_add->Bf,zero_le->Ab
variable {made o so:Bool} {s t t' x:ByteArray} {i:Int} {L:List ByteArray} {S S':List Nat} {b c k l n rb:Nat} {D:Nat→Prop} {a p r:Option Go.Addr} {x0 x1 x2 x3:Go.Value} {A B W w w':Go.World}
namespace Go.Proofs.YtbagenpobcgjnaaGreat
open Go.RowKit
set_option linter.unusedVariables false
set_option linter.unusedSimpArgs false
theorem JY (x:l7) (r:List l7):me (x::r)=me r++[x.back]:=by unfold me;rw [List.map_cons,List.reverse_cons]
theorem LM (a b:List l7):me (a++b)=me b++me a:=by unfold me;rw [List.map_append,Bj]
theorem MX (l:List l7):me (me l)=l:=by
 unfold me;rw [← List.map_reverse,List.reverse_reverse,List.map_map];have:(l7.back ∘ l7.back)=id:=by funext x;rfl
 rw [this,List.map_id]
theorem jD {x:l7} (h:ot t x.p x.o x.n=(s,0)):mu t [x]=(s,0):=by rw [dY h,dJ]
theorem iJ {x:l7} {r:List l7} (h:mu t (x::r)=(s,0)):∃ u,ot t x.p x.o x.n=(u,0)∧mu u r=(s,0):=by
 obtain ⟨⟨u,e⟩,hu⟩:∃ y,ot t x.p x.o x.n=y:=⟨_,rfl⟩;by_cases he:e=0
 ·subst he;rw [dY hu] at h;exact ⟨u,hu,h⟩
 ·rw [gF hu he] at h;exact absurd (congrArg Prod.snd h) he
theorem oA {l:List l7} (h:(mu t l).2=0):mu t l=((mu t l).1,0):=by rw [← h]
theorem jX {l:List l7} (hv:oa t.data.toList=true) (ht:t.size≤4096) (h:mu t l=(s,0)):oa s.data.toList=true∧s.size≤4096∧mu s (me l)=(t,0):=by
 induction l generalizing t with
 | nil =>
  rw [dJ] at h;obtain rfl:t=s:=congrArg Prod.fst h;exact ⟨hv,ht,dJ _⟩
 | cons x r ih =>
  obtain ⟨u,hu,hr⟩:=iJ h;obtain ⟨hb,huv⟩:=oO hv ht hu;obtain ⟨h1,h2,h3⟩:=ih huv (bV hu) hr;refine ⟨h1,h2,?_⟩;rw [JY,oQ,h3,if_pos rfl];exact jD (x:=x.back) hb
theorem wT {l:List l7} (h:mu t l=(s,0)) (k:Nat):∃ u,mu t (l.take k)=(u,0)∧mu u (l.drop k)=(s,0):=by
 have e:=oQ t (l.take k) (l.drop k);rw [A5,h] at e;by_cases g:(mu t (l.take k)).2=0
 ·rw [if_pos g] at e;exact ⟨_,oA g,e.symm⟩
 ·rw [if_neg g] at e;exact absurd (congrArg Prod.snd e).symm g
theorem wR {u:ByteArray} {l:List l7} (hk:k<l.length) (h:mu t l=(s,0)) (hu:mu t (l.take k)=(u,0)):∃ v,ot u (l[k]!).p (l[k]!).o (l[k]!).n=(v,0)∧mu t (l.take (k+1))=(v,0):=by
 obtain ⟨u',h1,h2⟩:=wT h k;rw [hu] at h1;obtain rfl:u=u':=congrArg Prod.fst h1;rw [edrop l k hk] at h2;obtain ⟨v,h3,-⟩:=iJ h2;refine ⟨v,h3,?_⟩;rw [Bl,Bm hk,← tj hk,oQ,hu,if_pos rfl];exact jD h3
theorem iX {l:List l7} (ht:t.size≤4096) (h:mu t l=(s,0)):∀ x∈l,0≤x.p∧x.p≤4096:=by
 induction l generalizing t with
 | nil=>exact fun x hx=>absurd hx lh
 | cons y r ih =>
  obtain ⟨u,hu,hr⟩:=iJ h;intro x hx;rcases zf.1 hx with rfl|hx
  ·obtain ⟨k,e,hk,-⟩:=lO hu;omega
  ·exact ih (bV hu) hr x hx
def rq (m:List l8) (l:List l7):List l8:=l.foldl (fun m x=>pd m (mw x.p x.o.size x.n.size)) m
theorem sV (m:List l8) (x:l7) (l:List l7):rq m (x::l)=rq (pd m (mw x.p x.o.size x.n.size)) l:=rfl
theorem lZ (m:List l8) (l:List l7) (k:Nat) (hk:k<l.length):rq m (l.take (k+1))=pd (rq m (l.take k)) (mw (l[k]!).p (l[k]!).o.size (l[k]!).n.size):=by
 unfold rq;rw [Bl,Bm hk,← tj hk,List.foldl_append];rfl
theorem oI (m:List l8) (l:List l7):(rq m l).length=m.length:=by
 induction l generalizing m with
 | nil=>rfl
 | cons x r ih=>rw [sV,ih,bJ]
theorem mK {x:l8} (h:xf t x=true):ng x.name.data.toList=true∧mg t.data.toList x.p=true:=by
 unfold xf at h;simpa using h
theorem KY {p:Int} (h:mg t.data.toList p=true):0≤p∧p≤t.size:=by
 have:=nB h;have e:t.data.toList.length=t.size:=lh;omega
theorem xI {l:List l8} (h:m9 l t=true):∀ x∈l,0≤x.p∧x.p≤t.size:=fun x hx=>by
 obtain ⟨i,hi,rfl⟩:=Av hx;have:=((aX l t).1 h).1 i hi;rw [o6 hi] at this;exact KY (mK this).2
theorem nV {l:List l8} {o n:ByteArray} {p:Int} (hv:oa t.data.toList=true) (h:ot t p o n=(s,0)) (hr:m9 l t=true):m9 (pd l (mw p o.size n.size)) s=true:=by
 obtain ⟨h1,h2,h3⟩:=(aX l t).1 hr;rw [aX];refine ⟨fun i hi=>?_,by rw [bJ];exact h2,by rw [FT];exact h3⟩;rw [bJ] at hi;rw [iE l _ i hi];have hk:=mK (h1 i hi);unfold xf;rw [show ng (l[i]!).name.data.toList=true from hk.1,Bool.true_and];exact DJ hv h hk.2
theorem mN {l:List l7} {m:List l8} (hv:oa t.data.toList=true) (ht:t.size≤4096) (h:mu t l=(s,0)) (hr:m9 m t=true):m9 (rq m l) s=true:=by
 induction l generalizing t m with
 | nil =>
  rw [dJ] at h;obtain rfl:t=s:=congrArg Prod.fst h;exact hr
 | cons x r ih =>
  obtain ⟨u,hu,h2⟩:=iJ h;rw [sV];exact ih (oO hv ht hu).2 (bV hu) h2 (nV hv hu hr)
theorem BI {f:List l7→List l7} {L:List (List l7)} (h:qh f t L=true) (k:Nat):qh f t (L.take k)=true:=by
 induction L generalizing t k with
 | nil=>rw [List.take_nil];rfl
 | cons x r ih =>
  cases k with
  | zero=>rw [List.take_zero];rfl
  | succ k =>
   rw [Bn];cases hx:nb t (f x)
   ·rw [eM hx] at h;cases h
   ·rw [dW hx] at h ⊢;exact ih h k
theorem dQ {f:List l7→List l7} {L:List (List l7)}:mr f t L=true↔qh f t L.reverse=true∧L.length≤16:=by unfold mr;simp
theorem fS (f:List l7→List l7) (t:ByteArray):mr f t []=true:=rfl
theorem eZ {f:List l7→List l7} {L:List (List l7)} {st:List l7} (hs:nb t' (f st)=true) (ht:(mu t' (f st)).1=t) (h:mr f t L=true):mr f t' (np L st)=true:=by
 obtain ⟨h1,h2⟩:=dQ.1 h;rw [dQ];refine ⟨?_,by rw [FR];omega⟩;have e:(np L st).reverse=st::(L.reverse.take (min L.length 15)):=by
  unfold np;rw [List.reverse_drop,Bj,List.reverse_singleton,Al,Ag,Aw,show L.length+1 - (L.length+1 - 16)=min L.length 15+1 by omega,Bn]
 rw [e,dW hs,ht];exact BI h1 _
theorem fA {f:List l7→List l7} {L:List (List l7)} (hk:L.length=k+1) (h:mr f t L=true):nb t (f L[k]!)=true∧mr f (mu t (f L[k]!)).1 (L.take k)=true:=by
 obtain ⟨h1,h2⟩:=dQ.1 h;have e:=jK L k lf;rw [← hk,Bo] at e;rw [e] at h1;cases hx:nb t (f L[k]!)
 ·rw [eM hx] at h1;cases h1
 ·rw [dW hx] at h1;exact ⟨rfl,dQ.2 ⟨h1,by rw [Af];omega⟩⟩
theorem dM {l:List l7}:nb t l=true↔1≤l.length∧l.length≤32∧(mu t l).2=0:=by
 unfold nb;simp [and_assoc]
theorem jL {L:List (List l7)} {st x:List l7} (h:x∈np L st):x∈L∨x=st:=by
 unfold np at h;have:=Ax h;simpa using this
theorem cZ {L:List (List l7)} (h:k<L.length):L[k]! ∈ L:=by rw [getElem!_pos L k h];exact A6 h
structure mx (s:mb):Prop where
 v:oa s.t.data.toList=true
 z:s.t.size≤4096
 m:m9 s.m s.t=true
 r:mr id s.t s.r=true
 go:s.g=[]∨(s.o=true∧s.r=[])
 gl:s.g.length≤32
 gr:(mu s.t (me s.g)).2=0
 u:mr me (mu s.t (me s.g)).1 s.u=true
 ue:∀ l∈s.u,∀ x∈l,pb x=true
 re:∀ l∈s.r,∀ x∈l,pb x=true
 ge:∀ x∈s.g,pb x=true
theorem kX {l:List mo}:o3 l=true↔∀ x∈mf l,∀ y∈x,pb y=true:=by
 unfold o3 mf;simp only [List.all_eq_true,A7];exact ⟨fun h x ⟨y,hy,e⟩ z hz=>h y hy z (by rw [e];exact hz),fun h y hy z hz=>h y.l ⟨y,hy,rfl⟩ z hz⟩
theorem gK (s:lz):o0 s=true↔mx s.d:=by
 unfold o0 yi vd;rw [pR];have hg:o3 [s.g]=true↔∀ x∈s.g.l,pb x=true:=by rw [kX];simp [mf]
 by_cases g0:s.g.l.length=0
 ·have e:s.g.l=[]:=A8 g0;rw [if_pos g0];simp only [Bool.and_eq_true,decide_eq_true_eq,kX];constructor
  ·rintro ⟨⟨h1,h2⟩,h3,h4,h5,h6,h7,h8⟩;exact ⟨h2,h1,h3,h4,.inl e,by show s.g.l.length≤32;omega,by show (mu s.t (me s.g.l)).2=0;rw [e];rfl,by show mr me (mu s.t (me s.g.l)).1 _=true;rw [e];exact h5,h6,h7,by show ∀ x∈s.g.l,_;rw [e];simp⟩
  ·intro h;have hu:mr me (mu s.t (me s.g.l)).1 (mf s.u.l)=true:=h.u;rw [e] at hu;exact ⟨⟨h.z,h.v⟩,h.m,h.r,hu,h.ue,h.re,by simp [mf,e]⟩
 ·rw [if_neg g0];simp only [Bool.and_eq_true,decide_eq_true_eq,kX,dM,aD];have aa:(∀ x∈mf [s.g],∀ y∈x,pb y=true)↔∀ x∈s.g.l,pb x=true:=by simp [mf]
  rw [aa];constructor
  ·rintro ⟨⟨h1,h2⟩,h3,h4,h5,h6,⟨h7,h8,h9⟩,h10,h11,h12,h13⟩;exact ⟨h2,h1,h3,h4,.inr ⟨h5,by show mf s.r.l=[];rw [A8 h6];rfl⟩,h8,h9,h10,h11,h12,h13⟩
  ·intro h;have hgo:=h.go;rcases hgo with hgo|⟨h1,h2⟩
   ·exact absurd (congrArg Bq hgo) g0
   ·have h2:mf s.r.l=[]:=h2;have h2:=congrArg Bq h2;rw [aC] at h2;exact ⟨⟨h.z,h.v⟩,h.m,h.r,h1,h2,⟨lf,h.gl,h.gr⟩,h.u,h.ue,h.re,h.ge⟩
def ph (s:mb) (x:l7):mb×Int:=
 if s.o=true∧32≤s.g.length then (s,9)
 else (⟨(ot s.t x.p x.o x.n).1,pd s.m (mw x.p x.o.size x.n.size),if s.o=true then s.u else np s.u [x],[],s.o,if s.o=true then s.g++[x] else s.g⟩,0)
def insX (i:Int) (x:ByteArray):l7:=⟨i,⟨#[]⟩,x⟩
def ve (t:ByteArray) (i n:Int):l7:=⟨i,t.extract i.toNat (i+n).toNat,⟨#[]⟩⟩
def ur (s:mb) (i:Int) (x:ByteArray):mb×Int:=
 if ol s.t i x≠0 then (s,ol s.t i x) else if 512<x.size then (s,6) else if x.size=0 then (s,0) else ph s (insX i x)
def uu (s:mb) (i n:Int):mb×Int:=
 if pc s.t i n≠0 then (s,pc s.t i n) else if 512<n then (s,6) else if n=0 then (s,0) else ph s (ve s.t i n)
def sb (s:mb) (r:List l8×Int):mb×Int:=(if r.2=0 then ⟨s.t,r.1,s.u,s.r,s.o,s.g⟩ else s,r.2)
def uo (s:mb) (i:Int) (x:ByteArray):mb×Int:=
 if ng x.data.toList=false then (s,7) else if i<0∨(s.t.size:Int)<i then (s,3) else if mg s.t.data.toList i=false then (s,4) else sb s (qx s.m ⟨x,i⟩)
def sy (s:mb) (x:ByteArray):mb×Int:=sb s (pm s.m x)
def pt (s:mb):mb×Int:=
 if s.o=true then (s,11) else if s.u.length=0 then (s,10)
 else (⟨(mu s.t (me s.u[s.u.length - 1]!)).1,rq s.m (me s.u[s.u.length - 1]!),s.u.take (s.u.length - 1),np s.r s.u[s.u.length - 1]!,s.o,s.g⟩,0)
def pu (s:mb):mb×Int:=
 if s.o=true then (s,11) else if s.r.length=0 then (s,10)
 else (⟨(mu s.t s.r[s.r.length - 1]!).1,rq s.m s.r[s.r.length - 1]!,np s.u s.r[s.r.length - 1]!,s.r.take (s.r.length - 1),s.o,s.g⟩,0)
def tl (s:mb):mb×Int:=if s.o=true then (s,11) else (⟨s.t,s.m,s.u,s.r,true,s.g⟩,0)
def ss (s:mb):mb×Int:=if s.o=false then (s,11) else (⟨s.t,s.m,if s.g.length=0 then s.u else np s.u s.g,s.r,false,[]⟩,0)
def xo (s:mb) (k i n:Int) (x:ByteArray):mb×Int:=
 if k=1 then ur s i x else if k=2 then uu s i n else if k=3 then uo s i x else if k=4 then sy s x
 else if k=5 then pt s else if k=6 then pu s else if k=7 then tl s else if k=8 then ss s else (s,2)
theorem zK (h:ol t i x=0):ot t (insX i x).p (insX i x).o (insX i x).n=(sv t i x,0):=by
 obtain ⟨h1,h2,h3,h4⟩:=sP h;obtain ⟨g1,-,g3⟩:=aZ.1 h1;obtain ⟨k,rfl⟩:=Am g1;have hv:oa (⟨#[]⟩:ByteArray).data.toList=true:=li;show ot t k ⟨#[]⟩ x=_;have hs:(⟨#[]⟩:ByteArray).size=0:=rfl;rw [gH lf (by
  have:t.extract k (k+(⟨#[]⟩:ByteArray).size)=⟨#[]⟩:=by
   apply aU;rw [aE,hs];simp
  exact this) h2 (by rw [hs];exact h2) hv h3 (by rw [hs];omega)]
 unfold sv;rw [if_pos h,hs];rfl
theorem QD {a:Nat} (hv:oa t.data.toList=true) (hab:a≤b) (hb:b≤t.size) (ha:mg t.data.toList a=true) (hb2:mg t.data.toList b=true):oa (t.extract a b).data.toList=true:=by
 rw [bE] at hv ⊢;rw [bT] at ha hb2;rw [aE];have h1:=(gX _ b hv hb2).1;have e:(t.data.toList.take b).drop a=(t.data.toList.drop a).take (b - a):=by rw [List.drop_take]
 rw [← e];refine (gX _ a h1 ?_).2;have hl:t.data.toList.length=t.size:=lh;rcases Nat.lt_or_ge a b with g|g
 ·rcases ha with h|h|⟨h,hc⟩
  ·exact .inl h
  ·omega
  ·refine .inr (.inr ⟨by rw [Af];omega,?_⟩);have:=bC (t.data.toList.take b) (t.data.toList.drop b) a (by rw [Af];omega);rw [A5] at this;rw [← this];exact hc
 ·exact .inr (.inl (by rw [Af];omega))
theorem zV {n:Int} (hv:oa t.data.toList=true) (ht:t.size≤4096) (h:pc t i n=0):ot t (ve t i n).p (ve t i n).o (ve t i n).n=(ui t i n,0)∧((ve t i n).o.size:Int)=n:=by
 obtain ⟨h1,h2,h3⟩:=iG h;obtain ⟨g1,g2,g3⟩:=aZ.1 h1;obtain ⟨k,rfl⟩:=Am g1;obtain ⟨m,rfl⟩:=Am g2;have e1:((k:Int)+(m:Int)).toNat=k+m:=lf;have e3:((k:Int)+(m:Int))=((k+m:Nat):Int):=lf;have hs:(t.extract k (k+m)).size=m:=by rw [ByteArray.size_extract];omega
 have hx:ve t k m=⟨k,t.extract k (k+m),⟨#[]⟩⟩:=by unfold ve;rw [e1,Int.toNat_natCast]
 rw [hx];rw [e3] at h3;refine ⟨?_,by show ((t.extract k (k+m)).size:Int)=m;rw [hs]⟩;show ot t k (t.extract k (k+m)) ⟨#[]⟩=_;rw [gH lf (by rw [hs]) h2 (by rw [hs];exact h3) (QD hv lf lf h2 h3) li (by rw [hs];show ¬ 4096+m<t.size+0;omega),hs];unfold ui;rw [if_pos h,e1]
 congr 1
 apply aU;simp
theorem mx.runs {s:mb} (h:mx s) {st:List l7} (hr:nb s.t st=true):∃ t',mu s.t st=(t',0)∧oa t'.data.toList=true∧t'.size≤4096∧nb t' (me st)=true∧(mu t' (me st)).1=s.t:=by
 obtain ⟨h1,h2,h3⟩:=dM.1 hr;obtain ⟨a,b,c⟩:=jX h.v h.z (oA h3);exact ⟨_,oA h3,a,b,dM.2 ⟨by rw [aD];exact h1,by rw [aD];exact h2,by rw [c]⟩,by rw [c]⟩
theorem kG {s:mb} {x:l7} (h:mx s) (hx:ot s.t x.p x.o x.n=(t',0)) (ho:pb x=true):mx (ph s x).1:=by
 unfold ph;by_cases hc:s.o=true∧32≤s.g.length
 ·rw [if_pos hc];exact h
 rw [if_neg hc,hx];obtain ⟨hb,hv⟩:=oO h.v h.z hx;have hm:=nV h.v hx h.m;by_cases hp:s.o=true
 ·have hgr:mu t' (me (s.g++[x]))=mu s.t (me s.g):=by
   rw [LM];exact dY (x:=x.back) hb
  refine ⟨hv,bV hx,hm,fS _ _,.inr ⟨hp,rfl⟩,?_,?_,?_,?_,fun l hl=>absurd hl lh,?_⟩
  ·show (if s.o=true then s.g++[x] else s.g).length≤32;rw [if_pos hp,Ag,Aw];have:¬ 32≤s.g.length:=fun g=>hc ⟨hp,g⟩;omega
  ·show (mu t' (me (if s.o=true then s.g++[x] else s.g))).2=0;rw [if_pos hp,hgr];exact h.gr
  ·show mr me (mu t' (me (if s.o=true then s.g++[x] else s.g))).1 (if s.o=true then s.u else np s.u [x])=true;rw [if_pos hp,if_pos hp,hgr];exact h.u
  ·show ∀ l∈(if s.o=true then s.u else np s.u [x]),_;rw [if_pos hp];exact h.ue
  ·show ∀ y∈(if s.o=true then s.g++[x] else s.g),_;rw [if_pos hp];intro y hy;rcases Ay.1 hy with hy|hy
   ·exact h.ge y hy
   ·rw [Ah.1 hy];exact ho
 ·have hg:s.g=[]:=by
   rcases h.go with g|g
   ·exact g
   ·exact absurd g.1 hp
  have hu:=h.u;rw [hg] at hu;refine ⟨hv,bV hx,hm,fS _ _,.inl (by show (if s.o=true then s.g++[x] else s.g)=[];rw [if_neg hp,hg]),?_,?_,?_,?_,fun l hl=>absurd hl lh,?_⟩
  ·show (if s.o=true then s.g++[x] else s.g).length≤32;rw [if_neg hp];exact h.gl
  ·show (mu t' (me (if s.o=true then s.g++[x] else s.g))).2=0;rw [if_neg hp,hg];rfl
  ·show mr me (mu t' (me (if s.o=true then s.g++[x] else s.g))).1 (if s.o=true then s.u else np s.u [x])=true;rw [if_neg hp,if_neg hp,hg];have aa:mu t' (me [x])=(s.t,0):=jD (x:=x.back) hb;exact eZ (t:=s.t) (dM.2 ⟨by rw [aD];exact zj _,by rw [aD];simp,by show (mu t' (me [x])).2=0;rw [aa]⟩) (by show (mu t' (me [x])).1=s.t;rw [aa]) hu
  ·show ∀ l∈(if s.o=true then s.u else np s.u [x]),_;rw [if_neg hp];intro l hl y hy;rcases jL hl with g|g
   ·exact h.ue l g y hy
   ·rw [g] at hy;rw [Ah.1 hy];exact ho
  ·show ∀ y∈(if s.o=true then s.g++[x] else s.g),_;rw [if_neg hp];exact h.ge
theorem PP {s:mb} (h:mx s) (i:Int) (x:ByteArray):mx (ur s i x).1:=by
 unfold ur;split
 ·exact h
 rename_i h1
 split
 ·exact h
 split
 ·exact h
 exact kG h (zK lf) ((cQ _).2 ⟨Ab _,by show x.size≤512;omega,.inr (by show 1≤x.size;omega)⟩)
theorem PG {s:mb} (h:mx s) (i n:Int):mx (uu s i n).1:=by
 unfold uu;split
 ·exact h
 rename_i h1
 split
 ·exact h
 split
 ·exact h
 obtain ⟨h2,h3⟩:=zV h.v h.z (show pc s.t i n=0 by omega);have h4:=(aZ.1 (iG (show pc s.t i n=0 by omega)).1).2.1;exact kG h h2 ((cQ _).2 ⟨lf,Ab _,.inl lf⟩)
theorem iK {s:mb} (h:mx s) {l:List l8} (hl:m9 l s.t=true):mx ⟨s.t,l,s.u,s.r,s.o,s.g⟩:=⟨h.v,h.z,hl,h.r,h.go,h.gl,h.gr,h.u,h.ue,h.re,h.ge⟩
theorem uP {s:mb} (h:mx s):mx (pt s).1:=by
 unfold pt;by_cases ho:s.o=true
 ·rw [if_pos ho];exact h
 rw [if_neg ho];by_cases hl:s.u.length=0
 ·rw [if_pos hl];exact h
 rw [if_neg hl];have hg:s.g=[]:=by
  rcases h.go with g|g
  ·exact g
  ·exact absurd g.1 ho
 have hu:=h.u;rw [hg] at hu;obtain ⟨k,hk⟩:∃ k,s.u.length=k+1:=⟨s.u.length - 1,lf⟩;rw [show s.u.length - 1=k by omega];obtain ⟨hr,hrest⟩:=fA hk hu;obtain ⟨t',e,hv,hz,hb,hbt⟩:=h.runs hr;rw [MX] at hb hbt;replace hrest:mr me (mu s.t (me s.u[k]!)).1 (s.u.take k)=true:=hrest;rw [e] at hrest ⊢;have hm:=h.ue _ (cZ (L:=s.u) (k:=k) lf);refine ⟨hv,hz,mN h.v h.z e h.m,eZ (f:=id) hb hbt h.r,.inl hg,h.gl,?_,?_,fun l hl=>h.ue l (An hl),fun l hl=>?_,h.ge⟩
 ·show (mu t' (me s.g)).2=0;rw [hg];rfl
 ·show mr me (mu t' (me s.g)).1 _=true;rw [hg];exact hrest
 ·rcases jL hl with g|g
  ·exact h.re l g
  ·rw [g];exact hm
theorem wG {s:mb} (h:mx s):mx (pu s).1:=by
 unfold pu;by_cases ho:s.o=true
 ·rw [if_pos ho];exact h
 rw [if_neg ho];by_cases hl:s.r.length=0
 ·rw [if_pos hl];exact h
 rw [if_neg hl];have hg:s.g=[]:=by
  rcases h.go with g|g
  ·exact g
  ·exact absurd g.1 ho
 have hu:=h.u;rw [hg] at hu;obtain ⟨k,hk⟩:∃ k,s.r.length=k+1:=⟨s.r.length - 1,lf⟩;rw [show s.r.length - 1=k by omega];obtain ⟨hr,hrest⟩:=fA hk h.r;obtain ⟨t',e,hv,hz,hb,hbt⟩:=h.runs (st:=s.r[k]!) hr;replace hrest:mr id (mu s.t s.r[k]!).1 (s.r.take k)=true:=hrest;rw [e] at hrest ⊢;have hm:=h.re _ (cZ (L:=s.r) (k:=k) lf);refine ⟨hv,hz,mN h.v h.z e h.m,hrest,.inl hg,h.gl,?_,?_,fun l hl=>?_,fun l hl=>h.re l (An hl),h.ge⟩
 ·show (mu t' (me s.g)).2=0;rw [hg];rfl
 ·show mr me (mu t' (me s.g)).1 _=true;rw [hg];exact eZ (f:=me) hb hbt hu
 ·rcases jL hl with g|g
  ·exact h.ue l g
  ·rw [g];exact hm
theorem qY {s:mb} (h:mx s):mx (tl s).1:=by
 unfold tl;by_cases ho:s.o=true
 ·rw [if_pos ho];exact h
 rw [if_neg ho];have hg:s.g=[]:=by
  rcases h.go with g|g
  ·exact g
  ·exact absurd g.1 ho
 exact ⟨h.v,h.z,h.m,h.r,.inl hg,h.gl,h.gr,h.u,h.ue,h.re,h.ge⟩
theorem qR {s:mb} (h:mx s):mx (ss s).1:=by
 unfold ss;by_cases ho:s.o=false
 ·rw [if_pos ho];exact h
 rw [if_neg ho];refine ⟨h.v,h.z,h.m,h.r,.inl rfl,Ab _,rfl,?_,?_,h.re,fun x hx=>absurd hx lh⟩
 ·show mr me s.t (if s.g.length=0 then s.u else np s.u s.g)=true;by_cases hg:s.g.length=0
  ·rw [if_pos hg];have e:s.g=[]:=A8 hg;have hu:=h.u;rw [e] at hu;exact hu
  ·rw [if_neg hg];exact eZ (f:=me) (dM.2 ⟨by rw [aD];omega,by rw [aD];exact h.gl,h.gr⟩) rfl h.u
 ·show ∀ l∈(if s.g.length=0 then s.u else np s.u s.g),_;by_cases hg:s.g.length=0
  ·rw [if_pos hg];exact h.ue
  ·rw [if_neg hg];intro l hl;rcases jL hl with g|g
   ·exact h.ue l g
   ·rw [g];exact h.ge
theorem GQ {l:List l8}:qm l=true↔l.Pairwise (fun a b=>xu a.name b.name):=by
 rw [List.pairwise_iff_getElem];constructor
 ·intro h i j hi hj hij;have:=iZ h hij hj;rwa [o6 hi,o6 hj] at this
 ·intro h;refine (fK l).2 fun i hi=>(eN _ _).2 ?_;rw [o6 hi,o6 (show i<l.length by omega)];exact h i (i+1) lf hi (Nat.lt_succ_self i)
theorem eL {l:List l8}:m9 l t=true↔(∀ y∈l,xf t y=true)∧l.length≤16∧l.Pairwise (fun a b=>xu a.name b.name):=by
 rw [aX,GQ];constructor
 ·rintro ⟨h1,h2,h3⟩;refine ⟨fun y hy=>?_,h2,h3⟩;obtain ⟨i,hi,rfl⟩:=Av hy;have:=h1 i hi;rwa [o6 hi] at this
 ·rintro ⟨h1,h2,h3⟩;exact ⟨fun i hi=>by rw [o6 hi];exact h1 _ (A6 hi),h2,h3⟩
theorem GN {a b:ByteArray} (h:¬ xu b a) (hn:¬ a=b):xu a b:=by
 unfold xu at h ⊢;rcases Decidable.em (a.data.toList<b.data.toList) with g|g
 ·exact g
 ·refine absurd ?_ hn;have:=List.le_antisymm (Br.1 h) (Br.1 g);exact ByteArray.ext (Array.toList_inj.1 this)
theorem EP {l:List l8} (h:m9 l t=true) (s:ByteArray):m9 (qb l s) t=true:=by
 rw [eL] at h ⊢;obtain ⟨h1,h2,h3⟩:=h;exact ⟨fun y hy=>h1 y (List.mem_filter.1 hy).1,zg (lQ l s) h2,h3.filter _⟩
theorem sM {l:List l8} (h:m9 l t=true) (s:ByteArray) (ho:(pm l s).2=0):m9 (pm l s).1 t=true:=by
 unfold pm at ho ⊢;split
 ·exact EP h s
 ·rename_i hc
  rw [if_neg hc] at ho;cases ho
theorem wU {R:l8→l8→Prop} {a b:List l8} {x:l8} (h:(a++b).Pairwise R) (ha:∀ y∈a,R y x) (hb:∀ y∈b,R x y):(a++[x]++b).Pairwise R:=by
 rw [Az] at h;rw [A9,Az];refine ⟨h.1,?_,?_⟩
 ·rw [Al,Bs];exact ⟨hb,h.2.1⟩
 ·intro y hy z hz;rw [Al] at hz;rcases zf.1 hz with rfl|hz
  ·exact ha y hy
  ·exact h.2.2 y hy z hz
theorem rL {l:List l8} {x:l8} (h:m9 l t=true) (hx:mg t.data.toList x.p=true) (ho:(qx l x).2=0):m9 (qx l x).1 t=true:=by
 have hri:=((aX l t).1 h).2.2;obtain ⟨h1,h2,h3⟩:=eL.1 h;unfold qx at ho ⊢;by_cases c1:ng x.name.data.toList=false
 ·rw [if_pos c1] at ho;cases ho
 rw [if_neg c1] at ho ⊢;have hok:xf t x=true:=by
  unfold xf;rw [aM c1,hx];rfl
 by_cases c2:l.findIdx (qo x.name)<l.length
 ·rw [if_pos c2];show m9 (pf (qb l x.name) x) t=true;rw [uB hri c2];obtain ⟨i,he⟩:∃ i,l.findIdx (qo x.name)=i:=⟨_,rfl⟩;have hn:=iW c2;rw [he] at c2 hn ⊢;have hn':(l[i]!).name=x.name:=of_decide_eq_true hn;rw [o6 c2] at hn';have e:l=l.take i++l[i]::l.drop (i+1):=lh;rw [e,Az,Bs] at h3;obtain ⟨p1,⟨p2,p3⟩,p4⟩:=h3;rw [eL];refine ⟨fun y hy=>?_,?_,?_⟩
  ·rw [A9,Ay,Al,zf] at hy;rcases hy with hy|rfl|hy
   ·exact h1 y (An hy)
   ·exact hok
   ·exact h1 y (Ax hy)
  ·rw [Ag,Ag,Af,Bc,Aw];omega
  ·refine wU ?_ (fun y hy=>?_) (fun y hy=>?_)
   ·rw [Az];exact ⟨p1,p3,fun y hy z hz=>p4 y hy z (Bd _ hz)⟩
   ·have:=p4 y hy l[i] (List.mem_cons_self ..);rwa [hn'] at this
   ·have:=p2 y hy;rwa [hn'] at this
 ·rw [if_neg c2] at ho ⊢;by_cases c3:16≤l.length
  ·rw [if_pos c3] at ho;cases ho
  rw [if_neg c3];show m9 (pf l x) t=true;unfold pf;obtain ⟨i,he⟩:∃ i,l.findIdx (se x.name)=i:=⟨_,rfl⟩;have hle:=iU l (se x.name);have ha:=fun j=>fL (l:=l) (f:=se x.name) (j:=j);have hat:=iW (l:=l) (f:=se x.name);have hnn:∀ j,j<l.length→¬ (l[j]!).name=x.name:=fun j hj g=>by
   have h4:l.findIdx (qo x.name)=l.length:=Nat.le_antisymm (iU _ _) (Nat.not_lt.1 c2);have:=fL (l:=l) (f:=qo x.name) (j:=j) lf;unfold qo at this;exact of_decide_eq_false this g
  rw [he] at hle ha hat ⊢;rw [eL];unfold wl;have e:l=l.take i++l.drop i:=(A5 i l).symm;refine ⟨fun y hy=>?_,?_,?_⟩
  ·rw [A9,Ay,Al,zf] at hy;rcases hy with hy|rfl|hy
   ·exact h1 y (An hy)
   ·exact hok
   ·exact h1 y (Ax hy)
  ·rw [Ag,Ag,Af,Bc,Aw];omega
  ·refine wU (by rw [← e];exact h3) (fun y hy=>?_) (fun y hy=>?_)
   ·obtain ⟨j,hj,rfl⟩:=Av hy;rw [Af] at hj;rw [List.getElem_take];have g1:=ha j lf;have g2:=hnn j lf;rw [o6 lf] at g1 g2;exact GN (fun g=>by rw [(nA _ _).2 g] at g1;cases g1) g2
   ·obtain ⟨j,hj,rfl⟩:=Av hy;rw [Bc] at hj;rw [List.getElem_drop];have hil:i<l.length:=lf;have g1:=(nA _ _).1 (hat hil);rcases Nat.eq_zero_or_pos j with rfl|aa
    ·rw [o6 hil] at g1;exact g1
    ·have g2:=iZ hri (show i<i+j by omega) lf;rw [o6 (show i+j<l.length by omega)] at g2;exact lI g1 g2
theorem NT {s:mb} (h:mx s) (i:Int) (x:ByteArray):mx (uo s i x).1:=by
 unfold uo;split
 ·exact h
 split
 ·exact h
 split
 ·exact h
 rename_i he
 unfold sb;by_cases ho:(qx s.m ⟨x,i⟩).2=0
 ·show mx (if (qx s.m ⟨x,i⟩).2=0 then _ else _);rw [if_pos ho];exact iK h (rL h.m (aM he) ho)
 ·show mx (if (qx s.m ⟨x,i⟩).2=0 then _ else _);rw [if_neg ho];exact h
theorem DW {s:mb} (h:mx s) (x:ByteArray):mx (sy s x).1:=by
 unfold sy sb;by_cases ho:(pm s.m x).2=0
 ·show mx (if (pm s.m x).2=0 then _ else _);rw [if_pos ho];exact iK h (sM h.m x ho)
 ·show mx (if (pm s.m x).2=0 then _ else _);rw [if_neg ho];exact h
theorem SA {s:mb} (h:mx s) (k i n:Int) (x:ByteArray):mx (xo s k i n x).1:=by
 unfold xo
 repeat' split
 ·exact PP h i x
 ·exact PG h i n
 ·exact NT h i x
 ·exact DW h x
 ·exact uP h
 ·exact wG h
 ·exact qY h
 ·exact qR h
 ·exact h
def xh:mb:=⟨⟨#[]⟩,[],[],[],false,[]⟩
theorem OY:mx xh:=⟨li,Ab _,li,fS _ _,.inl rfl,Ab _,rfl,fS _ _,fun l hl=>absurd hl (by simp [xh]),fun l hl=>absurd hl (by simp [xh]),fun l hl=>absurd hl (by simp [xh])⟩
theorem zT {s:mb} {x:l7} (h:(ph s x).2≠0):(ph s x).1=s:=by
 unfold ph at h ⊢;split
 ·rfl
 ·rename_i c;rw [if_neg c] at h;exact absurd rfl h
theorem RH {s:mb} (h:(ur s i x).2≠0):(ur s i x).1=s:=by
 unfold ur at h ⊢;split
 ·rfl
 split
 ·rfl
 split
 ·rfl
 rename_i a b c
 rw [if_neg a,if_neg b,if_neg c] at h;exact zT h
theorem SB {s:mb} {n:Int} (h:(uu s i n).2≠0):(uu s i n).1=s:=by
 unfold uu at h ⊢;split
 ·rfl
 split
 ·rfl
 split
 ·rfl
 rename_i a b c
 rw [if_neg a,if_neg b,if_neg c] at h;exact zT h
theorem AF {s:mb} {r:List l8×Int} (h:(sb s r).2≠0):(sb s r).1=s:=by
 unfold sb at h ⊢;exact if_neg h
theorem PV {s:mb} (h:(uo s i x).2≠0):(uo s i x).1=s:=by
 unfold uo at h ⊢;split
 ·rfl
 split
 ·rfl
 split
 ·rfl
 rename_i a b c
 rw [if_neg a,if_neg b,if_neg c] at h;exact AF h
theorem QB {s:mb} (h:(pt s).2≠0):(pt s).1=s:=by
 unfold pt at h ⊢;split
 ·rfl
 split
 ·rfl
 rename_i a b
 rw [if_neg a,if_neg b] at h;exact absurd rfl h
theorem QI {s:mb} (h:(pu s).2≠0):(pu s).1=s:=by
 unfold pu at h ⊢;split
 ·rfl
 split
 ·rfl
 rename_i a b
 rw [if_neg a,if_neg b] at h;exact absurd rfl h
theorem ML {s:mb} (h:(tl s).2≠0):(tl s).1=s:=by
 unfold tl at h ⊢;split
 ·rfl
 rename_i a
 rw [if_neg a] at h;exact absurd rfl h
theorem RQ {s:mb} (h:(ss s).2≠0):(ss s).1=s:=by
 unfold ss at h ⊢;split
 ·rfl
 rename_i a
 rw [if_neg a] at h;exact absurd rfl h
theorem ST {s:mb} {k n:Int} (h:(xo s k i n x).2≠0):(xo s k i n x).1=s:=by
 unfold xo at h ⊢;by_cases c1:k=1
 ·rw [if_pos c1] at h ⊢;exact RH h
 rw [if_neg c1] at h ⊢;by_cases c2:k=2
 ·rw [if_pos c2] at h ⊢;exact SB h
 rw [if_neg c2] at h ⊢;by_cases c3:k=3
 ·rw [if_pos c3] at h ⊢;exact PV h
 rw [if_neg c3] at h ⊢;by_cases c4:k=4
 ·rw [if_pos c4] at h ⊢;exact AF h
 rw [if_neg c4] at h ⊢;by_cases c5:k=5
 ·rw [if_pos c5] at h ⊢;exact QB h
 rw [if_neg c5] at h ⊢;by_cases c6:k=6
 ·rw [if_pos c6] at h ⊢;exact QI h
 rw [if_neg c6] at h ⊢;by_cases c7:k=7
 ·rw [if_pos c7] at h ⊢;exact ML h
 rw [if_neg c7] at h ⊢;by_cases c8:k=8
 ·rw [if_pos c8] at h ⊢;exact RQ h
 rw [if_neg c8]
theorem sB {f:List l7→List l7} (hf:∀ l,(f l).length=l.length) {L:List (List l7)} (h:qh f t L=true):∀ l∈L,1≤l.length∧l.length≤32:=by
 induction L generalizing t with
 | nil=>exact fun l hl=>absurd hl lh
 | cons x r ih =>
  cases hx:nb t (f x)
  ·rw [eM hx] at h;cases h
  ·rw [dW hx] at h;intro l hl;rcases zf.1 hl with rfl|hl
   ·have:=dM.1 hx;rw [hf] at this;exact ⟨this.1,this.2.1⟩
   ·exact ih h l hl
theorem mx.ul {s:mb} (h:mx s):s.u.length≤16∧∀ l∈s.u,1≤l.length∧l.length≤32:=by
 obtain ⟨h1,h2⟩:=dQ.1 h.u;exact ⟨h2,fun l hl=>sB aD h1 l (Be.2 hl)⟩
theorem mx.rl {s:mb} (h:mx s):s.r.length≤16∧∀ l∈s.r,1≤l.length∧l.length≤32:=by
 obtain ⟨h1,h2⟩:=dQ.1 h.r;exact ⟨h2,fun l hl=>sB (f:=id) (fun _=>rfl) h1 l (Be.2 hl)⟩
theorem mx.ml {s:mb} (h:mx s):s.m.length≤16:=((aX _ _).1 h.m).2.1
theorem bL {l:List mo} {P:List l7→Prop} (h:∀ x∈mf l,P x):∀ x∈l,P x.l:=fun x hx=>h _ (A7.2 ⟨x,hx,rfl⟩)
end Go.Proofs.YtbagenpobcgjnaaGreat
namespace Go.Proofs.YtbagenpobcgjnaaGreat
variable {T : List Nat}
open Go.RowKit
set_option linter.unusedVariables false
set_option linter.unusedSimpArgs false
structure su (S:List Nat) (w:zh) (x:mo):Prop where
 row:qd w (pj S w) x.a x.l
 nil:x.a=none→x.c=0
structure ug (S:List Nat) (w:zh) (x:qv):Prop where
 row:o7 w (pj S w) x.a x.l
 nil:x.a=none→x.c=0
structure ti (S:List Nat) (w:zh) (x:pa):Prop where
 row:vb w (pj S w) x.a x.l
 all:∀ y∈x.l,su S w y
 nil:x.a=none→x.c=0
 le:x.l.length≤x.c
 cap:x.c≤Ad
structure mq (S:List Nat) (w:zh) (s:lz):Prop where
 m:ug S w s.m
 u:ti S w s.u
 r:ti S w s.r
 g:su S w s.g
theorem oH (hS:∀ i∈S',i∈S∨w.heap.size≤i) (hb:pj S w b):pj S' w b:=⟨hb.1,fun g=>by
 have h1:=hb.1;rcases hS b g with g|g
 ·exact hb.2 g
 ·omega⟩
theorem su.in {x:mo} (h:su S w x):o4 w x:=⟨h.row.more fun _ hb=>hb.1,h.nil⟩
theorem su.apart {x:mo} (h:su S w x) (ha:lu S w w'):su S w' x:=⟨(h.row.keep fun p hp=>ha.cell hp.1 hp.2).more fun b hb=>hb.on ha.size,h.nil⟩
theorem su.wide {x:mo} (h:su S w x) (hS:∀ i∈S',i∈S∨w.heap.size≤i):su S' w x:=⟨h.row.more fun b hb=>oH hS hb,h.nil⟩
theorem su.later {x:mo} (h:su S w x) (hb:Below w w w'):su S w' x:=h.apart (.of_below hb)
theorem o4.bare {x:mo} (h:o4 w x):su [] w x:=⟨h.row.more fun b hb=>⟨hb,lh⟩,h.nil⟩
theorem rm.off {base:Nat} {x:mo} (h:rm w base x) (hS:∀ i∈S,i<base):su S w x:=⟨h.row.more fun b hb=>⟨hb.2,fun g=>by have:=hS b g;have:=hb.1;omega⟩,h.nil⟩
theorem ug.in {x:qv} (h:ug S w x):uv w x:=⟨h.row.more fun _ hb=>hb.1,h.nil⟩
theorem ug.pcs {l:List l8} (h:ug S w ⟨a,l,c⟩):uj w ⟨a,l,c⟩:=⟨h.row.more fun _ hb=>hb.1,h.nil⟩
theorem ug.apart {x:qv} (h:ug S w x) (ha:lu S w w'):ug S w' x:=⟨(h.row.keep fun p hp=>ha.cell hp.1 hp.2).more fun b hb=>hb.on ha.size,h.nil⟩
theorem ug.wide {x:qv} (h:ug S w x) (hS:∀ i∈S',i∈S∨w.heap.size≤i):ug S' w x:=⟨h.row.more fun b hb=>oH hS hb,h.nil⟩
theorem ug.later {x:qv} (h:ug S w x) (hb:Below w w w'):ug S w' x:=h.apart (.of_below hb)
theorem uv.bare {x:qv} (h:uv w x):ug [] w x:=⟨h.row.more fun b hb=>⟨hb,lh⟩,h.nil⟩
theorem sx.off {base:Nat} {l:List l8} (h:sx w base a l c) (hS:∀ i∈S,i<base):ug S w ⟨a,l,c⟩:=⟨h.row.more fun b hb=>⟨hb.2,fun g=>by have:=hS b g;have:=hb.1;omega⟩,h.nil⟩
theorem ti.in {x:pa} (h:ti S w x):nx w x:=⟨h.row.more fun _ hb=>hb.1,fun y hy=>(h.all y hy).in,h.nil,h.le,h.cap⟩
theorem ti.apart {x:pa} (h:ti S w x) (ha:lu S w w'):ti S w' x:=⟨(h.row.keep fun p hp=>ha.cell hp.1 hp.2).more fun b hb=>hb.on ha.size,fun y hy=>(h.all y hy).apart ha,h.nil,h.le,h.cap⟩
theorem ti.wide {x:pa} (h:ti S w x) (hS:∀ i∈S',i∈S∨w.heap.size≤i):ti S' w x:=⟨h.row.more fun b hb=>oH hS hb,fun y hy=>(h.all y hy).wide hS,h.nil,h.le,h.cap⟩
theorem ti.later {x:pa} (h:ti S w x) (hb:Below w w w'):ti S w' x:=h.apart (.of_below hb)
theorem nx.bare {x:pa} (h:nx w x):ti [] w x:=⟨h.row.more fun b hb=>⟨hb,lh⟩,fun y hy=>(h.all y hy).bare,h.nil,h.le,h.cap⟩
theorem sf.off {base:Nat} {x:pa} (h:sf w base x) (hS:∀ i∈S,i<base) (ha:∀ y∈x.l,su S w y):ti S w x:=⟨h.row.more fun b hb=>⟨hb.2,fun g=>by have:=hS b g;have:=hb.1;omega⟩,ha,h.nil,h.le,h.cap⟩
theorem ti.empty (S:List Nat) (w:zh):ti S w ⟨none,[],0⟩:=⟨fun k hk=>absurd hk lh,fun x hx=>absurd hx lh,fun _=>rfl,zj _,Ab _⟩
theorem su.empty (S:List Nat) (w:zh):su S w ⟨none,[],0⟩:=⟨fun k hk=>absurd hk lh,fun _=>rfl⟩
theorem ug.empty (S:List Nat) (w:zh):ug S w ⟨none,[],0⟩:=⟨fun k hk=>absurd hk lh,fun _=>rfl⟩
theorem mq.in {s:lz} (h:mq S w s):n9 w s:=⟨h.m.in,h.u.in,h.r.in,h.g.in⟩
theorem mq.apart {s:lz} (h:mq S w s) (ha:lu S w w'):mq S w' s:=⟨h.m.apart ha,h.u.apart ha,h.r.apart ha,h.g.apart ha⟩
theorem mq.wide {s:lz} (h:mq S w s) (hS:∀ i∈S',i∈S∨w.heap.size≤i):mq S' w s:=⟨h.m.wide hS,h.u.wide hS,h.r.wide hS,h.g.wide hS⟩
theorem mq.later {s:lz} (h:mq S w s) (hb:Below w w w'):mq S w' s:=h.apart (.of_below hb)
theorem n9.bare {s:lz} (h:n9 w s):mq [] w s:=⟨h.m.bare,h.u.bare,h.r.bare,h.g.bare⟩
theorem ti.take {l:List mo} (h:ti S w ⟨a,l,c⟩) (n:Nat):ti S w ⟨a,l.take n,c⟩:=
 ⟨vb.take h.row n,fun x hx=>h.all x (An hx),h.nil,by have:=h.le;show (l.take n).length≤c;rw [Af];have h2:l.length≤c:=this;omega,h.cap⟩
theorem iP {L:List (List l7)} {e:A0} (h:xv w L e w') (hS:∀ i∈S,i<w.heap.size):∃ x:pa,e=zz (yw x.a x.l.length x.c)∧mf x.l=L∧ti S w' x∧Below w w w':=by
 obtain ⟨a,c,l,rfl,hl,hr,⟨g,rfl,hg,ha⟩,-,hb⟩:=h;exact ⟨⟨_,l,c⟩,rfl,hl,hr.off hS fun y hy=>(ha y hy).off fun i hi=>by have:=hS i hi;omega,hb⟩
theorem nT {L:List (List l7)} {s:List l7} {e:A0} (h:RetPop w L s e w') (hS:∀ i∈S,i<w.heap.size):∃ (x:pa) (a2:Option zo) (c2:Nat),e=zz (Ai #[yw x.a x.l.length x.c,oz a2 s.length c2,yy yz 0])∧mf x.l=L∧ti S w' x∧su S w' ⟨a2,s,c2⟩∧Below w w w':=by
 obtain ⟨a,c,l,a2,c2,rfl,hl,hr,ha,h2,hb⟩:=h;exact ⟨⟨a,l,c⟩,a2,c2,rfl,hl,hr.off hS fun y hy=>(ha y hy).off hS,h2.off hS,hb⟩
theorem l9.offb {B:Nat→Prop} {cs:Array zs} (hb:l6 w b cs 100) {m:Bool} (h0:cs[0]? = some (zd m)):∀ {h k:Nat} {L:List ByteArray},l9 w B h k L→l9 w (fun i=>B i∧i≠b) h k L
 | 0,k,L,⟨hk,s,e,hf,hB⟩=>⟨⟨hk,fun g=>by
  subst g;have:=hB.symm.trans hb;cases this⟩,s,e,hf,hB⟩
 | h+1,k,L,⟨hk,K,g,c,h2,h3,h4,h5,e,h6,h7,h8⟩=>⟨⟨hk,fun g=>by
  subst g;have:=h8.symm.trans hb;cases this⟩,K,g,c,h2,h3,h4,fun x hx=>(h5 x hx).offb hb h0,e,⟨h6,fun q=>by
  subst q;have h9:=h7.2 0 (by rw [aP];omega);have h10:=hb.cell 0 _ h0;rw [Bf] at h9;have h11:=h10.symm.trans h9;simp [ns] at h11⟩,h7,h8⟩
theorem n7.apart (h:n7 w r p L s) {cs:Array zs} (hb:l6 w b cs 100) {m:Bool} (h0:cs[0]? = some (zd m)) (ha:lu [b] w w'):n7 w' r p L s:=by
 have hn:∀ i,i<w.heap.size→i≠b→w'.heap[i]? = w.heap[i]? :=fun i hi hne=>ha.block i hi (by simpa using hne);refine ⟨⟨?_,h.x.tight,h.x.txt,h.x.small⟩,?_⟩
 ·rcases h.x.t with t|⟨k,hh,e,hk⟩
  ·exact .inl t
  ·exact .inr ⟨k,hh,e,(((hk.offb hb h0).keep ha.size fun i hi=>hn i hi.1.1 hi.2).weak fun i hi=>hi.1.on ha.size)⟩
 ·rcases h.at' with t|⟨k,e,hl,hc⟩
  ·exact .inl t
  ·refine .inr ⟨k,e,zm hl ha.size,?_⟩;have hne:k≠b:=fun g=>by
    subst g;have:=(hb.cell 0 _ h0).symm.trans hc;cases this
   exact (Bg (w:=w) (hn k hl hne)).trans hc
theorem pw {T:List Nat} (hn:w≤n):∀ i∈b::n::T,i∈b::T∨w≤i:=fun i hi=>by
 simp only [zf] at hi ⊢;rcases hi with rfl|rfl|hi
 ·exact .inl (.inl rfl)
 ·exact .inr hn
 ·exact .inl (.inr hi)
theorem wide3 {m:Nat} {T:List Nat} (hn:w≤m):∀ i∈b::n::m::T,i∈b::n::T∨w≤i:=fun i hi=>by
 simp only [zf] at hi ⊢;rcases hi with rfl|rfl|rfl|hi
 ·exact .inl (.inl rfl)
 ·exact .inl (.inr (.inl rfl))
 ·exact .inr hn
 ·exact .inl (.inr (.inr hi))
abbrev edC (made:Bool) (r:Option zo) (t:ByteArray) (m:qv) (u ro:pa) (o:Bool) (g:mo):Array zs:=#[zd made,ze r,yx t,yw m.a m.l.length m.c,yw u.a u.l.length u.c,yw ro.a ro.l.length ro.c,zd o,yw g.a g.l.length g.c]
structure nz (T:List Nat) (w:zh) (b:Nat) (s:lz) (rb:Nat) (p:Option zo) (L:List ByteArray):Prop where
 blk:l6 w b (edC true (some ⟨rb,0,none⟩) ⟨#[]⟩ s.m s.u s.r s.o s.g) 100
 rope:n7 w (some ⟨rb,0,none⟩) p L s.t
 rows:mq (b::T) w s
 ml:s.m.l.length≤s.m.c
 mc:s.m.c≤Ad
 inv:mx s.d
 tlt:∀ i∈T,i<w.heap.size
theorem nz.lt {s:lz} (h:nz T w b s rb p L):b<w:=h.blk.lt
theorem nz.later {s:lz} (h:nz T w b s rb p L) (hb:Below w w w'):nz T w' b s rb p L:=⟨h.blk.onto hb,h.rope.later hb,h.rows.later hb,h.ml,h.mc,h.inv,fun i hi=>zm (h.tlt i hi) hb.size⟩
def nk (T:List Nat) (w:zh) (b:Nat) (r:mb×Int) (e:A0) (w':zh):Prop:=∃ (s':lz) (rb':Nat) (p':Option zo) (L':List ByteArray),e=zz (yy yz r.2)∧nz T w' b s' rb' p' L'∧s'.d=r.1∧lu [b] w w'
theorem l6.eight {x4 x5 x6 x7:zs} {t:Aa} (h:l6 w b #[x0,x1,x2,x3,x4,x5,x6,x7] t) :
 w ⟨b,0,none⟩=some x0∧w ⟨b,1,none⟩=some x1∧w ⟨b,2,none⟩=some x2∧w ⟨b,3,none⟩=some x3∧w ⟨b,4,none⟩=some x4∧w ⟨b,5,none⟩=some x5∧w ⟨b,6,none⟩=some x6∧w ⟨b,7,none⟩=some x7:=
 ⟨h.cell 0 _ rfl,h.cell 1 _ rfl,h.cell 2 _ rfl,h.cell 3 _ rfl,h.cell 4 _ rfl,h.cell 5 _ rfl,h.cell 6 _ rfl,h.cell 7 _ rfl⟩
theorem l6.all8 {x4 x5 x6 x7:zs} {t:Aa} (h:l6 w b #[x0,x1,x2,x3,x4,x5,x6,x7] t) :
 w ⟨b,0,none⟩=some x0∧w ⟨b,1,none⟩=some x1∧w ⟨b,2,none⟩=some x2∧w ⟨b,3,none⟩=some x3∧w ⟨b,4,none⟩=some x4∧w ⟨b,5,none⟩=some x5∧w ⟨b,6,none⟩=some x6∧w ⟨b,7,none⟩=some x7 ∧
 w.frozen? ⟨b,0,none⟩=false∧w.frozen? ⟨b,1,none⟩=false∧w.frozen? ⟨b,2,none⟩=false∧w.frozen? ⟨b,3,none⟩=false∧w.frozen? ⟨b,4,none⟩=false∧w.frozen? ⟨b,5,none⟩=false∧w.frozen? ⟨b,6,none⟩=false∧w.frozen? ⟨b,7,none⟩=false:=
 ⟨h.cell 0 _ rfl,h.cell 1 _ rfl,h.cell 2 _ rfl,h.cell 3 _ rfl,h.cell 4 _ rfl,h.cell 5 _ rfl,h.cell 6 _ rfl,h.cell 7 _ rfl,h.free 0,h.free 1,h.free 2,h.free 3,h.free 4,h.free 5,h.free 6,h.free 7⟩
theorem l6.all6 {x4 x5:zs} {t:Aa} (h:l6 w b #[x0,x1,x2,x3,x4,x5] t) :
 w ⟨b,0,none⟩=some x0∧w ⟨b,1,none⟩=some x1∧w ⟨b,2,none⟩=some x2∧w ⟨b,3,none⟩=some x3∧w ⟨b,4,none⟩=some x4∧w ⟨b,5,none⟩=some x5 ∧
 w.frozen? ⟨b,0,none⟩=false∧w.frozen? ⟨b,1,none⟩=false∧w.frozen? ⟨b,2,none⟩=false∧w.frozen? ⟨b,3,none⟩=false∧w.frozen? ⟨b,4,none⟩=false∧w.frozen? ⟨b,5,none⟩=false:=
 ⟨h.cell 0 _ rfl,h.cell 1 _ rfl,h.cell 2 _ rfl,h.cell 3 _ rfl,h.cell 4 _ rfl,h.cell 5 _ rfl,h.free 0,h.free 1,h.free 2,h.free 3,h.free 4,h.free 5⟩
theorem l6.all4 {t:Aa} (h:l6 w b #[x0,x1,x2,x3] t) :
 w ⟨b,0,none⟩=some x0∧w ⟨b,1,none⟩=some x1∧w ⟨b,2,none⟩=some x2∧w ⟨b,3,none⟩=some x3 ∧
 w.frozen? ⟨b,0,none⟩=false∧w.frozen? ⟨b,1,none⟩=false∧w.frozen? ⟨b,2,none⟩=false∧w.frozen? ⟨b,3,none⟩=false:=
 ⟨h.cell 0 _ rfl,h.cell 1 _ rfl,h.cell 2 _ rfl,h.cell 3 _ rfl,h.free 0,h.free 1,h.free 2,h.free 3⟩
theorem l6.all3 {t:Aa} (h:l6 w b #[x0,x1,x2] t) :
 w ⟨b,0,none⟩=some x0∧w ⟨b,1,none⟩=some x1∧w ⟨b,2,none⟩=some x2 ∧
 w.frozen? ⟨b,0,none⟩=false∧w.frozen? ⟨b,1,none⟩=false∧w.frozen? ⟨b,2,none⟩=false:=
 ⟨h.cell 0 _ rfl,h.cell 1 _ rfl,h.cell 2 _ rfl,h.free 0,h.free 1,h.free 2⟩
theorem l6.all1 {t:Aa} (h:l6 w b #[x0] t) :
 w ⟨b,0,none⟩=some x0 ∧
 w.frozen? ⟨b,0,none⟩=false:=
 ⟨h.cell 0 _ rfl,h.free 0⟩
theorem xi (w:zh) (A B C:Array zs) (ta tb tc:Aa):∃ W,((w.alloc (zk A ta)).alloc (zk B tb)).alloc (zk C tc)=W∧l6 W w A ta∧l6 W (w+1) B tb∧l6 W (w+1+1) C tc∧Below w w W∧W.heap.size=w+1+1+1:=by
 have e1:(w.alloc (zk A ta)).heap.size=w+1:=lh;have h2:=l6.new (w.alloc (zk A ta)) B tb;have h3:=l6.new ((w.alloc (zk A ta)).alloc (zk B tb)) C tc;rw [e1] at h2;rw [Bt,e1] at h3;exact ⟨_,rfl,((l6.new w A ta).alloc _).alloc _,h2.alloc _,h3,(qj w _ _).trans ((ni _ _).mono lq),lh⟩
theorem vk (w:zh) (A B:Array zs) (ta tb:Aa):∃ W,(w.alloc (zk A ta)).alloc (zk B tb)=W∧l6 W w A ta∧l6 W (w+1) B tb∧Below w w W∧W.heap.size=w+1+1:=by
 have h2:=l6.new (w.alloc (zk A ta)) B tb;rw [Bt] at h2;exact ⟨_,rfl,(l6.new w A ta).alloc _,h2,qj w _ _,lh⟩
theorem nu (w:zh) (A:Array zs) (ta:Aa):∃ W,w.alloc (zk A ta)=W∧l6 W w A ta∧Below w w W∧W.heap.size=w+1:=⟨_,rfl,l6.new w A ta,ni w _,lh⟩
theorem gR (hS:qf S w) (hW:W.heap.size=n+1+1+1) (hn:w=n):∀ i∈(n::(n+1)::(n+1+1)::S),i<W.heap.size:=fun i hi=>by
 simp only [zf] at hi;rcases hi with rfl|rfl|rfl|hi
 ·omega
 ·omega
 ·omega
 ·have:=hS i hi;omega
end Go.Proofs.YtbagenpobcgjnaaGreat
namespace Go.Proofs.YtbagenpobcgjnaaGreat
open Go.RowKit
set_option linter.unusedVariables false
def qw (s:mb) (x:oo×Int):mb×Int:=if x.2=0 then xo s x.1.k x.1.a x.1.n x.1.s else (s,x.2)
def pk:mb→List (oo×Int)→mb×Nat×Int
 | s,[]=>(s,0,0)
 | s,x::t=>if (qw s x).2=0 then ((pk (qw s x).1 t).1,(pk (qw s x).1 t).2.1+1,(pk (qw s x).1 t).2.2) else (s,0,(qw s x).2)
def rr:mb→List (oo×Int)→List mb
 | s,[]=>[s]
 | s,x::t=>if (qw s x).2=0 then s::rr (qw s x).1 t else [s]
theorem wY {s:mb} (h:mx s) (x:oo×Int):mx (qw s x).1:=by
 unfold qw;split
 ·exact SA h _ _ _ _
 ·exact h
theorem KX (s:mb) (l:List (oo×Int)):(rr s l)[0]? = some s:=by
 cases l with
 | nil=>rfl
 | cons x t=>unfold rr;split <;> rfl
theorem zU (l:List (oo×Int)):∀ s:mb,(rr s l).length=(pk s l).2.1+1:=by
 induction l with
 | nil=>intro s;rfl
 | cons x t ih =>
  intro s;unfold rr pk;split
  ·rw [Bu,ih]
  ·rfl
structure wz (s:mb) (l:List (oo×Int)) (k:Nat) (t:mb):Prop where
 le:k≤l.length
 run:pk s l=((pk t (l.drop k)).1,k+(pk t (l.drop k)).2.1,(pk t (l.drop k)).2.2)
 all:∃ pre:List mb,pre.length=k∧rr s l=pre++rr t (l.drop k)
 inv:mx s→mx t
theorem wz.zero (s:mb) (l:List (oo×Int)):wz s l 0 s:=⟨Ab _,lh,⟨[],rfl,rfl⟩,id⟩
theorem wz.step {s t:mb} {l:List (oo×Int)} (h:wz s l k t) (hk:k<l.length) (h0:(qw t l[k]).2=0):wz s l (k+1) (qw t l[k]).1:=by
 have e:=Bv hk;obtain ⟨pre,hp,ha⟩:=h.all;have h1:=h.run;rw [e] at h1 ha;simp only [pk,rr,if_pos h0] at h1 ha;refine ⟨hk,?_,⟨pre++[t],by simp [hp],by rw [ha];simp⟩,fun hs=>wY (h.inv hs) _⟩;rw [h1];refine Prod.ext rfl (Prod.ext ?_ rfl);simp only;omega
theorem wz.no {s t:mb} {l:List (oo×Int)} (h:wz s l k t) (hk:k<l.length) (h0:(qw t l[k]).2≠0):pk s l=(t,k,(qw t l[k]).2):=by
 have h1:=h.run;rw [Bv hk] at h1;simp only [pk,if_neg h0] at h1;exact h1
theorem wz.done {s t:mb} {l:List (oo×Int)} (h:wz s l k t) (hk:k=l.length):pk s l=(t,k,0):=by
 have h1:=h.run;rw [List.drop_of_length_le lf] at h1;exact h1
theorem wz.get {s t:mb} {l:List (oo×Int)} (h:wz s l k t):(rr s l)[k]? = some t:=by
 obtain ⟨pre,hp,ha⟩:=h.all;rw [ha,List.getElem?_append_right lf,hp,Nat.sub_self,KX]
theorem wz.most {s t:mb} {l:List (oo×Int)} (h:wz s l k t):k≤(pk s l).2.1:=by rw [h.run];exact Nat.le_add_right _ _
def qy (l:List oo):List (oo×Int):=l.map fun x=>(x,0)
theorem gU (l:List oo):(qy l).length=l.length:=by unfold qy;simp
theorem vL (l:List oo) (k:Nat) (h:k<(qy l).length):(qy l)[k]=(l[k]'(by rw [gU] at h;exact h),0):=List.getElem_map _
open Go.Proofs.Tryz
set_option maxRecDepth 100000
open Lib (hid)
set_option linter.unusedSimpArgs false
attribute [local go_sem] Oper.semAt_some
abbrev encO (x:oo×Int):Array zs:=#[zu #[yy yz x.1.k,yy yz x.1.a,yy yz x.1.n,yx x.1.s],yy yz x.2]
def YO (xs:List (oo×Int)) (k:Nat) (x:oo×Int) (k':Nat) (_:zh):Prop:=∃ h:k<xs.length,x=xs[k]∧k'=k+1
theorem YO.firm (xs:List (oo×Int)) (l k:Nat) (x:oo×Int) (k':Nat):Firm l (YO xs k x k'):=Firm.const l _
def te (D:Nat→Prop) (w W:zh):Prop:=w.heap.size≤W∧∀ k,D k→k<w.heap.size→W.heap[k]? = w.heap[k]?
theorem te.trans {C:zh} (h:te D A B) (k:te D B C):te D A C:=⟨zg h.1 k.1,fun i hi hl=>(k.2 i hi (zm hl h.1)).trans (h.2 i hi hl)⟩
theorem te.of_apart (h:lu S A B) (hS:∀ x∈S,¬ D x):te D A B:=⟨h.size,fun k hk hl=>h.block k hl fun g=>hS k g hk⟩
theorem te.of_below (h:Below A A B):te D A B:=.of_apart (S:=[]) (.of_below h) lh
def vc (gf:Nat) (lb:Array zs) (xs:List (oo×Int)) (D:Nat→Prop) (w:zh):Prop:=
 ∀ (W:zh) (m l:Nat) (S:List Nat),te D w W→(∀ x∈S,¬ D x)→yh prog m l gf lb encO (YO xs) (fun _=>True) (fun A B=>Below A A B) S 0 xs.length W
theorem vc.later {gf:Nat} {lb:Array zs} {xs:List (oo×Int)} (h:vc gf lb xs D w) (hb:te D w w'):vc gf lb xs D w':=fun W m l S hW hS=>h W m l S (hb.trans hW) hS
theorem sU {l:List oo} (h:qk A D a l) (hD:∀ k,D k→k<A.heap.size) (hS:∀ x∈S,¬ D x) (hm:lu S A B):qk B D a l:=h.keep fun p hp=>hm.cell (hD _ hp) (fun g=>hS _ g hp)
set_option maxHeartbeats 1600000 in
theorem xB (l:List oo) (a:Option zo) (c n:Nat) {bl:Nat} (hr:qk w D a l) (hn:l.length=n) (hbx:Boxed w bl 27 (yw a n c)) (hb0:D bl) (hD:∀ k,D k→k<w.heap.size) (hz:n≤1000000) :
 vc 36 #[ze (some ⟨bl,0,none⟩)] (qy l) D w:=by
 intro W m lp S hW hS J Jx hJ hJx hY h0;have hrW:qk W D a l:=hr.keep fun p hp=>Bg (hW.2 p.block hp (hD _ hp));have hbW:Boxed W bl 27 (yw a n c):=(hW.2 bl hb0 (hD _ hb0)).trans hbx;have q0:=hbW.cell;have hsz:=hW.1;have hlen:=gU l;have aj:=yv hrW;have HY:=yv hY;have HJ:=yv hJ;have HN:=yv hn;have HS:=yv hS;have H0:=yv h0;have aa:=yv hlen;have ag:=yv hD;clear hr hbx hrW hbW hY hJ hn hS h0 hJx hW hlen hD;refine callsIn_of_wp func36 rfl trivial ?_ rfl;simp only [ntmps36,List.size_toArray,Bu,List.length_nil,Nat.reduceAdd,Nat.reduceSub,Array.replicate_succ,Array.replicate_zero,List.push_toArray,List.append_toArray,List.nil_append,List.cons_append]
 gi_wp2
 gi_loopw [7] (fun i wr=>∃ k:Nat,i=yy yz k∧k≤n∧J k wr∧W.heap.size≤wr∧qk wr D a l) (fun i _=>n - (intOf i).toNat)
 case atStart=>exact ⟨0,rfl,Ab _,H0.out,zj _,aj.out⟩
 case round =>
  obtain ⟨k,rfl,hk,hj,hs,ho⟩:=hrel;by_cases hlt:k<n
  ·have hkl:k<l.length:=by rw [HN.out];exact hlt
   obtain ⟨ad,rfl,hab,q0,q1,q2,q3⟩:=ho k hkl;have hbx:=ni wr (zk #[yy yz l[k].k,yy yz l[k].a,yy yz l[k].n,yx l[k].s] 50);have hx:(qy l)[k]'(by rw [aa.out];exact hkl)=(l[k],0):=vL l k _;have hy:=HY.out k (l[k],0) (k+1) _ ⟨by rw [aa.out];exact hkl,hx.symm,rfl⟩ (HJ.out _ _ _ hj hbx);have ab:=sU (S:=[]) ho (fun k hk=>by have:=ag.out k hk;omega) lh (.of_below hbx);have ac:=zg hs hbx.size;generalize l[k]=x at q0 q1 q2 q3 hy ab ac;obtain ⟨xk,xa,xn,xs⟩:=x;simp only at q0 q1 q2 q3 hy ab ac;obtain ⟨fn,tmps,assign,body,hyr,hR⟩:=dL hy;have b0:(0:Int)≤(k:Int):=lf;have b1:(k:Int)<(n:Int):=lf;have HR:=yv hR;have HO:=yv ab;have ah:=yv ac;clear hy hR ho hj hbx hx hab ab ac
   gi_wp2_with fail
   refine ⟨fun e=>(by cases e),(HR.out none _).mono ?_⟩;rintro e W4 (⟨rfl,ai,ae⟩|⟨rfl,ak,ae⟩)
   ·have af:=yv ai;have al:=yv (zg ah.out ae.apart.size);have am:=yv (sU HO.out (fun k hk=>zm (ag.out k hk) (zg hsz ah.out)) HS.out ae.apart);clear ai ae HR HO
    gi_wp2
    go_roundw
    case rel=>exact ⟨k+1,by go_num,lf,af.out,al.out,am.out⟩
    case measure=>simp [intOf];omega
   ·gi_wp2
    refine Ak (results_none rfl _ _ _) rfl ?_;exact ⟨⟨_,rfl⟩,.inr ak⟩
  ·obtain rfl:k=n:=lf;have af:=yv hj;clear hj ho
   gi_wp2
   go_end0
   exact ⟨⟨_,rfl⟩,.inl ⟨by rw [aa.out,HN.out];exact af.out,trivial⟩⟩
theorem sL (l:List oo) (a:Option zo) (c n:Nat) (w:zh):zn prog 20 #[yw a n c] w fun e w'=>e=zz (.func (.func 36) #[] #[ze (some ⟨w,0,none⟩)])∧w'=w.alloc (zk #[yw a n c] 27):=by
 have hmf:∀ (fn:Fn) (first cap:Array zs) (w:zh),(Instr.makeFunc fn first cap).run prog w=.ok (.func fn first cap) w:=fun _ _ _ _=>rfl;go_enter func20,ntmps20;go_wp2;go_ret;exact ⟨rfl,rfl⟩
theorem mx.shown {s:mb} (h:mx s) {l:List l7} (hr:mu s.t l=(t',0)):∀ k,k≤l.length→∀ y∈rq s.m (l.take k),-2305843009213693952≤y.p∧y.p≤2305843009213693952:=fun k hk y hy=>by
 obtain ⟨u,hu,-⟩:=wT hr k;have hm:=mN h.v h.z hu h.m;have hz:=(jX h.v h.z hu).2.1;have:=xI hm y hy;omega
theorem mx.edz {s:mb} (h:mx s) {l:List l7} (hl:∀ x∈l,pb x=true):sc l 140737488355328:=fun x hx=>by
 have:=(cQ x).1 (hl x hx);omega
theorem mx.marks {s:mb} (h:mx s):∀ y∈s.m,-2305843009213693952≤y.p∧y.p≤2305843009213693952:=fun y hy=>by
 have:=xI h.m y hy;have:=h.z;omega
theorem tX {l:List l7} (h:∀ x∈l,pb x=true):∀ x∈me l,pb x=true:=fun x hx=>by
 unfold me at hx;obtain ⟨y,hy,rfl⟩:=A7.1 (Be.1 hx);have:=(cQ y).1 (h y hy);exact (cQ _).2 ⟨this.2.1,this.1,this.2.2.elim .inr .inl⟩
theorem l6.apart {cs:Array zs} {t:Aa} (h:l6 w b cs t) (ha:lu S w w') (hb:b ∉ S):l6 w' b cs t:=(ha.block b h.lt hb).trans h
theorem eone {B:Nat→Prop} {p:Int} {o n:ByteArray} {t:Aa} (h:l6 w b #[yy yz p,yx o,yx n] t) (hB:B b):qd w B (some ⟨b,0,none⟩) [⟨p,o,n⟩]:=fun k hk=>by
 obtain rfl:k=0:=by simpa using hk
 exact ⟨⟨b,0,none⟩,rfl,hB,h.cell 0 _ rfl,h.cell 1 _ rfl,h.cell 2 _ rfl⟩
theorem sX {p:zo} {v:zs} (h:w p=some v) {o:Obj} (hl:w.heap[p.block]? = some o) (ho:o.isCells=false):False:=by
 unfold Aj at h;rw [hl] at h;cases o <;> simp_all [Obj.isCells]
theorem qC {x:Nat} (hp:rf w x) (h:w ⟨x,0,none⟩=some (ze p)):False:=by
 have hlt:=World.block_lt_of_cell? w _ h;have hlt:x<w:=hlt;obtain ⟨o,ho⟩:∃ o,w.heap[x]? = some o:=⟨_,Array.getElem?_eq_getElem hlt⟩;cases o with
 | cells cs t z =>
  refine (hp cs t z ho).2 p ?_;unfold Aj at h;rw [ho] at h;simpa using h
 | _=>exact sX h ho rfl
theorem l9.offp {B Q:Nat→Prop} (hp:∀ x,Q x→rf w x):∀ {h k:Nat} {L:List ByteArray},l9 w B h k L→l9 w (fun i=>B i∧¬ Q i) h k L
 | 0,k,L,⟨hk,s,e,hf,hB⟩=>⟨⟨hk,fun g=>(hp k g _ _ _ hB).1 rfl⟩,s,e,hf,hB⟩
 | h+1,k,L,⟨hk,K,g,c,h2,h3,h4,h5,e,h6,h7,h8⟩=>⟨⟨hk,fun q=>(hp k q _ _ _ h8).1 rfl⟩,K,g,c,h2,h3,h4,fun x hx=>(h5 x hx).offp hp,e,⟨h6,fun q=>by
  have h9:=h7.2 0 (by rw [aP];omega);rw [Bf] at h9;have:∃ p,w ⟨g,0,none⟩=some (ze p):=by
   rw [h9];unfold ns;simp
  obtain ⟨p,hp'⟩:=this;exact qC (hp g q) hp'⟩,h7,h8⟩
theorem oi.kept (hm:oi S w w') {i:Nat} (hi:i<w) (hn:¬ rf w i):w'.heap[i]? = w.heap[i]? :=by
 by_cases hs:i∈S
 ·exact (hm.plain i hs).resolve_left hn
 ·exact hm.apart.block i hi hs
theorem n7.mild (h:n7 w r p L s) (hm:oi S w w'):n7 w' r p L s:=by
 refine ⟨⟨?_,h.x.tight,h.x.txt,h.x.small⟩,?_⟩
 ·rcases h.x.t with t|⟨k,hh,e,hk⟩
  ·exact .inl t
  ·exact .inr ⟨k,hh,e,(((hk.offp (Q:=rf w) fun _ h=>h).keep hm.apart.size fun i hi=>hm.kept hi.1.1 hi.2).weak fun i hi=>hi.1.on hm.apart.size)⟩
 ·rcases h.at' with t|⟨k,e,hl,hc⟩
  ·exact .inl t
  ·exact .inr ⟨k,e,zm hl hm.apart.size,(Bg (w:=w) (a:=⟨k,0,none⟩) (hm.kept hl (fun g=>qC g hc))).trans hc⟩
section
variable {T S : List Nat} {w w' : World} {b : Nat} {s : lz} {rb : Nat} {p : Option Addr} {L : List ByteArray}
theorem nz.mild (h:nz T w b s rb p L) (hS:∀ x∈S,x∈T) (hb:b ∉ S) (hm:oi S w w'):nz T w' b s rb p L:=
 ⟨h.blk.apart hm.apart hb,h.rope.mild hm,h.rows.apart (hm.apart.more fun i hi=>Bd _ (hS i hi)),h.ml,h.mc,h.inv,fun i hi=>zm (h.tlt i hi) hm.apart.size⟩
theorem nz.less {T':List Nat} (h:nz T w b s rb p L) (hT:∀ x∈T',x∈T):nz T' w b s rb p L:=
 ⟨h.blk,h.rope,h.rows.wide fun i hi=>by simp only [zf] at hi ⊢;exact hi.elim (fun e=>.inl (.inl e)) (fun g=>.inl (.inr (hT i g))),h.ml,h.mc,h.inv,fun i hi=>h.tlt i (hT i hi)⟩
theorem nz.grow {T':List Nat} (h:nz T w b s rb p L) (hb:Below w w w') (hT:∀ x∈T',x∈T∨w.heap.size≤x) (hz:∀ x∈T',x<w'.heap.size):nz T' w' b s rb p L:=
 ⟨h.blk.onto hb,h.rope.later hb,(h.rows.wide fun i hi=>by simp only [zf] at hi ⊢;exact hi.elim (fun e=>.inl (.inl e)) (fun g=>(hT i g).elim (fun g=>.inl (.inr g)) .inr)).later hb,h.ml,h.mc,h.inv,hz⟩
theorem qK {o:Obj} (hl:w.heap[l]? = some o) (ho:o.isCells=false) {i:Nat} (hi:pj S w i) {q:zo} {v:zs} (hq:q.block=i) (hc:w q=some v):pj (l::S) w i:=⟨hi.1,fun g=>by
 rcases zf.1 g with rfl|g
 ·exact sX hc (by rw [hq];exact hl) ho
 ·exact hi.2 g⟩
theorem su.non {x:mo} {o:Obj} (h:su S w x) (hl:w.heap[l]? = some o) (ho:o.isCells=false):su (l::S) w x:=⟨fun k hk=>by
 obtain ⟨ad,e,hb,q,r⟩:=h.row k hk;exact ⟨ad,e,qK hl ho hb (aI ad _) q,q,r⟩,h.nil⟩
theorem ug.non {x:qv} {o:Obj} (h:ug S w x) (hl:w.heap[l]? = some o) (ho:o.isCells=false):ug (l::S) w x:=⟨fun k hk=>by
 obtain ⟨ad,e,hb,q,r⟩:=h.row k hk;exact ⟨ad,e,qK hl ho hb (aI ad _) q,q,r⟩,h.nil⟩
theorem ti.non {x:pa} {o:Obj} (h:ti S w x) (hl:w.heap[l]? = some o) (ho:o.isCells=false):ti (l::S) w x:=⟨fun k hk=>by
 obtain ⟨ad,e,hb,q⟩:=h.row k hk;exact ⟨ad,e,qK hl ho hb (aI ad _) q,q⟩,fun y hy=>(h.all y hy).non hl ho,h.nil,h.le,h.cap⟩
theorem mq.non {o:Obj} (h:mq S w s) (hl:w.heap[l]? = some o) (ho:o.isCells=false):mq (l::S) w s:=⟨h.m.non hl ho,h.u.non hl ho,h.r.non hl ho,h.g.non hl ho⟩
theorem mq.putn {o:Obj} (h:mq S w s) (hl:w.heap[l]? = some o) (ho:o.isCells=false) (o':Obj):mq S (w.putObj l o') s:=
 mq.wide ((h.non hl ho).apart (S:=l::S) ⟨rfl,rfl,rfl,lh,fun k _ hn=>Bx (fun e=>hn (by simp [e]))⟩) fun i hi=>.inl (Bd _ hi)
theorem nz.put {o:Obj} (h:nz T w b s rb p L) (hl:w.heap[l]? = some o) (ho:o.isCells=false) (o':Obj):nz T (w.putObj l o') b s rb p L:=by
 have hm:oi [l] w (w.putObj l o'):=⟨⟨rfl,rfl,rfl,lh,fun k _ hn=>Bx (by simpa using hn)⟩,fun x hx=>.inl (fun cs t z hc=>by rw [Ah.1 hx,hl] at hc;cases hc;cases ho)⟩;have hbl:b ∉ [l]:=fun g=>by
  have e:=h.blk;rw [Ah] at g;subst g;have e2:w.heap[b]? = _:=e;rw [hl] at e2;cases e2;cases ho
 exact ⟨h.blk.apart hm.apart hbl,h.rope.mild hm,h.rows.putn hl ho o',h.ml,h.mc,h.inv,fun i hi=>by rw [World.putObj_size];exact h.tlt i hi⟩
end
section
variable (made : Bool) (r : Option Addr) (t : ByteArray) (ma : Option Addr) (mn mc : Nat) (ua : Option Addr) (un uc : Nat) (ra : Option Addr) (rn rc : Nat) (o : Bool) (ga : Option Addr) (gn gc : Nat)
abbrev edN:zs:=zu #[zd made,ze r,yx t,yw ma mn mc,yw ua un uc,yw ra rn rc,zd o,yw ga gn gc]
theorem GE (w:zh):(Instr.field 100 (edN made r t ma mn mc ua un uc ra rn rc o ga gn gc) 0).run prog w=.ok (zd made) w:=lg
theorem SH (w:zh):(Instr.field 100 (edN made r t ma mn mc ua un uc ra rn rc o ga gn gc) 1).run prog w=.ok (ze r) w:=lg
theorem QT (w:zh):(Instr.field 100 (edN made r t ma mn mc ua un uc ra rn rc o ga gn gc) 2).run prog w=.ok (zu #[yx t,yw ma mn mc,yw ua un uc,yw ra rn rc,zd o,yw ga gn gc]) w:=lg
end
structure Nw (w:zh) (e:Option zo) (v:zs):Prop where
 out:∀ W,Below w w W→zn prog 57 #[ze e] W fun x W'=>x=zz v∧Below W.heap.size W W'
theorem Nw.later {e:Option zo} {v:zs} (h:Nw w e v) (hb:Below w w W):Nw W e v:=⟨fun W' hW'=>h.out W' (hb.trans (hW'.mono hb.size))⟩
set_option maxHeartbeats 800000 in
theorem oT {ma:Option zo} {mn mc:Nat} {ua:Option zo} {un uc:Nat} {ra:Option zo} {rn rc:Nat} {ga:Option zo} {gn gc:Nat}
 (h:l6 w b #[zd made,ze r,yx t,yw ma mn mc,yw ua un uc,yw ra rn rc,zd o,yw ga gn gc] 100) :
 zn prog 57 #[ze (some ⟨b,0,none⟩)] w fun x w'=>x=zz (edN made r t ma mn mc ua un uc ra rn rc o ga gn gc)∧Below w w w':=by
 obtain ⟨p0,p1,p2,p3,p4,p5,p6,p7⟩:=h.alloc (zk #[zd false,ze none,yx ⟨#[]⟩,yw none 0 0,yw none 0 0,yw none 0 0,zd false,yw none 0 0] 100) |>.eight;clear h;go_enter func57,ntmps57;go_wp2;refine Ak (results_cell_row (P:=prog) (fn:=Tryz.f57) (p:=2) (ty:=100) rfl _ _ w.heap.size 100 _ (0,0) _ rfl (l6.new _ _ _) underlying100 rfl lg) rfl ?_;exact ⟨rfl,ni _ _⟩
theorem Nw.some {ma:Option zo} {mn mc:Nat} {ua:Option zo} {un uc:Nat} {ra:Option zo} {rn rc:Nat} {ga:Option zo} {gn gc:Nat}
 (h:l6 w b #[zd made,ze r,yx t,yw ma mn mc,yw ua un uc,yw ra rn rc,zd o,yw ga gn gc] 100):Nw w (.some ⟨b,0,none⟩) (edN made r t ma mn mc ua un uc ra rn rc o ga gn gc):=⟨fun W hW=>oT (h.onto hW)⟩
section
variable {w : World} {e : Option Addr} {made : Bool} {r : Option Addr} {t : ByteArray} {ma : Option Addr} {mn mc : Nat} {ua : Option Addr} {un uc : Nat} {ra : Option Addr} {rn rc : Nat} {o : Bool} {ga : Option Addr} {gn gc : Nat}
set_option maxHeartbeats 800000 in
theorem AA (h:Nw w e (edN made r t ma mn mc ua un uc ra rn rc o ga gn gc)) :
 zn prog 58 #[ze e] w fun x w'=>x=zz (ze r)∧Below w w w':=by
 have cn:=h.out w (Below.refl _ _);have cf:=SH made r t ma mn mc ua un uc ra rn rc o ga gn gc;have CN:=yv cn;clear cn h;go_enter func58,ntmps58;go_wp2_with fail;refine CN.out.mono ?_;rintro x w1 ⟨rfl,aa⟩;go_wp2;go_ret;exact ⟨rfl,aa⟩
set_option maxHeartbeats 800000 in
theorem pM (h:Nw w e (edN made r t ma mn mc ua un uc ra rn rc o ga gn gc)) (hr:n7 w r p L s) :
 zn prog 149 #[ze e] w fun x w'=>x=zz (yy yz s.size)∧Below w w w':=by
 have cn:=AA h;have cl:=fun W (hW:Below w w W)=>uE (hr.later hW);have CN:=yv cn;have CL:=yv cl;clear cn cl h hr;go_enter func149,ntmps149;go_wp2_with fail;refine CN.out.mono ?_;rintro x w1 ⟨rfl,aa⟩;have ab:=yv aa;clear aa;go_wp2_with fail;refine (my ab.out (CL.out _ ab.out)).mono ?_;rintro x w2 ⟨rfl,ac⟩;go_wp2;go_ret;exact ⟨rfl,ac⟩
end
end Go.Proofs.YtbagenpobcgjnaaGreat
namespace Go.Proofs.YtbagenpobcgjnaaGreat
open Go.Proofs.Tryz
set_option maxRecDepth 100000
open Lib (hid)
variable {T : List Nat}
open Go.RowKit
set_option linter.unusedVariables false
set_option linter.unusedSimpArgs false
set_option maxHeartbeats 1600000 in
theorem zL {m:qv} {u ro:pa} {g:mo} (hk:l6 w b (edC made r t m u ro o g) 100) (hT:qf T w) (hu:ti (b::T) w u) (y:mo) (hy:su (b::T) w y) (hl:u.l.length≤900) (hb:∀ x∈u.l,x.l.length≤1000000) (hb2:y.l.length≤1000000) :
 zn prog 155 #[ze (some ⟨b,0,none⟩),oz y.a y.l.length y.c] w fun e w'=>e=zz (Ai #[])∧∃ u':pa,mf u'.l=np (mf u.l) y.l∧l6 w' b (edC made r t m u' ro o g) 100∧ti (b::T) w' u'∧lu [b] w w':=by
 have hbl:b<w:=hk.lt;obtain ⟨ya,yl,yc⟩:=y;obtain ⟨n,hn⟩:∃ n,yl.length=n:=⟨_,rfl⟩;dsimp only at hb2 ⊢;rw [hn];obtain ⟨wX,hwX,kS,ab,hz⟩:=nu w #[yw ya n yc] 54;have a1:=yv (hk.onto ab);have ac:=yv (kS);have ba:=yv ((lu.of_below ab:lu [b] w wX));have bb:=yv (zj wX);have af:∀ W:zh,wX.heap.size≤W→∀ i∈b::w::T,i<W:=fun W hWz i hi=>by simp only [zf] at hi;rcases hi with rfl|rfl|hi;all_goals first|omega|(have:=hT i hi;omega)|(have:=hT i hi;have:=hap.size;omega)
 have cP:=fun W (hW:Below wX wX W)=>(gP u.a u.l u.c ⟨ya,yl,yc⟩ W ((hu.later ab).later hW).in ((hy.later ab).later hW).in hl hb hb2).mono fun e w' h=>iP (S:=b::w::T) h (af W hW.size);simp only [hn] at cP;have HN:=yv hn;have CP:=yv cP;clear hk kS hu hy hl hb hb2 cP ab hz af;obtain ⟨ah,ai,aj,ak,ad,al,am,an,ao,aq,ar,au,av,aw,ax,ay⟩:=a1.out.all8;obtain ⟨az,a0⟩:=ac.out.all1;have q4:wX.drew ⟨b,4,none⟩=some (yw u.a u.l.length u.c):=ad;go_enter func155,ntmps155;go_wp2_with fail;clear ah ai aj ak ad al am an ao aq ar au av aw ax ay az a0;refine zt (S:=(fun W:zh=>W ⟨w,0,none⟩=some (yw ya n yc))) lg (ac.out.cell 0 _ rfl) (fun hHeld=>?_);refine ly 0 ?_;refine ly 1 ?_;refine ly 2 ?_;refine ly 3 ?_;refine ly 4 ?_;refine ly 6 ?_;refine m8 5 fun K hK=>?_;go_simp;skip
 try go_wp2_with fail
 refine hK.out _ _ ?_ (fun hHeld=>?_)
 ·exact hHeld
 clear hK K
 try simp only [zi,mj]
 refine m8 7 fun K hK=>?_;go_simp
 (go_at_call 184;refine (CP.out _ (Below.refl _ _).drew).mono ?_;rintro e w1 ⟨⟨xa,xl,xc⟩,rfl,a2,a3,a4⟩;have aa:Below wX wX w1:=(Below.refl _ _).drew.trans a4)
 try go_wp2_with fail
 refine hK.out _ _ ?_ (fun hHeld=>?_)
 ·exact (aa.cell (p:=⟨w,0,none⟩) ac.out.lt).trans (ac.out.cell 0 _ rfl)
 clear hK K
 try simp only [zi,mj]
 clear q4 a4 hwX CP;have ag:=yv (a1.out.onto aa);have ae:=yv (ac.out.onto aa);have a5:=yv (ba.out.trans (S':=[]) (.of_below aa) lh);have a6:=yv (zg bb.out aa.size);have HL:=yv a2;have a7:=yv a3;clear a2 a3 aa;obtain ⟨bf,bg,bh,bi,bj,bk,bl,bm,bn,bo,bp,bq,br,bs,bu,bv⟩:=ag.out.all8;obtain ⟨bw,bx⟩:=ae.out.all1;refine ly 8 ?_;refine ly 9 ?_;refine ly 10 ?_;refine m8 11 fun K hK=>?_;go_simp;skip
 try go_wp2_with fail
 refine hK.out _ _ ?_ (fun hHeld=>?_)
 ·exact (ae.out.other ⟨b,4,none⟩ (by show b≠w;omega) _).cell 0 _ rfl
 clear hK K
 try simp only [zi,mj]
 refine zq lg ?_ _;have kO:l6 (w1.setCell ⟨b,4,none⟩ (yw xa xl.length xc)) (b) #[zd made,ze r,yx t,yw m.a m.l.length m.c,yw xa xl.length xc,yw ro.a ro.l.length ro.c,zd o,yw g.a g.l.length g.c] 100:=(ag.out.set 4 _);have kS:l6 (w1.setCell ⟨b,4,none⟩ (yw xa xl.length xc)) (w) #[yw ya n yc] 54:=(ae.out.other ⟨b,4,none⟩ (by show b≠w;omega) _);have ap:lu (b::w::T) w1 (w1.setCell ⟨b,4,none⟩ (yw xa xl.length xc)):=(lu.refl (b::w::T) w1).setCell (p:=⟨b,4,none⟩) (.inl lh) _;have rP:=a7.out.apart ap;have hB:=((a5.out.setCell (p:=⟨b,4,none⟩) lh _):lu [b] w (w1.setCell ⟨b,4,none⟩ (yw xa xl.length xc)));have hz:(w1.setCell ⟨b,4,none⟩ (yw xa xl.length xc)).heap.size=w1:=lh;obtain ⟨v2,a8⟩:∃ V,(w1.setCell ⟨b,4,none⟩ (yw xa xl.length xc))=V:=⟨_,rfl⟩;rw [a8] at kO kS rP hB hz;rw [a8];have a9:=yv kO;have bc:=yv kS;have bd:=yv rP;have be:=yv hB;have ck:=yv (zg a6.out (zr hz.symm));clear kO kS rP hB hz ap ag ae a7 a5 a6;obtain ⟨bz,b3,b4,b5,b6,b7,b8,b9,ca,cb,cc,cd,ce,cf,cg,ch⟩:=a9.out.all8;obtain ⟨ci,cj⟩:=bc.out.all1;go_wp2
 go_end0
 exact ⟨rfl,⟨xa,xl,xc⟩,HL.out,a9.out,bd.out.wide (S':=b::T) (fun i hi=>.inl (by simp only [zf] at hi ⊢;rcases hi with h|h <;> simp [h])),be.out⟩
set_option maxHeartbeats 800000 in
theorem zQ {m:qv} {u ro:pa} {g:mo} (hk:l6 w b (edC made r t m u ro o g) 100) (a:Option zo) (n c:Nat) :
 zn prog 150 #[ze (some ⟨b,0,none⟩),yw a n c,yy yz 0] w fun e w'=>e=zz (yy yz 0)∧l6 w' b #[zd made,ze r,yx t,yw a n c,yw u.a u.l.length u.c,yw ro.a ro.l.length ro.c,zd o,yw g.a g.l.length g.c] 100∧lu [b] w w':=by
 have hbl:b<w:=hk.lt;have aa:=yv (hk);have ab:=yv ((lu.refl [b] w));have ac:=yv (zj w);clear hk;obtain ⟨ag,ah,ai,aj,ak,al,am,an,ao,aq,ar,au,av,aw,ax,ay⟩:=aa.out.all8;go_enter func150,ntmps150;have kO:l6 (w.setCell ⟨b,3,none⟩ (yw a n c)) (b) #[zd made,ze r,yx t,yw a n c,yw u.a u.l.length u.c,yw ro.a ro.l.length ro.c,zd o,yw g.a g.l.length g.c] 100:=(aa.out.set 3 _);have hB:=((ab.out.setCell (p:=⟨b,3,none⟩) lh _):lu [b] w (w.setCell ⟨b,3,none⟩ (yw a n c)));have hz:(w.setCell ⟨b,3,none⟩ (yw a n c)).heap.size=w:=lh;obtain ⟨v1,ae⟩:∃ V,(w.setCell ⟨b,3,none⟩ (yw a n c))=V:=⟨_,rfl⟩;rw [ae] at kO hB hz;have ad:=yv kO;have af:=yv hB;have bf:=yv (zg ac.out (zr hz.symm));clear kO hB hz aa ab ac;obtain ⟨az,a0,a1,a2,a3,a4,a5,a6,a7,a8,a9,ba,bb,bc,bd,be⟩:=ad.out.all8;go_wp2;go_ret;exact ⟨rfl,ad.out,af.out⟩
set_option maxHeartbeats 800000 in
theorem qD (w:zh) (p:Option zo) (v:zs) (E:Int) (hE:E≠0) :
 zn prog 150 #[ze p,v,yy yz E] w fun e w'=>e=zz (yy yz E)∧w=w':=by
 have h0:(E == 0)=false:=beq_eq_false_iff_ne.2 hE;go_enter func150,ntmps150;go_wp2;go_ret;exact ⟨rfl,rfl⟩
set_option maxHeartbeats 1600000 in
theorem mW {m:qv} {u ro:pa} {g:mo} (hk:l6 w b (edC made r t m u ro o g) 100) (hT:qf T w) (hm:ug (b::T) w m) (hml:m.l.length≤1000000) (hmc:m.l.length≤m.c∧m.c≤Ad) (r':Option zo) (x:mo) (hx:su (b::T) w x) (hxl:x.l.length≤100000) (hz:sc x.l 140737488355328) (hp:∀ y∈x.l,0≤y.p∧y.p≤4096)
 (hms:∀ k,k≤x.l.length→∀ y∈rq m.l (x.l.take k),-2305843009213693952≤y.p∧y.p≤2305843009213693952) :
 zn prog 177 #[ze (some ⟨b,0,none⟩),ze r',yw x.a x.l.length x.c] w fun e w'=>e=zz (Ai #[])∧∃ m':qv,m'.l=rq m.l x.l∧(m'.l.length≤m'.c∧m'.c≤Ad)∧l6 w' b (edC made r' t m' u ro o g) 100∧ug (b::T) w' m'∧lu [b] w w':=by
 have hbl:b<w:=hk.lt;obtain ⟨xa,l,xc⟩:=x;dsimp only at hxl hz hp hms ⊢;obtain ⟨n,hn⟩:∃ n,l.length=n:=⟨_,rfl⟩;rw [hn] at hxl hms ⊢;have ac:=yv (hk);have az:=yv ((lu.refl [b] w));have a0:=yv (zj w);clear hk;obtain ⟨ah,ai,aj,ab,ak,al,am,an,ao,aq,ar,au,av,aw,ax,ay⟩:=ac.out.all8;have HX:=yv hx;have HM:=yv hm;have HZ:=yv hz;have HP:=yv hp;have b4:=yv hms;have b5:=yv hml;have b6:=yv hmc;have HN:=yv hn;clear hx hm hz hp hms hml hmc hn;go_enter func177,ntmps177;have kO:l6 (w.setCell ⟨b,1,none⟩ (ze r')) (b) #[zd made,ze r',yx t,yw m.a m.l.length m.c,yw u.a u.l.length u.c,yw ro.a ro.l.length ro.c,zd o,yw g.a g.l.length g.c] 100:=(ac.out.set 1 _);have hB:=((az.out.setCell (p:=⟨b,1,none⟩) lh _):lu [b] w (w.setCell ⟨b,1,none⟩ (ze r')));have hz:(w.setCell ⟨b,1,none⟩ (ze r')).heap.size=w:=lh;obtain ⟨v1,bu⟩:∃ V,(w.setCell ⟨b,1,none⟩ (ze r'))=V:=⟨_,rfl⟩;rw [bu] at kO hB hz;have ae:=yv kO;have af:=yv hB;have bk:=yv (zg a0.out (zr hz.symm));clear kO hB hz ac az a0;obtain ⟨a1,a2,a4,a5,a6,a7,a8,a9,ba,bb,bc,bd,be,bf,bg,bh⟩:=ae.out.all8;go_wp2;clear ah ai aj ab ak al am an ao aq ar au av aw ax ay bu a1 a2 a4 a5 a6 a7 a8 a9 ba bb bc bd be bf bg bh
 go_loopw [14] (fun i wr=>∃ (k:Nat) (m':qv),k≤n∧i=yy yz k∧m'.l=rq m.l (l.take k)∧(m'.l.length≤m'.c∧m'.c≤Ad)∧l6 wr b #[zd made,ze r',yx t,yw m'.a m'.l.length m'.c,yw u.a u.l.length u.c,yw ro.a ro.l.length ro.c,zd o,yw g.a g.l.length g.c] 100∧ug (b::T) wr m'∧su (b::T) wr ⟨xa,l,xc⟩∧lu [b] w wr) (fun i _=>n - (intOf i).toNat)
 case atStart=>exact ⟨0,m,Ab _,rfl,rfl,b6.out,ae.out,HM.out.apart (af.out.more lh),HX.out.apart (af.out.more lh),af.out⟩
 case round =>
  obtain ⟨k,⟨ma,ml,mc⟩,hk,rfl,hml,hmc,hblk,hkm,hkx,hap⟩:=hrel;dsimp only at hml hmc hblk;by_cases hlt:k<n
  ·have hkl:k<l.length:=by rw [HN.out];exact hlt
   obtain ⟨ad,rfl,hab,q0,q1,q2⟩:=hkx.in.row.at k hkl;obtain ⟨s1,s2⟩:=HZ.out.at k hkl;have sp:=HP.out (l[k]!) (by rw [tj hkl];exact A6 hkl);have sn:=lZ m.l l k hkl;have sm:=b4.out k hk;rw [← hml] at sn sm;obtain ⟨x,hx⟩:∃ x,l[k]! = x:=⟨_,rfl⟩;rw [hx] at q0 q1 q2 s1 s2 sp sn;obtain ⟨p,eo,en⟩:=x;simp only at q0 q1 q2 s1 s2 sp sn;have da:b<wr:=hblk.lt;have mle:ml.length≤1000000:=by rw [hml,oI];exact b5.out
   obtain ⟨wE,hwE,kE,hb,hz⟩:=nu wr #[yy yz p,yx eo,yx en] 92;have q3:wr ⟨b,3,none⟩=some (yw ma ml.length mc):=hblk.cell 3 _ rfl;have ac:=yv (hblk.onto hb);have ag:=yv (kE);have b7:=yv ((hkx.wide (S':=b::wr::T) (pw (zj _))).later hb);have az:=yv (hap.trans (S':=[]) (.of_below hb) lh);have a0:=yv (zj wE);have bl:∀ W:zh,wE.heap.size≤W→∀ i∈b::wr::T,i<W:=fun W hWz i hi=>by simp only [zf] at hi;rcases hi with rfl|rfl|hi;all_goals first|omega|(have:=hT i hi;omega)|(have:=hT i hi;have:=hap.size;omega)
   have cs:=fun W (hW:Below wE wE W)=>yP ma ml mc p eo en W (ug.pcs ((hkm.later hb).later hW)) mle s1 s2 lf sm;have CS:=yv cs;have SN:=yv sn;have b8:=yv bl;have db:=yv hap;have b0:(0:Int)≤(k:Int):=lf;have b1:(k:Int)<(n:Int):=lf;clear cs sn bl hkx hkm hblk hap hb hz kE hx s1 s2 sp sm hml mle hab hkl;obtain ⟨ah,ai,aj,ab,ak,al,am,an,ao,aq,ar,au,av,aw,ax,ay⟩:=ac.out.all8;obtain ⟨bn,bo,bp,bq,br,bs⟩:=ag.out.all3;have q5:wE.drew ⟨b,3,none⟩=some (yw ma ml.length mc):=ab;go_wp2_with fail;clear ah ai aj ab ak al am an ao aq ar au av aw ax ay bn bo bp bq br bs;refine zt (S:=(fun W:zh=>W ⟨wr,0,none⟩=some (yy yz p)∧W ⟨wr,1,none⟩=some (yx eo)∧W ⟨wr,2,none⟩=some (yx en))) lg ⟨ag.out.cell 0 _ rfl,ag.out.cell 1 _ rfl,ag.out.cell 2 _ rfl⟩ (fun hHeld=>?_);refine ly 0 ?_;refine ly 1 ?_;refine ly 2 ?_;refine ly 3 ?_;refine ly 4 ?_;refine ly 6 ?_;clear q0 q1 q2 q3;refine m8 5 fun K hK=>?_;go_simp;skip
   try go_wp2_with fail
   refine hK.out _ _ ?_ (fun hHeld=>?_)
   ·exact hHeld
   clear hK K
   try simp only [zi,mj]
   refine m8 7 fun K hK=>?_;go_simp
   (go_at_call 202;refine (CS.out _ (Below.refl _ _).drew).mono ?_;rintro e w1 ⟨a3,c3,rfl,bi,bv⟩;have aa:Below wE wE w1:=(Below.refl _ _).drew.trans bv)
   try go_wp2_with fail
   refine hK.out _ _ ?_ (fun hHeld=>?_)
   ·exact (by have h:=ag.out.onto aa;exact ⟨h.cell 0 _ rfl,h.cell 1 _ rfl,h.cell 2 _ rfl⟩)
   clear hK K
   try simp only [zi,mj]
   clear q5 bv hwE CS;have ae:=yv (ac.out.onto aa);have bj:=yv (ag.out.onto aa);have bw:=yv (b7.out.later aa);have af:=yv (az.out.trans (S':=[]) (.of_below aa) lh);have bk:=yv (zg a0.out aa.size);have bm:=yv (bi.off (S:=b::wr::T) (b8.out _ (zj _)));have bx:=yv (zv bi.le bi.cap);clear bi aa;obtain ⟨q,hq⟩:∃ q,pd ml (mw p eo.size en.size)=q:=⟨_,rfl⟩;have HQ:=yv hq;rw [hq] at bm bx ⊢;clear hq;obtain ⟨a1,a2,a4,a5,a6,a7,a8,a9,ba,bb,bc,bd,be,bf,bg,bh⟩:=ae.out.all8;obtain ⟨cd,ce,cf,cg,ch,ci⟩:=bj.out.all3;refine ly 8 ?_;refine ly 9 ?_;refine ly 10 ?_;refine m8 11 fun K hK=>?_;go_simp;skip
   try go_wp2_with fail
   refine hK.out _ _ ?_ (fun hHeld=>?_)
   ·exact (by have h:=bj.out.other ⟨b,3,none⟩ (by show b≠wr;omega) (yw a3 q.length c3);exact ⟨h.cell 0 _ rfl,h.cell 1 _ rfl,h.cell 2 _ rfl⟩)
   clear hK K
   try simp only [zi,mj]
   refine zq lg ?_ _;have kO:l6 (w1.setCell ⟨b,3,none⟩ (yw a3 q.length c3)) (b) #[zd made,ze r',yx t,yw a3 q.length c3,yw u.a u.l.length u.c,yw ro.a ro.l.length ro.c,zd o,yw g.a g.l.length g.c] 100:=(ae.out.set 3 _);have kE:l6 (w1.setCell ⟨b,3,none⟩ (yw a3 q.length c3)) (wr) #[yy yz p,yx eo,yx en] 92:=(bj.out.other ⟨b,3,none⟩ (by show b≠wr;omega) _);have ap:lu (b::wr::T) w1 (w1.setCell ⟨b,3,none⟩ (yw a3 q.length c3)):=(lu.refl (b::wr::T) w1).setCell (p:=⟨b,3,none⟩) (.inl lh) _;have rX:=bw.out.apart ap;have rM:=bm.out.apart ap;have hB:=((af.out.setCell (p:=⟨b,3,none⟩) lh _):lu [b] w (w1.setCell ⟨b,3,none⟩ (yw a3 q.length c3)));have hz:(w1.setCell ⟨b,3,none⟩ (yw a3 q.length c3)).heap.size=w1:=lh;obtain ⟨v2,bz⟩:∃ V,(w1.setCell ⟨b,3,none⟩ (yw a3 q.length c3))=V:=⟨_,rfl⟩;rw [bz] at kO kE rX rM hB hz;rw [bz];have b3:=yv kO;have b9:=yv kE;have ca:=yv rX;have cb:=yv rM;have cc:=yv hB;have dc:=yv (zg bk.out (zr hz.symm));clear kO kE rX rM hB hz ap ae bj bw bm af bk;obtain ⟨cj,ck,cl,cm,cn,co,cp,cq,cr,ct,cu,cv,cw,cx,cy,cz⟩:=b3.out.all8;obtain ⟨c4,c5,c6,c7,c8,c9⟩:=b9.out.all3;go_wp2;go_roundw
   case rel=>exact ⟨k+1,⟨a3,q,c3⟩,lf,by go_num,by show q=_;rw [SN.out,HQ.out],bx.out,b3.out,cb.out.wide (S':=b::T) (fun i hi=>.inl (by simp only [zf] at hi ⊢;rcases hi with h|h <;> simp [h])),ca.out.wide (S':=b::T) (fun i hi=>.inl (by simp only [zf] at hi ⊢;rcases hi with h|h <;> simp [h])),cc.out⟩
   case measure=>simp [intOf];omega
  ·obtain rfl:k=n:=lf;rw [← HN.out,Bo] at hml;have HR:=yv (zv hml (zv hmc (zv hblk (zv hkm hap))));clear hml hmc hblk hkm hkx hap;go_wp2
   go_end0
   exact ⟨rfl,⟨ma,ml,mc⟩,HR.out.1,HR.out.2.1,HR.out.2.2.1,HR.out.2.2.2.1,HR.out.2.2.2.2⟩
set_option maxHeartbeats 800000 in
theorem vI {m:qv} {u ro:pa} {g:mo} (h:nz T w b ⟨t,m,u,ro,so,g⟩ rb p L) (r':Option zo) (x:Int) (eo en:ByteArray) (ho:eo.size≤140737488355328) (hn:en.size≤140737488355328) (hx:512<eo.size+en.size):zn prog 146 #[ze (some ⟨b,0,none⟩),ze r',vj x eo en] w (nk T w b ((lz.d ⟨t,m,u,ro,so,g⟩),6)):=by
 have hbl:b<w:=h.lt;obtain ⟨wX,hwX,kE,aa,hz⟩:=nu w #[yy yz x,yx eo,yx en] 92;have ac:=yv (show l6 wX b #[zd true,ze (some ⟨rb,0,none⟩),yx ⟨#[]⟩,yw m.a m.l.length m.c,yw u.a u.l.length u.c,yw ro.a ro.l.length ro.c,zd so,yw g.a g.l.length g.c] 100 from h.blk.onto aa);have ad:=yv (kE);have a4:=yv ((h.rows.wide (S':=b::w::T) (pw (zj _))).later aa);have ae:=yv ((lu.of_below aa:lu [b] w wX));have a5:=yv (zj wX);have ab:∀ W:zh,wX.heap.size≤W→∀ i∈b::w::T,i<W:=fun W hWz i hi=>by simp only [zf] at hi;rcases hi with rfl|rfl|hi;all_goals first|omega|(have:=h.tlt i hi;omega)
 have a6:=yv ab;have H:=yv h;have HB:=yv aa;clear ab kE;obtain ⟨af,ag,ah,ai,aj,ak,al,am,an,ao,aq,ar,au,av,aw,ax⟩:=ac.out.all8;obtain ⟨ay,az,a0,a1,a2,a3⟩:=ad.out.all3;have gz:(512:Int)<(eo.size:Int)+(en.size:Int):=lf;clear h aa hz;go_enter func146,ntmps146;go_wp2;go_ret;exact ⟨⟨t,m,u,ro,so,g⟩,rb,p,L,rfl,H.out.later (by rw [← hwX];exact ni _ _),rfl,ae.out⟩
set_option maxHeartbeats 800000 in
theorem xP {m:qv} {u ro:pa} {g:mo} (h:nz T w b ⟨t,m,u,ro,so,g⟩ rb p L) (r':Option zo) (x:Int) (eo en:ByteArray) (ho:eo.size≤140737488355328) (hn:en.size≤140737488355328) (hx:eo.size+en.size=0):zn prog 146 #[ze (some ⟨b,0,none⟩),ze r',vj x eo en] w (nk T w b ((lz.d ⟨t,m,u,ro,so,g⟩),0)):=by
 have hbl:b<w:=h.lt;obtain ⟨wX,hwX,kE,aa,hz⟩:=nu w #[yy yz x,yx eo,yx en] 92;have ac:=yv (show l6 wX b #[zd true,ze (some ⟨rb,0,none⟩),yx ⟨#[]⟩,yw m.a m.l.length m.c,yw u.a u.l.length u.c,yw ro.a ro.l.length ro.c,zd so,yw g.a g.l.length g.c] 100 from h.blk.onto aa);have ad:=yv (kE);have a4:=yv ((h.rows.wide (S':=b::w::T) (pw (zj _))).later aa);have ae:=yv ((lu.of_below aa:lu [b] w wX));have a5:=yv (zj wX);have ab:∀ W:zh,wX.heap.size≤W→∀ i∈b::w::T,i<W:=fun W hWz i hi=>by simp only [zf] at hi;rcases hi with rfl|rfl|hi;all_goals first|omega|(have:=h.tlt i hi;omega)
 have a6:=yv ab;have H:=yv h;have HB:=yv aa;clear ab kE;obtain ⟨af,ag,ah,ai,aj,ak,al,am,an,ao,aq,ar,au,av,aw,ax⟩:=ac.out.all8;obtain ⟨ay,az,a0,a1,a2,a3⟩:=ad.out.all3;have gz:(eo.size:Int)+(en.size:Int)≤512:=lf;have gy:(eo.size:Int)+(en.size:Int)=0:=lf;clear h aa hz;go_enter func146,ntmps146;go_wp2;go_ret;exact ⟨⟨t,m,u,ro,so,g⟩,rb,p,L,rfl,H.out.later (by rw [← hwX];exact ni _ _),rfl,ae.out⟩
set_option maxHeartbeats 1600000 in
theorem uD {m:qv} {u ro:pa} {g:mo} (h:nz T w b ⟨t,m,u,ro,true,g⟩ rb p L) (r':Option zo) (x:Int) (eo en:ByteArray) (ho:eo.size≤140737488355328) (hn:en.size≤140737488355328) (hx:eo.size+en.size≤512) (hy:1≤eo.size+en.size) (h2:32≤g.l.length):zn prog 146 #[ze (some ⟨b,0,none⟩),ze r',vj x eo en] w (nk T w b ((lz.d ⟨t,m,u,ro,true,g⟩),9)):=by
 have hbl:b<w:=h.lt;have hgl:g.l.length≤32:=h.inv.gl;have hadd:vs g.l ⟨x,eo,en⟩=([],9):=by unfold vs;rw [if_pos h2]
 obtain ⟨wX,hwX,kE,af,hz⟩:=nu w #[yy yz x,yx eo,yx en] 92;have aq:=yv (show l6 wX b #[zd true,ze (some ⟨rb,0,none⟩),yx ⟨#[]⟩,yw m.a m.l.length m.c,yw u.a u.l.length u.c,yw ro.a ro.l.length ro.c,zd true,yw g.a g.l.length g.c] 100 from h.blk.onto af);have ag:=yv (kE);have ar:=yv ((h.rows.wide (S':=b::w::T) (pw (zj _))).later af);have cg:=yv ((lu.of_below af:lu [b] w wX));have ch:=yv (zj wX);have au:∀ W:zh,wX.heap.size≤W→∀ i∈b::w::T,i<W:=fun W hWz i hi=>by simp only [zf] at hi;rcases hi with rfl|rfl|hi;all_goals first|omega|(have:=h.tlt i hi;omega)
 have cl:=yv au;have H:=yv h;have HB:=yv af;clear au kE;obtain ⟨az,a0,a1,a2,a3,a5,a6,a7,a8,a9,ba,bb,bc,bd,be,bf⟩:=aq.out.all8;obtain ⟨bg,bh,bi,bj,bk,bl⟩:=ag.out.all3;have ca:=fun W (hW:Below wX wX W)=>oG g.a g.l g.c ⟨x,eo,en⟩ W ((h.rows.g.later af).later hW).in lf;rw [hadd] at ca;have CA:=yv ca;have hzl:w.heap.size<wX:=lf;clear h af hz ca hadd;have gz:(eo.size:Int)+(en.size:Int)≤512:=lf;have gy:¬ (eo.size:Int)+(en.size:Int)=0:=lf;go_enter func146,ntmps146;have hfs:∀ W,Below wX wX W→W ⟨b,7,none⟩=some (yw g.a g.l.length g.c)∧W ⟨w,0,none⟩=some (yy yz x)∧W ⟨w,1,none⟩=some (yx eo)∧W ⟨w,2,none⟩=some (yx en):=fun W h=>⟨(aq.out.onto h).cell 7 _ rfl,(ag.out.onto h).cell 0 _ rfl,(ag.out.onto h).cell 1 _ rfl,(ag.out.onto h).cell 2 _ rfl⟩;have FS:=yv hfs;clear hfs;go_wp2_with fail;clear az a0 a1 a2 a3 a5 a6 a7 a8 a9 ba bb bc bd be bf bg bh bi bj bk bl;refine zt (S:=(fun W:zh=>W ⟨b,7,none⟩=some (yw g.a g.l.length g.c)∧W ⟨w,0,none⟩=some (yy yz x)∧W ⟨w,1,none⟩=some (yx eo)∧W ⟨w,2,none⟩=some (yx en))) lg (FS.out _ (Below.refl _ _).drew) (fun hHeld=>?_);refine ly 0 ?_;refine ly 1 ?_;refine ly 2 ?_;refine ly 3 ?_;refine ly 4 ?_;refine ly 5 ?_;refine ly 6 ?_;clear hwX;refine zw (rs:=[7,11]) lg lh ?_;refine zp (by simp only [qz];rfl) (fun K hK=>?_) (zp (by simp only [qz];rfl) (fun K hK=>?_) zx)
 ·go_simp
  (go_at_call 176;refine (CA.out _ (Below.refl _ _).drew).mono ?_;rintro e w1 ⟨a4,c4,rfl,aj,ah⟩;have aa:Below wX wX w1:=(Below.refl _ _).drew.trans ah)
  try go_wp2_with fail
  refine hK.out _ _ ?_ (fun hHeld=>?_)
  ·exact FS.out _ aa
  clear hK K
  try simp only [zi,mj]
  have ac:=yv (aq.out.onto aa);have ab:=yv (ag.out.onto aa);have ai:=yv (ar.out.later aa);have ak:=yv (cg.out.trans (S':=[]) (.of_below aa) lh);have al:=yv (zg ch.out aa.size);have am:=yv (aj.off (S:=b::w::T) (cl.out _ (zj _)));clear aj ah CA;refine ly 8 ?_;refine ly 9 ?_;refine ly 10 ?_;refine m8 11 fun K hK=>?_;go_simp;skip
  try go_wp2_with fail
  refine hK.out _ _ ?_ (fun hHeld=>?_)
  ·exact FS.out _ (aa.alloc aa.size _)
  clear hK K
  try simp only [zi,mj]
  refine m8 12 fun K hK=>?_;go_simp;skip
  try go_wp2_with fail
  refine hK.out _ _ ?_ (fun hHeld=>?_)
  ·exact FS.out _ (aa.alloc aa.size _)
  clear hK K
  try simp only [zi,mj]
  refine ly 13 ?_;refine zq lg ?_ _;have dh:wX.heap.size≤w1:=aa.size;clear aa;obtain ⟨cm,hwA1,kA,hbA,hzA⟩:=nu w1 #[yw a4 0 c4] 54;have an:=yv (ac.out.onto hbA);have av:=yv (ab.out.onto hbA);have ad:=yv (ai.out.later hbA);have ao:=yv (am.out.later hbA);have ae:=yv (ak.out.trans (S':=[]) (.of_below hbA) lh);have cn:=yv (zg al.out hbA.size);have aw:=yv kA;have ax:w1.heap.size<cm:=lf;have di:=yv ax;clear kA hbA hzA ax ac ab ai am ak al;obtain ⟨bm,bn,bo,bp,bq,br,bs,bu,bv,bw,bx,bz,b3,b4,b5,b6⟩:=an.out.all8;obtain ⟨b7,b8,b9,cb,cc,cd⟩:=av.out.all3;obtain ⟨ce,cf⟩:=aw.out.all1;rw [hwA1];replace ad:=yv (ad.out.wide (S':=b::T) (fun i hi=>.inl (by simp only [zf] at hi ⊢;rcases hi with h|h <;> simp [h])));replace ao:=yv (ao.out.wide (S':=b::T) (fun i hi=>.inl (by simp only [zf] at hi ⊢;rcases hi with h|h <;> simp [h])));go_wp2;go_ret;exact ⟨⟨t,m,u,ro,true,g⟩,rb,p,L,rfl,⟨an.out,H.out.rope.apart H.out.blk rfl ae.out,ad.out,H.out.ml,H.out.mc,H.out.inv,fun i hi=>zm (H.out.tlt i hi) (ae.out).size⟩,rfl,ae.out⟩
 ·go_simp;have BSA:=yv ((Below.refl wX wX).drew.alloc (zj _) (zk #[yw none 0 0] 54));have ci:=yv (l6.new wX.drew #[yw none 0 0] 54)
  try go_wp2_with fail
  refine hK.out _ _ ?_ (fun hHeld=>?_)
  ·exact FS.out _ BSA.out
  clear hK K
  try simp only [zi,mj]
  refine m8 7 fun K hK=>?_;go_simp
  (go_at_call 176;refine (CA.out _ BSA.out).mono ?_;rintro e w1 ⟨a4,c4,rfl,aj,ah⟩;have aa:Below wX wX w1:=BSA.out.trans (ah.mono BSA.out.size))
  try go_wp2_with fail
  refine hK.out _ _ ?_ (fun hHeld=>?_)
  ·exact FS.out _ aa
  clear hK K
  try simp only [zi,mj]
  have ac:=yv (aq.out.onto aa);have ab:=yv (ag.out.onto aa);have ai:=yv (ar.out.later aa);have ak:=yv (cg.out.trans (S':=[]) (.of_below aa) lh);have al:=yv (zg ch.out aa.size);have ay:=yv (show l6 w1 wX.heap.size #[yw none 0 0] 54 from ci.out.onto ah);have am:=yv (aj.off (S:=b::w::wX::T) (fun i hi=>by
   have hs:wX.heap.size+1≤(zy wX.drew (zk #[yw none 0 0] 54)):=lh;simp only [zf,Bi,or_false] at hi;have dj:(zy wX.drew (zk #[yw none 0 0] 54)).heap.size=(zy wX (zk #[yw none 0 0] 54)):=lh;rcases hi with rfl|rfl|rfl|hi
   ·exact zm lf hs
   ·exact zm lf hs
   ·exact hs
   ·exact zm (by have:=H.out.tlt i hi;omega) hs))
  replace ai:=yv (((ar.out.wide (S':=b::w::wX::T) (wide3 (zj _))).later aa));clear aj ah CA ci;refine ly 8 ?_;refine ly 9 ?_;refine ly 10 ?_;obtain ⟨co,cp,cq,cr,ct,cu,cv,cw,cx,cy,cz,c3,c5,c6,c7,c8⟩:=ac.out.all8;obtain ⟨c9,da,db,dc,dd,de⟩:=ab.out.all3;obtain ⟨df,dg⟩:=ay.out.all1;have ck:w1 ⟨b,7,none⟩=some (yw g.a g.l.length g.c):=ac.out.cell 7 _ rfl;refine m8 12 fun K hK=>?_;go_simp;skip
  try go_wp2_with fail
  refine hK.out _ _ ?_ (fun hHeld=>?_)
  ·exact ⟨(ac.out.other ⟨wX,0,none⟩ (by show wX≠b;omega) _).cell 7 _ rfl,(ab.out.other ⟨wX,0,none⟩ (by show wX.heap.size≠w;omega) _).cell 0 _ rfl,(ab.out.other ⟨wX,0,none⟩ (by show wX.heap.size≠w;omega) _).cell 1 _ rfl,(ab.out.other ⟨wX,0,none⟩ (by show wX.heap.size≠w;omega) _).cell 2 _ rfl⟩
  clear hK K
  try simp only [zi,mj]
  refine ly 13 ?_;refine zq lg ?_ _;clear aa ck BSA;have kT:l6 (w1.setCell ⟨wX,0,none⟩ (yw a4 0 c4)) (wX) #[yw a4 0 c4] 54:=(ay.out.set 0 _);have kO:l6 (w1.setCell ⟨wX,0,none⟩ (yw a4 0 c4)) (b) #[zd true,ze (some ⟨rb,0,none⟩),yx ⟨#[]⟩,yw m.a m.l.length m.c,yw u.a u.l.length u.c,yw ro.a ro.l.length ro.c,zd true,yw g.a g.l.length g.c] 100:=(ac.out.other ⟨wX,0,none⟩ (by show wX≠b;omega) _);have kE:l6 (w1.setCell ⟨wX,0,none⟩ (yw a4 0 c4)) (w) #[yy yz x,yx eo,yx en] 92:=(ab.out.other ⟨wX,0,none⟩ (by show wX.heap.size≠w;omega) _);have ap:lu (b::w::wX::T) w1 (w1.setCell ⟨wX,0,none⟩ (yw a4 0 c4)):=(lu.refl (b::w::wX::T) w1).setCell (p:=⟨wX,0,none⟩) (.inl lh) _;have rS:=ai.out.apart ap;have rG:=am.out.apart ap;have hB:=((ak.out.setCell (p:=⟨wX,0,none⟩) (by right;show w.heap.size≤wX;omega) _):lu [b] w (w1.setCell ⟨wX,0,none⟩ (yw a4 0 c4)));have hz:(w1.setCell ⟨wX,0,none⟩ (yw a4 0 c4)).heap.size=w1:=lh;obtain ⟨v2,cj⟩:∃ V,(w1.setCell ⟨wX,0,none⟩ (yw a4 0 c4))=V:=⟨_,rfl⟩;rw [cj] at kO kE kT rS rG hB hz;rw [cj];have an:=yv kO;have av:=yv kE;have aw:=yv kT;have ad:=yv rS;have ao:=yv rG;have ae:=yv hB;have cn:=yv (zg al.out (zr hz.symm));clear kO kE kT rS rG hB hz ap ac ab ay ai am ak al;obtain ⟨bm,bn,bo,bp,bq,br,bs,bu,bv,bw,bx,bz,b3,b4,b5,b6⟩:=an.out.all8;obtain ⟨b7,b8,b9,cb,cc,cd⟩:=av.out.all3;obtain ⟨ce,cf⟩:=aw.out.all1;replace ad:=yv (ad.out.wide (S':=b::T) (fun i hi=>.inl (by simp only [zf] at hi ⊢;rcases hi with h|h <;> simp [h])));replace ao:=yv (ao.out.wide (S':=b::T) (fun i hi=>.inl (by simp only [zf] at hi ⊢;rcases hi with h|h <;> simp [h])));go_wp2;go_ret;exact ⟨⟨t,m,u,ro,true,g⟩,rb,p,L,rfl,⟨an.out,H.out.rope.apart H.out.blk rfl ae.out,ad.out,H.out.ml,H.out.mc,H.out.inv,fun i hi=>zm (H.out.tlt i hi) (ae.out).size⟩,rfl,ae.out⟩
set_option maxHeartbeats 3200000 in
theorem xO {m:qv} {u ro:pa} {g:mo} (h:nz T w b ⟨t,m,u,ro,true,g⟩ rb p L) (x:Int) (eo en:ByteArray) (ho:eo.size≤140737488355328) (hn:en.size≤140737488355328) (hx:eo.size+en.size≤512) (hy:1≤eo.size+en.size) {rb':Nat} {p':Option zo} {L':List ByteArray} (hap:ot t x eo en=(t',0)) (hr:n7 w (some ⟨rb',0,none⟩) p' L' t') (h2:g.l.length<32):zn prog 146 #[ze (some ⟨b,0,none⟩),ze (some ⟨rb',0,none⟩),vj x eo en] w (nk T w b (ph (lz.d ⟨t,m,u,ro,true,g⟩) ⟨x,eo,en⟩)):=by
 have hbl:b<w:=h.lt;have hadd:vs g.l ⟨x,eo,en⟩=(g.l++[⟨x,eo,en⟩],0):=by unfold vs;rw [if_neg lf]
 have hok:pb ⟨x,eo,en⟩=true:=(cQ _).2 ⟨by show eo.size≤512;omega,by show en.size≤512;omega,by show 1≤eo.size∨1≤en.size;omega⟩;have hrun:mu t [⟨x,eo,en⟩]=(t',0):=jD hap;have hmx:=h.inv.shown hrun;have hpx:=iX h.inv.z hrun;have hzx:=h.inv.edz (l:=[⟨x,eo,en⟩]) (fun y hy=>by rw [Ah.1 hy];exact hok);have hie:=kG (x:=⟨x,eo,en⟩) (t':=t') h.inv hap hok;have hml:m.l.length≤1000000:=zg h.inv.ml li;have hmc:m.l.length≤m.c∧m.c≤Ad:=⟨h.ml,h.mc⟩;obtain ⟨l,hl⟩:∃ l,g.l++[(⟨x,eo,en⟩:l7)]=l:=⟨_,rfl⟩;have g1:=yv hzx;have g2:=yv hpx;have g3:=yv hmx;have g4:=yv hml;have g5:=yv hmc;have HI:=yv hie;have HR:=yv hr;have HL:=yv hl;rw [hl] at hadd;have he:ph (lz.d ⟨t,m,u,ro,true,g⟩) ⟨x,eo,en⟩=(⟨t',pd m.l (mw x eo.size en.size),mf u.l,[],true,l⟩,0):=by unfold ph;rw [if_neg (fun h=>by have:=h.2;have:32≤g.l.length:=this;omega)];simp only [hap,← hl];simp only [lz.d,hap];rfl
 have HE:=yv he;rw [he];clear he hmx hpx hzx hie hml hmc hap hr hrun hok hl;obtain ⟨wX,hwX,kE,ae,hz⟩:=nu w #[yy yz x,yx eo,yx en] 92;have aq:=yv (show l6 wX b #[zd true,ze (some ⟨rb,0,none⟩),yx ⟨#[]⟩,yw m.a m.l.length m.c,yw u.a u.l.length u.c,yw ro.a ro.l.length ro.c,zd true,yw g.a g.l.length g.c] 100 from h.blk.onto ae);have af:=yv (kE);have ax:=yv ((h.rows.wide (S':=b::w::T) (pw (zj _))).later ae);have f9:=yv ((lu.of_below ae:lu [b] w wX));have gc:=yv (zj wX);have ay:∀ W:zh,wX.heap.size≤W→∀ i∈b::w::T,i<W:=fun W hWz i hi=>by simp only [zf] at hi;rcases hi with rfl|rfl|hi;all_goals first|omega|(have:=h.tlt i hi;omega)
 have g6:=yv ay;have H:=yv h;have HB:=yv ae;clear ay kE;obtain ⟨bl,bm,bn,bo,bp,bq,br,bs,bu,bv,bw,bx,bz,b3,b4,b5⟩:=aq.out.all8;obtain ⟨b6,b7,b8,b9,cb,cc⟩:=af.out.all3;have ca:=fun W (hW:Below wX wX W)=>oG g.a g.l g.c ⟨x,eo,en⟩ W ((h.rows.g.later ae).later hW).in lf;rw [hadd] at ca;have CA:=yv ca;have hzl:w.heap.size<wX:=lf;clear h ae hz ca hadd;have gz:(eo.size:Int)+(en.size:Int)≤512:=lf;have gy:¬ (eo.size:Int)+(en.size:Int)=0:=lf;go_enter func146,ntmps146;have hfs:∀ W,Below wX wX W→W ⟨b,7,none⟩=some (yw g.a g.l.length g.c)∧W ⟨w,0,none⟩=some (yy yz x)∧W ⟨w,1,none⟩=some (yx eo)∧W ⟨w,2,none⟩=some (yx en):=fun W h=>⟨(aq.out.onto h).cell 7 _ rfl,(af.out.onto h).cell 0 _ rfl,(af.out.onto h).cell 1 _ rfl,(af.out.onto h).cell 2 _ rfl⟩;have FS:=yv hfs;clear hfs;go_wp2_with fail;clear bl bm bn bo bp bq br bs bu bv bw bx bz b3 b4 b5 b6 b7 b8 b9 cb cc;refine zt (S:=(fun W:zh=>W ⟨b,7,none⟩=some (yw g.a g.l.length g.c)∧W ⟨w,0,none⟩=some (yy yz x)∧W ⟨w,1,none⟩=some (yx eo)∧W ⟨w,2,none⟩=some (yx en))) lg (FS.out _ (Below.refl _ _).drew) (fun hHeld=>?_);refine ly 0 ?_;refine ly 1 ?_;refine ly 2 ?_;refine ly 3 ?_;refine ly 4 ?_;refine ly 5 ?_;refine ly 6 ?_;clear hwX;refine zw (rs:=[7,11]) lg lh ?_;refine zp (by simp only [qz];rfl) (fun K hK=>?ga) (zp (by simp only [qz];rfl) (fun K hK=>?gb) zx)
 case' gb =>
  go_simp;have BSA:=yv ((Below.refl wX wX).drew.alloc (zj _) (zk #[yw none 0 0] 54));have gd:=yv (l6.new wX.drew #[yw none 0 0] 54)
  try go_wp2_with fail
  refine hK.out _ _ ?_ (fun hHeld=>?_)
  ·exact FS.out _ BSA.out
  clear hK K
  try simp only [zi,mj]
  refine m8 7 fun K hK=>?_;go_simp
  (go_at_call 176;refine (CA.out _ BSA.out).mono ?_;rintro e w1 ⟨a4,c4,rfl,ai,ag⟩;have aa:Below wX wX w1:=BSA.out.trans (ag.mono BSA.out.size))
  try go_wp2_with fail
  refine hK.out _ _ ?_ (fun hHeld=>?_)
  ·exact FS.out _ aa
  clear hK K
  try simp only [zi,mj]
  have ac:=yv (aq.out.onto aa);have ab:=yv (af.out.onto aa);have ah:=yv (ax.out.later aa);have aj:=yv (f9.out.trans (S':=[]) (.of_below aa) lh);have ak:=yv (zg gc.out aa.size);have az:=yv (show l6 w1 wX.heap.size #[yw none 0 0] 54 from gd.out.onto ag);have al:=yv (ai.off (S:=b::w::wX::T) (fun i hi=>by
   have hs:wX.heap.size+1≤(zy wX.drew (zk #[yw none 0 0] 54)):=lh;simp only [zf,Bi,or_false] at hi;have it:(zy wX.drew (zk #[yw none 0 0] 54)).heap.size=(zy wX (zk #[yw none 0 0] 54)):=lh;rcases hi with rfl|rfl|rfl|hi
   ·exact zm lf hs
   ·exact zm lf hs
   ·exact hs
   ·exact zm (by have:=H.out.tlt i hi;omega) hs))
  replace ah:=yv (((ax.out.wide (S':=b::w::wX::T) (wide3 (zj _))).later aa));clear ai ag CA gd;refine ly 8 ?_;refine ly 9 ?_;refine ly 10 ?_;obtain ⟨cd,ce,cf,cg,ch,ci,cj,ck,cl,cm,cn,co,cp,cq,cr,ct⟩:=ac.out.all8;obtain ⟨cu,cv,cw,cx,cy,cz⟩:=ab.out.all3;obtain ⟨c3,c5⟩:=az.out.all1;have g0:w1 ⟨b,7,none⟩=some (yw g.a g.l.length g.c):=ac.out.cell 7 _ rfl;refine m8 12 fun K hK=>?_;go_simp;skip
  try go_wp2_with fail
  refine hK.out _ _ ?_ (fun hHeld=>?_)
  ·exact ⟨(ac.out.other ⟨wX,0,none⟩ (by show wX≠b;omega) _).cell 7 _ rfl,(ab.out.other ⟨wX,0,none⟩ (by show wX.heap.size≠w;omega) _).cell 0 _ rfl,(ab.out.other ⟨wX,0,none⟩ (by show wX.heap.size≠w;omega) _).cell 1 _ rfl,(ab.out.other ⟨wX,0,none⟩ (by show wX.heap.size≠w;omega) _).cell 2 _ rfl⟩
  clear hK K
  try simp only [zi,mj]
  refine ly 13 ?_;refine zq lg ?_ _;clear aa g0 BSA;have kT:l6 (w1.setCell ⟨wX,0,none⟩ (yw a4 l.length c4)) (wX) #[yw a4 l.length c4] 54:=(az.out.set 0 _);have kO:l6 (w1.setCell ⟨wX,0,none⟩ (yw a4 l.length c4)) (b) #[zd true,ze (some ⟨rb,0,none⟩),yx ⟨#[]⟩,yw m.a m.l.length m.c,yw u.a u.l.length u.c,yw ro.a ro.l.length ro.c,zd true,yw g.a g.l.length g.c] 100:=(ac.out.other ⟨wX,0,none⟩ (by show wX≠b;omega) _);have kE:l6 (w1.setCell ⟨wX,0,none⟩ (yw a4 l.length c4)) (w) #[yy yz x,yx eo,yx en] 92:=(ab.out.other ⟨wX,0,none⟩ (by show wX.heap.size≠w;omega) _);have ap:lu (b::w::wX::T) w1 (w1.setCell ⟨wX,0,none⟩ (yw a4 l.length c4)):=(lu.refl (b::w::wX::T) w1).setCell (p:=⟨wX,0,none⟩) (.inl lh) _;have rS:=ah.out.apart ap;have rG:=al.out.apart ap;have hB:=((aj.out.setCell (p:=⟨wX,0,none⟩) (by right;show w.heap.size≤wX;omega) _):lu [b] w (w1.setCell ⟨wX,0,none⟩ (yw a4 l.length c4)));have hz:(w1.setCell ⟨wX,0,none⟩ (yw a4 l.length c4)).heap.size=w1:=lh;obtain ⟨vv,a0⟩:∃ V,(w1.setCell ⟨wX,0,none⟩ (yw a4 l.length c4))=V:=⟨_,rfl⟩;rw [a0] at kO kE kT rS rG hB hz;rw [a0];have ar:=yv kO;have au:=yv kE;have ad:=yv kT;have am:=yv rS;have an:=yv rG;have a1:=yv hB;have a2:=yv (zg ak.out (zr hz.symm));clear kO kE kT rS rG hB hz ap ac ab az ah al aj ak;obtain ⟨bt,hbt⟩:∃ x,wX.heap.size=x:=⟨_,rfl⟩;have hbx:wX≤bt:=zr hbt;rw [hbt] at ad ⊢;have gf:=yv ad.out.lt;clear hbt a0 cd ce cf cg ch ci cj ck cl cm cn co cp cq cr ct cu cv cw cx cy cz c3 c5
 case' ga =>
  go_simp
  (go_at_call 176;refine (CA.out _ (Below.refl _ _).drew).mono ?_;rintro e w1 ⟨a4,c4,rfl,ai,ag⟩;have aa:Below wX wX w1:=(Below.refl _ _).drew.trans ag)
  try go_wp2_with fail
  refine hK.out _ _ ?_ (fun hHeld=>?_)
  ·exact FS.out _ aa
  clear hK K
  try simp only [zi,mj]
  have ac:=yv (aq.out.onto aa);have ab:=yv (af.out.onto aa);have ah:=yv (ax.out.later aa);have aj:=yv (f9.out.trans (S':=[]) (.of_below aa) lh);have ak:=yv (zg gc.out aa.size);have al:=yv (ai.off (S:=b::w::T) (g6.out _ (zj _)));clear ai ag CA;refine ly 8 ?_;refine ly 9 ?_;refine ly 10 ?_;refine m8 11 fun K hK=>?_;go_simp;skip
  try go_wp2_with fail
  refine hK.out _ _ ?_ (fun hHeld=>?_)
  ·exact FS.out _ (aa.alloc aa.size _)
  clear hK K
  try simp only [zi,mj]
  refine m8 12 fun K hK=>?_;go_simp;skip
  try go_wp2_with fail
  refine hK.out _ _ ?_ (fun hHeld=>?_)
  ·exact FS.out _ (aa.alloc aa.size _)
  clear hK K
  try simp only [zi,mj]
  refine ly 13 ?_;refine zq lg ?_ _;have gg:wX.heap.size≤w1:=aa.size;clear aa;obtain ⟨vv,hwA1,kA,hbA,hzA⟩:=nu w1 #[yw a4 l.length c4] 54;have ar:=yv (ac.out.onto hbA);have au:=yv (ab.out.onto hbA);have am:=yv (ah.out.later hbA);have an:=yv (al.out.later hbA);have a1:=yv (aj.out.trans (S':=[]) (.of_below hbA) lh);have a2:=yv (zg ak.out hbA.size);have ad:=yv kA;have a3:w1.heap.size<vv:=lf;have gf:=yv a3;clear kA hbA hzA a3 ac ab ah al aj ak;rw [hwA1];obtain ⟨bt,hbt⟩:∃ x,w1.heap.size=x:=⟨_,rfl⟩;rw [hbt] at ad gf ⊢;have hbx:wX≤bt:=by rw [← hbt];exact gg
  clear hwA1 hbt gg
 all_goals
  obtain ⟨c6,c7,c8,c9,da,db,dc,dd,de,df,dg,dh,di,dj,dk,dl⟩:=ar.out.all8;obtain ⟨dm,dn,dp,dq,dr,ds⟩:=au.out.all3;obtain ⟨dt,du⟩:=ad.out.all1;replace am:=yv (am.out.wide (S':=b::T) (fun i hi=>.inl (by simp only [zf] at hi ⊢;rcases hi with h|h <;> simp [h])));replace an:=yv (an.out.wide (S':=b::T) (fun i hi=>.inl (by simp only [zf] at hi ⊢;rcases hi with h|h <;> simp [h])));have kO:l6 (vv.setCell ⟨b,7,none⟩ (yw a4 l.length c4)) (b) #[zd true,ze (some ⟨rb,0,none⟩),yx ⟨#[]⟩,yw m.a m.l.length m.c,yw u.a u.l.length u.c,yw ro.a ro.l.length ro.c,zd true,yw a4 l.length c4] 100:=(ar.out.set 7 _);have kE:l6 (vv.setCell ⟨b,7,none⟩ (yw a4 l.length c4)) (w) #[yy yz x,yx eo,yx en] 92:=(au.out.other ⟨b,7,none⟩ (by show b≠w;omega) _);have kT:l6 (vv.setCell ⟨b,7,none⟩ (yw a4 l.length c4)) (bt) #[yw a4 l.length c4] 54:=(ad.out.other ⟨b,7,none⟩ (by show b≠bt;omega) _);have ap:lu (b::T) vv (vv.setCell ⟨b,7,none⟩ (yw a4 l.length c4)):=(lu.refl (b::T) vv).setCell (p:=⟨b,7,none⟩) (.inl lh) _;have rS:=am.out.apart ap;have rG:=an.out.apart ap;have hB:=((a1.out.setCell (p:=⟨b,7,none⟩) lh _):lu [b] w (vv.setCell ⟨b,7,none⟩ (yw a4 l.length c4)));have hz:(vv.setCell ⟨b,7,none⟩ (yw a4 l.length c4)).heap.size=vv:=lh;obtain ⟨v3,gh⟩:∃ V,(vv.setCell ⟨b,7,none⟩ (yw a4 l.length c4))=V:=⟨_,rfl⟩;rw [gh] at kO kE kT rS rG hB hz;have a5:=yv kO;have a6:=yv kE;have a7:=yv kT;have gi:=yv rS;have gj:=yv rG;have gk:=yv hB;have gm:=yv (zg a2.out (zr hz.symm));clear kO kE kT rS rG hB hz ap ar au ad am an a1 a2;obtain ⟨dv,dw,dx,dy,dz,d0,d1,d2,d3,d4,d5,d6,d7,d8,d9,ea⟩:=a5.out.all8;obtain ⟨eb,ec,ed,ee,ef,eg⟩:=a6.out.all3;obtain ⟨eh,ei⟩:=a7.out.all1;have kO:l6 (v3.setCell ⟨b,5,none⟩ (yw none 0 0)) (b) #[zd true,ze (some ⟨rb,0,none⟩),yx ⟨#[]⟩,yw m.a m.l.length m.c,yw u.a u.l.length u.c,yw none 0 0,zd true,yw a4 l.length c4] 100:=(a5.out.set 5 _);have kE:l6 (v3.setCell ⟨b,5,none⟩ (yw none 0 0)) (w) #[yy yz x,yx eo,yx en] 92:=(a6.out.other ⟨b,5,none⟩ (by show b≠w;omega) _);have kT:l6 (v3.setCell ⟨b,5,none⟩ (yw none 0 0)) (bt) #[yw a4 l.length c4] 54:=(a7.out.other ⟨b,5,none⟩ (by show b≠bt;omega) _);have ap:lu (b::T) v3 (v3.setCell ⟨b,5,none⟩ (yw none 0 0)):=(lu.refl (b::T) v3).setCell (p:=⟨b,5,none⟩) (.inl lh) _;have rS:=gi.out.apart ap;have rG:=gj.out.apart ap;have hB:=((gk.out.setCell (p:=⟨b,5,none⟩) lh _):lu [b] w (v3.setCell ⟨b,5,none⟩ (yw none 0 0)));have hz:(v3.setCell ⟨b,5,none⟩ (yw none 0 0)).heap.size=v3:=lh;obtain ⟨v4,gn⟩:∃ V,(v3.setCell ⟨b,5,none⟩ (yw none 0 0))=V:=⟨_,rfl⟩;rw [gn] at kO kE kT rS rG hB hz;have av:=yv kO;have a8:=yv kE;have a9:=yv kT;have gp:=yv rS;have gq:=yv rG;have ba:=yv hB;have gs:=yv (zg gm.out (zr hz.symm));clear kO kE kT rS rG hB hz ap a5 a6 a7 gi gj gk gm;obtain ⟨ej,ek,el,em,ep,er,es,et,eu,ev,ew,ey,e0,e3,e4,e5⟩:=av.out.all8;obtain ⟨e6,e7,e8,e9,fa,fb⟩:=a8.out.all3;obtain ⟨fc,fd⟩:=a9.out.all1;have g7:=yv (show b<v4 from av.out.lt);have g8:=yv ba.out.size;obtain ⟨gt,hwA4,kA,hbA,hzA⟩:=nu v4 #[yy yz x,yx eo,yx en] 92;have bb:=yv (av.out.onto hbA);have bc:=yv (a8.out.onto hbA);have bd:=yv (a9.out.onto hbA);have be:=yv (gp.out.later hbA);have gu:=yv (gq.out.later hbA);have bf:=yv (ba.out.trans (S':=[]) (.of_below hbA) lh);have gv:=yv (zg gs.out hbA.size);have ao:=yv kA;have bg:v4.heap.size<gt:=lf;have iu:=yv bg;clear kA hbA hzA bg av a8 a9 gp gq ba gs;obtain ⟨fe,ff,fg,fh,fi,fj,fk,fm,fn,fo,fp,fq,fr,fs,ft,fu⟩:=bb.out.all8;obtain ⟨fv,fw,fx,fy,fz,f0⟩:=bc.out.all3;obtain ⟨f1,f2⟩:=bd.out.all1;obtain ⟨f3,f4,f5,f6,f7,f8⟩:=ao.out.all3;have hbv:b≠v4:=by have h1:=g7.out;omega
  have csh:=mW (made:=true) (r:=some ⟨rb,0,none⟩) (t:=⟨#[]⟩) (m:=m) (u:=u) (ro:=⟨none,[],0⟩) (o:=true) (g:=⟨a4,l,c4⟩) bb.out (fun i hi=>zm (H.out.tlt i hi) bf.out.size) be.out.m g4.out g5.out (some ⟨rb',0,none⟩) ⟨some ⟨v4,0,none⟩,[⟨x,eo,en⟩],1⟩ ⟨eone ao.out ⟨ao.out.lt,by simp only [zf,not_or];exact ⟨lf,fun hi=>by have h1:=H.out.tlt _ hi;have h2:=g8.out;(try dsimp only at h1 h2);omega⟩⟩,fun e=>by cases e⟩ lh g1.out g2.out g3.out;have g9:=yv (show zn prog 177 #[ze (some ⟨b,0,none⟩),ze (some ⟨rb',0,none⟩),yw (some ⟨v4,0,none⟩) (1:Nat) 1] gt _ from csh);clear csh;go_wp2_with fail;refine (g9.out).mono ?_;rintro e wZ ⟨rfl,⟨ma,ml,mc⟩,bh,bi,gw,bj,ha⟩;clear c6 c7 c8 c9 da db dc dd de df dg dh di dj dk dl dm dn dp dq dr ds dt du gh dv dw dx dy dz d0 d1 d2 d3 d4 d5 d6 d7 d8 d9 ea eb ec ed ee ef eg eh ei gn ej ek el em ep er es et eu ev ew ey e0 e3 e4 e5 e6 e7 e8 e9 fa fb fc fd hwA4 fe ff fg fh fi fj fk fm fn fo fp fq fr fs ft fu fv fw fx fy fz f0 f1 f2 f3 f4 f5 f6 f7 f8;have gx:=yv (gw);have hb:=yv (bc.out.apart ha lr);have hc:=yv (bd.out.apart ha lr);have hd:=yv (ao.out.apart ha lr);have hf:=yv (be.out.apart (ha.more lh));have hg:=yv (gu.out.apart (ha.more lh));have bk:=yv (bf.out.trans ha lh);have iv:=yv (zg gv.out ha.size);have aw:=yv (zv bh bi);have hj:=yv (bj);clear ha bh bi gw bj bb bc bd ao be gu bf gv;obtain ⟨hk,hm,hp,hq,ht,hu,hv,hw,h0,h4,h5,h6,h7,h8,h9,ia⟩:=gx.out.all8;obtain ⟨ib,ic,ie,ig,ih,ii⟩:=hb.out.all3;obtain ⟨ij,ik⟩:=hc.out.all1;obtain ⟨il,im,io,ip,iq,ir⟩:=hd.out.all3;go_wp2;go_ret;refine ⟨⟨t',⟨ma,ml,mc⟩,u,⟨none,[],0⟩,true,⟨a4,l,c4⟩⟩,rb',p',L',rfl,⟨gx.out,HR.out.apart H.out.blk rfl bk.out,⟨hj.out,hf.out.u,ti.empty _ _,hg.out⟩,aw.out.2.1,aw.out.2.2,?_,fun i hi=>zm (H.out.tlt i hi) (bk.out).size⟩,?_,bk.out⟩
  ·have e:=HI.out;rw [HE.out] at e;have h3:ml=pd m.l (mw x eo.size en.size):=aw.out.1;show mx (⟨t',ml,mf u.l,[],true,l⟩:mb);rw [h3];exact e
  ·have h3:ml=pd m.l (mw x eo.size en.size):=aw.out.1;show (⟨t',ml,mf u.l,[],true,l⟩:mb)=_;rw [h3]
set_option maxHeartbeats 3200000 in
theorem qH {m:qv} {u ro:pa} {g:mo} (h:nz T w b ⟨t,m,u,ro,false,g⟩ rb p L) (x:Int) (eo en:ByteArray) (ho:eo.size≤140737488355328) (hn:en.size≤140737488355328) (hx:eo.size+en.size≤512) (hy:1≤eo.size+en.size) {rb':Nat} {p':Option zo} {L':List ByteArray} (hap:ot t x eo en=(t',0)) (hr:n7 w (some ⟨rb',0,none⟩) p' L' t'):zn prog 146 #[ze (some ⟨b,0,none⟩),ze (some ⟨rb',0,none⟩),vj x eo en] w (nk T w b (ph (lz.d ⟨t,m,u,ro,false,g⟩) ⟨x,eo,en⟩)):=by
 have hbl:b<w:=h.lt;have hg:g.l=[]:=by
  rcases h.inv.go with e|e
  ·exact e
  ·have:=e.1;cases this
 have hadd:vs g.l ⟨x,eo,en⟩=([⟨x,eo,en⟩],0):=by unfold vs;rw [hg];rfl
 have hok:pb ⟨x,eo,en⟩=true:=(cQ _).2 ⟨by show eo.size≤512;omega,by show en.size≤512;omega,by show 1≤eo.size∨1≤en.size;omega⟩;have hrun:mu t [⟨x,eo,en⟩]=(t',0):=jD hap;have hmx:=h.inv.shown hrun;have hpx:=iX h.inv.z hrun;have hzx:=h.inv.edz (l:=[⟨x,eo,en⟩]) (fun y hy=>by rw [Ah.1 hy];exact hok);have hie:=kG (x:=⟨x,eo,en⟩) (t':=t') h.inv hap hok;have hml:m.l.length≤1000000:=zg h.inv.ml li;have hmc:m.l.length≤m.c∧m.c≤Ad:=⟨h.ml,h.mc⟩;obtain ⟨l,hl⟩:∃ l,[(⟨x,eo,en⟩:l7)]=l:=⟨_,rfl⟩;have g6:=yv hzx;have g7:=yv hpx;have g8:=yv hmx;have g9:=yv hml;have hb:=yv hmc;have HI:=yv hie;have HR:=yv hr;have HL:=yv hl;rw [hl] at hadd;have hll:l.length=1:=by rw [← hl];rfl
 have hul:u.l.length≤900∧∀ y∈u.l,y.l.length≤1000000:=by
  have h1:=h.inv.ul;have h2:(mf u.l).length≤16:=h1.1;rw [aC] at h2;exact ⟨lf,bL fun y hy=>zg (h1.2 y hy).2 li⟩
 have hc:=yv hll;have gc:=yv hul;have he:ph (lz.d ⟨t,m,u,ro,false,g⟩) ⟨x,eo,en⟩=(⟨t',pd m.l (mw x eo.size en.size),np (mf u.l) [⟨x,eo,en⟩],[],false,g.l⟩,0):=by unfold ph;rw [if_neg (fun h=>by cases h.1)];simp only [lz.d,hap];rfl
 have HE:=yv he;rw [he];have hgz:g.l.length≤32:=by rw [hg];exact Ab _
 clear he hmx hpx hzx hie hml hmc hap hr hrun hok hl hll hul hg;obtain ⟨wX,hwX,kE,ae,hz⟩:=nu w #[yy yz x,yx eo,yx en] 92;have aq:=yv (show l6 wX b #[zd true,ze (some ⟨rb,0,none⟩),yx ⟨#[]⟩,yw m.a m.l.length m.c,yw u.a u.l.length u.c,yw ro.a ro.l.length ro.c,zd false,yw g.a g.l.length g.c] 100 from h.blk.onto ae);have af:=yv (kE);have ay:=yv ((h.rows.wide (S':=b::w::T) (pw (zj _))).later ae);have gd:=yv ((lu.of_below ae:lu [b] w wX));have gf:=yv (zj wX);have az:∀ W:zh,wX.heap.size≤W→∀ i∈b::w::T,i<W:=fun W hWz i hi=>by simp only [zf] at hi;rcases hi with rfl|rfl|hi;all_goals first|omega|(have:=h.tlt i hi;omega)
 have hd:=yv az;have H:=yv h;have HB:=yv ae;clear az kE;obtain ⟨bm,bn,bo,bp,bq,br,bs,bu,bv,bw,bx,bz,b3,b4,b5,b6⟩:=aq.out.all8;obtain ⟨b7,b8,b9,cb,cc,cd⟩:=af.out.all3;have ca:=fun W (hW:Below wX wX W)=>oG g.a g.l g.c ⟨x,eo,en⟩ W ((h.rows.g.later ae).later hW).in lf;rw [hadd] at ca;have CA:=yv ca;have hzl:w.heap.size<wX:=lf;clear h ae hz ca hadd;have gz:(eo.size:Int)+(en.size:Int)≤512:=lf;have gy:¬ (eo.size:Int)+(en.size:Int)=0:=lf;go_enter func146,ntmps146;have hfs:∀ W,Below wX wX W→W ⟨b,7,none⟩=some (yw g.a g.l.length g.c)∧W ⟨w,0,none⟩=some (yy yz x)∧W ⟨w,1,none⟩=some (yx eo)∧W ⟨w,2,none⟩=some (yx en):=fun W h=>⟨(aq.out.onto h).cell 7 _ rfl,(af.out.onto h).cell 0 _ rfl,(af.out.onto h).cell 1 _ rfl,(af.out.onto h).cell 2 _ rfl⟩;have FS:=yv hfs;clear hfs;go_wp2_with fail;clear bm bn bo bp bq br bs bu bv bw bx bz b3 b4 b5 b6 b7 b8 b9 cb cc cd;refine zt (S:=(fun W:zh=>W ⟨b,7,none⟩=some (yw g.a g.l.length g.c)∧W ⟨w,0,none⟩=some (yy yz x)∧W ⟨w,1,none⟩=some (yx eo)∧W ⟨w,2,none⟩=some (yx en))) lg (FS.out _ (Below.refl _ _).drew) (fun hHeld=>?_);refine ly 0 ?_;refine ly 1 ?_;refine ly 2 ?_;refine ly 3 ?_;refine ly 4 ?_;refine ly 5 ?_;refine ly 6 ?_;clear hwX;refine zw (rs:=[7,11]) lg lh ?_;refine zp (by simp only [qz];rfl) (fun K hK=>?ga) (zp (by simp only [qz];rfl) (fun K hK=>?gb) zx)
 case' gb =>
  go_simp;have BSA:=yv ((Below.refl wX wX).drew.alloc (zj _) (zk #[yw none 0 0] 54));have gg:=yv (l6.new wX.drew #[yw none 0 0] 54)
  try go_wp2_with fail
  refine hK.out _ _ ?_ (fun hHeld=>?_)
  ·exact FS.out _ BSA.out
  clear hK K
  try simp only [zi,mj]
  refine m8 7 fun K hK=>?_;go_simp
  (go_at_call 176;refine (CA.out _ BSA.out).mono ?_;rintro e w1 ⟨a4,c4,rfl,ak,ag⟩;have aa:Below wX wX w1:=BSA.out.trans (ag.mono BSA.out.size))
  try go_wp2_with fail
  refine hK.out _ _ ?_ (fun hHeld=>?_)
  ·exact FS.out _ aa
  clear hK K
  try simp only [zi,mj]
  have ac:=yv (aq.out.onto aa);have ab:=yv (af.out.onto aa);have ah:=yv (ay.out.later aa);have al:=yv (gd.out.trans (S':=[]) (.of_below aa) lh);have am:=yv (zg gf.out aa.size);have a0:=yv (show l6 w1 wX.heap.size #[yw none 0 0] 54 from gg.out.onto ag);have an:=yv (ak.off (S:=b::w::wX::T) (fun i hi=>by
   have hs:wX.heap.size+1≤(zy wX.drew (zk #[yw none 0 0] 54)):=lh;simp only [zf,Bi,or_false] at hi;have i2:(zy wX.drew (zk #[yw none 0 0] 54)).heap.size=(zy wX (zk #[yw none 0 0] 54)):=lh;rcases hi with rfl|rfl|rfl|hi
   ·exact zm lf hs
   ·exact zm lf hs
   ·exact hs
   ·exact zm (by have:=H.out.tlt i hi;omega) hs))
  replace ah:=yv (((ay.out.wide (S':=b::w::wX::T) (wide3 (zj _))).later aa));clear ak ag CA gg;refine ly 8 ?_;refine ly 9 ?_;refine ly 10 ?_;obtain ⟨ce,cf,cg,ch,ci,cj,ck,cl,cm,cn,co,cp,cq,cr,ct,cu⟩:=ac.out.all8;obtain ⟨cv,cw,cx,cy,cz,c3⟩:=ab.out.all3;obtain ⟨c5,c6⟩:=a0.out.all1;have g5:w1 ⟨b,7,none⟩=some (yw g.a g.l.length g.c):=ac.out.cell 7 _ rfl;refine m8 12 fun K hK=>?_;go_simp;skip
  try go_wp2_with fail
  refine hK.out _ _ ?_ (fun hHeld=>?_)
  ·exact ⟨(ac.out.other ⟨wX,0,none⟩ (by show wX≠b;omega) _).cell 7 _ rfl,(ab.out.other ⟨wX,0,none⟩ (by show wX.heap.size≠w;omega) _).cell 0 _ rfl,(ab.out.other ⟨wX,0,none⟩ (by show wX.heap.size≠w;omega) _).cell 1 _ rfl,(ab.out.other ⟨wX,0,none⟩ (by show wX.heap.size≠w;omega) _).cell 2 _ rfl⟩
  clear hK K
  try simp only [zi,mj]
  refine ly 13 ?_;refine zq lg ?_ _;clear aa g5 BSA;have kT:l6 (w1.setCell ⟨wX,0,none⟩ (yw a4 l.length c4)) (wX) #[yw a4 l.length c4] 54:=(a0.out.set 0 _);have kO:l6 (w1.setCell ⟨wX,0,none⟩ (yw a4 l.length c4)) (b) #[zd true,ze (some ⟨rb,0,none⟩),yx ⟨#[]⟩,yw m.a m.l.length m.c,yw u.a u.l.length u.c,yw ro.a ro.l.length ro.c,zd false,yw g.a g.l.length g.c] 100:=(ac.out.other ⟨wX,0,none⟩ (by show wX≠b;omega) _);have kE:l6 (w1.setCell ⟨wX,0,none⟩ (yw a4 l.length c4)) (w) #[yy yz x,yx eo,yx en] 92:=(ab.out.other ⟨wX,0,none⟩ (by show wX.heap.size≠w;omega) _);have ap:lu (b::w::wX::T) w1 (w1.setCell ⟨wX,0,none⟩ (yw a4 l.length c4)):=(lu.refl (b::w::wX::T) w1).setCell (p:=⟨wX,0,none⟩) (.inl lh) _;have rS:=ah.out.apart ap;have rG:=an.out.apart ap;have hB:=((al.out.setCell (p:=⟨wX,0,none⟩) (by right;show w.heap.size≤wX;omega) _):lu [b] w (w1.setCell ⟨wX,0,none⟩ (yw a4 l.length c4)));have hz:(w1.setCell ⟨wX,0,none⟩ (yw a4 l.length c4)).heap.size=w1:=lh;obtain ⟨vv,a1⟩:∃ V,(w1.setCell ⟨wX,0,none⟩ (yw a4 l.length c4))=V:=⟨_,rfl⟩;rw [a1] at kO kE kT rS rG hB hz;rw [a1];have ar:=yv kO;have au:=yv kE;have ad:=yv kT;have ai:=yv rS;have aj:=yv rG;have av:=yv hB;have a2:=yv (zg am.out (zr hz.symm));clear kO kE kT rS rG hB hz ap ac ab a0 ah an al am;obtain ⟨bt,hbt⟩:∃ x,wX.heap.size=x:=⟨_,rfl⟩;have hbx:wX≤bt:=zr hbt;rw [hbt] at ad ⊢;have gh:=yv ad.out.lt;clear hbt a1 ce cf cg ch ci cj ck cl cm cn co cp cq cr ct cu cv cw cx cy cz c3 c5 c6
 case' ga =>
  go_simp
  (go_at_call 176;refine (CA.out _ (Below.refl _ _).drew).mono ?_;rintro e w1 ⟨a4,c4,rfl,ak,ag⟩;have aa:Below wX wX w1:=(Below.refl _ _).drew.trans ag)
  try go_wp2_with fail
  refine hK.out _ _ ?_ (fun hHeld=>?_)
  ·exact FS.out _ aa
  clear hK K
  try simp only [zi,mj]
  have ac:=yv (aq.out.onto aa);have ab:=yv (af.out.onto aa);have ah:=yv (ay.out.later aa);have al:=yv (gd.out.trans (S':=[]) (.of_below aa) lh);have am:=yv (zg gf.out aa.size);have an:=yv (ak.off (S:=b::w::T) (hd.out _ (zj _)));clear ak ag CA;refine ly 8 ?_;refine ly 9 ?_;refine ly 10 ?_;refine m8 11 fun K hK=>?_;go_simp;skip
  try go_wp2_with fail
  refine hK.out _ _ ?_ (fun hHeld=>?_)
  ·exact FS.out _ (aa.alloc aa.size _)
  clear hK K
  try simp only [zi,mj]
  refine m8 12 fun K hK=>?_;go_simp;skip
  try go_wp2_with fail
  refine hK.out _ _ ?_ (fun hHeld=>?_)
  ·exact FS.out _ (aa.alloc aa.size _)
  clear hK K
  try simp only [zi,mj]
  refine ly 13 ?_;refine zq lg ?_ _;have gi:wX.heap.size≤w1:=aa.size;clear aa;obtain ⟨vv,hwA1,kA,hbA,hzA⟩:=nu w1 #[yw a4 l.length c4] 54;have ar:=yv (ac.out.onto hbA);have au:=yv (ab.out.onto hbA);have ai:=yv (ah.out.later hbA);have aj:=yv (an.out.later hbA);have av:=yv (al.out.trans (S':=[]) (.of_below hbA) lh);have a2:=yv (zg am.out hbA.size);have ad:=yv kA;have a3:w1.heap.size<vv:=lf;have gh:=yv a3;clear kA hbA hzA a3 ac ab ah an al am;rw [hwA1];obtain ⟨bt,hbt⟩:∃ x,w1.heap.size=x:=⟨_,rfl⟩;rw [hbt] at ad gh ⊢;have hbx:wX≤bt:=by rw [← hbt];exact gi
  clear hwA1 hbt gi
 all_goals
  obtain ⟨c7,c8,c9,da,db,dc,dd,de,df,dg,dh,di,dj,dk,dl,dm⟩:=ar.out.all8;obtain ⟨dn,dp,dq,dr,ds,dt⟩:=au.out.all3;obtain ⟨du,dv⟩:=ad.out.all1;replace ai:=yv (ai.out.wide (S':=b::T) (fun i hi=>.inl (by simp only [zf] at hi ⊢;rcases hi with h|h <;> simp [h])));replace aj:=yv (aj.out.wide (S':=b::T) (fun i hi=>.inl (by simp only [zf] at hi ⊢;rcases hi with h|h <;> simp [h])));have cpu:=zL (made:=true) (r:=some ⟨rb,0,none⟩) (t:=⟨#[]⟩) (m:=m) (u:=u) (ro:=ro) (o:=false) (g:=g) ar.out (fun i hi=>zm (H.out.tlt i hi) av.out.size) ai.out.u ⟨a4,l,c4⟩ aj.out gc.out.1 gc.out.2 (by rw [hc.out];decide);have hf:=yv (show zn prog 155 #[ze (some ⟨b,0,none⟩),oz a4 l.length c4] vv _ from cpu);clear cpu;go_wp2_with fail;refine (hf.out).mono ?_;rintro e wP ⟨rfl,⟨ua,ul,uc⟩,hul,gj,hsu,ha⟩;clear c7 c8 c9 da db dc dd de df dg dh di dj dk dl dm dn dp dq dr ds dt du dv;have a5:=yv (gj);have a6:=yv (au.out.apart ha lr);have a7:=yv (ad.out.apart ha lr);have gk:=yv (ai.out.apart (ha.more lh));have gm:=yv (aj.out.apart (ha.more lh));have gn:=yv (av.out.trans ha lh);have gp:=yv (zg a2.out ha.size);have a8:=yv hul;have gq:=yv (hsu);clear ha hul gj hsu ar au ad ai aj av a2;obtain ⟨dw,dx,dy,dz,d0,d1,d2,d3,d4,d5,d6,d7,d8,d9,ea,eb⟩:=a5.out.all8;obtain ⟨ec,ed,ee,ef,eg,eh⟩:=a6.out.all3;obtain ⟨ei,ej⟩:=a7.out.all1;have kO:l6 (wP.setCell ⟨b,5,none⟩ (yw none 0 0)) (b) #[zd true,ze (some ⟨rb,0,none⟩),yx ⟨#[]⟩,yw m.a m.l.length m.c,yw ua ul.length uc,yw none 0 0,zd false,yw g.a g.l.length g.c] 100:=(a5.out.set 5 _);have kE:l6 (wP.setCell ⟨b,5,none⟩ (yw none 0 0)) (w) #[yy yz x,yx eo,yx en] 92:=(a6.out.other ⟨b,5,none⟩ (by show b≠w;omega) _);have kT:l6 (wP.setCell ⟨b,5,none⟩ (yw none 0 0)) (bt) #[yw a4 l.length c4] 54:=(a7.out.other ⟨b,5,none⟩ (by show b≠bt;omega) _);have ap:lu (b::T) wP (wP.setCell ⟨b,5,none⟩ (yw none 0 0)):=(lu.refl (b::T) wP).setCell (p:=⟨b,5,none⟩) (.inl lh) _;have rS:=gk.out.apart ap;have rG:=gm.out.apart ap;have rU:=gq.out.apart ap;have hB:=((gn.out.setCell (p:=⟨b,5,none⟩) lh _):lu [b] w (wP.setCell ⟨b,5,none⟩ (yw none 0 0)));have hz:(wP.setCell ⟨b,5,none⟩ (yw none 0 0)).heap.size=wP:=lh;obtain ⟨v4,gs⟩:∃ V,(wP.setCell ⟨b,5,none⟩ (yw none 0 0))=V:=⟨_,rfl⟩;rw [gs] at kO kE kT rS rG rU hB hz;have aw:=yv kO;have a9:=yv kE;have ba:=yv kT;have gt:=yv rS;have gu:=yv rG;have gv:=yv rU;have bb:=yv hB;have gw:=yv (zg gp.out (zr hz.symm));clear kO kE kT rS rG rU hB hz ap a5 a6 a7 gk gm gq gn gp;obtain ⟨ek,el,em,ep,er,es,et,eu,ev,ew,ey,e0,e3,e4,e5,e6⟩:=aw.out.all8;obtain ⟨e7,e8,e9,fa,fb,fc⟩:=a9.out.all3;obtain ⟨fd,fe⟩:=ba.out.all1;have hj:=yv (show b<v4 from aw.out.lt);have hk:=yv bb.out.size;obtain ⟨gx,hwA4,kA,hbA,hzA⟩:=nu v4 #[yy yz x,yx eo,yx en] 92;have bc:=yv (aw.out.onto hbA);have bd:=yv (a9.out.onto hbA);have be:=yv (ba.out.onto hbA);have bf:=yv (gt.out.later hbA);have g0:=yv (gu.out.later hbA);have g1:=yv (gv.out.later hbA);have bg:=yv (bb.out.trans (S':=[]) (.of_below hbA) lh);have g2:=yv (zg gw.out hbA.size);have ao:=yv kA;have bh:v4.heap.size<gx:=lf;have i3:=yv bh;clear kA hbA hzA bh aw a9 ba gt gu gv bb gw;obtain ⟨ff,fg,fh,fi,fj,fk,fm,fn,fo,fp,fq,fr,fs,ft,fu,fv⟩:=bc.out.all8;obtain ⟨fw,fx,fy,fz,f0,f1⟩:=bd.out.all3;obtain ⟨f2,f3⟩:=be.out.all1;obtain ⟨f4,f5,f6,f7,f8,f9⟩:=ao.out.all3;have hbv:b≠v4:=by have h1:=hj.out;omega
  have csh:=mW (made:=true) (r:=some ⟨rb,0,none⟩) (t:=⟨#[]⟩) (m:=m) (u:=⟨ua,ul,uc⟩) (ro:=⟨none,[],0⟩) (o:=false) (g:=g) bc.out (fun i hi=>zm (H.out.tlt i hi) bg.out.size) bf.out.m g9.out hb.out (some ⟨rb',0,none⟩) ⟨some ⟨v4,0,none⟩,[⟨x,eo,en⟩],1⟩ ⟨eone ao.out ⟨ao.out.lt,by simp only [zf,not_or];exact ⟨lf,fun hi=>by have h1:=H.out.tlt _ hi;have h2:=hk.out;(try dsimp only at h1 h2);omega⟩⟩,fun e=>by cases e⟩ lh g6.out g7.out g8.out;have hm:=yv (show zn prog 177 #[ze (some ⟨b,0,none⟩),ze (some ⟨rb',0,none⟩),yw (some ⟨v4,0,none⟩) (1:Nat) 1] gx _ from csh);clear csh;go_wp2_with fail;refine (hm.out).mono ?_;rintro e wZ ⟨rfl,⟨ma,ml,mc⟩,bi,bj,g3,bk,ha⟩;clear dw dx dy dz d0 d1 d2 d3 d4 d5 d6 d7 d8 d9 ea eb ec ed ee ef eg eh ei ej gs ek el em ep er es et eu ev ew ey e0 e3 e4 e5 e6 e7 e8 e9 fa fb fc fd fe hwA4 ff fg fh fi fj fk fm fn fo fp fq fr fs ft fu fv fw fx fy fz f0 f1 f2 f3 f4 f5 f6 f7 f8 f9;have g4:=yv (g3);have hp:=yv (bd.out.apart ha lr);have hq:=yv (be.out.apart ha lr);have ht:=yv (ao.out.apart ha lr);have hu:=yv (bf.out.apart (ha.more lh));have i4:=yv (g0.out.apart (ha.more lh));have hv:=yv (g1.out.apart (ha.more lh));have bl:=yv (bg.out.trans ha lh);have i5:=yv (zg g2.out ha.size);have ax:=yv (zv bi bj);have hw:=yv (bk);clear ha bi bj g3 bk bc bd be ao bf g0 g1 bg g2;obtain ⟨h0,h5,h6,h7,h8,h9,ia,ib,ic,ie,ig,ih,ii,ij,ik,il⟩:=g4.out.all8;obtain ⟨im,io,ip,iq,ir,it⟩:=hp.out.all3;obtain ⟨iu,iv⟩:=hq.out.all1;obtain ⟨iw,ix,iy,iz,i0,i1⟩:=ht.out.all3;go_wp2;go_ret;refine ⟨⟨t',⟨ma,ml,mc⟩,⟨ua,ul,uc⟩,⟨none,[],0⟩,false,g⟩,rb',p',L',rfl,⟨g4.out,HR.out.apart H.out.blk rfl bl.out,⟨hw.out,hv.out,ti.empty _ _,hu.out.g⟩,ax.out.2.1,ax.out.2.2,?_,fun i hi=>zm (H.out.tlt i hi) (bl.out).size⟩,?_,bl.out⟩
  ·have e:=HI.out;rw [HE.out] at e;have h3:ml=pd m.l (mw x eo.size en.size):=ax.out.1;have h4:mf ul=np (mf u.l) [⟨x,eo,en⟩]:=by rw [HL.out];exact a8.out
   show mx (⟨t',ml,mf ul,[],false,g.l⟩:mb);rw [h3,h4];exact e
  ·have h3:ml=pd m.l (mw x eo.size en.size):=ax.out.1;have h4:mf ul=np (mf u.l) [⟨x,eo,en⟩]:=by rw [HL.out];exact a8.out
   show (⟨t',ml,mf ul,[],false,g.l⟩:mb)=_;rw [h3,h4]
set_option maxHeartbeats 800000 in
theorem xU {m:qv} {u ro:pa} {g:mo} (h:nz T w b ⟨t,m,u,ro,true,g⟩ rb p L) (k i n:Int) (x:ByteArray):zn prog 124 #[ze (some ⟨b,0,none⟩),(zu #[yy yz k,yy yz i,yy yz n,yx x])] w (nk T w b ((lz.d ⟨t,m,u,ro,true,g⟩),11)):=by
 have hbl:b<w:=h.lt;obtain ⟨wX,hwX,kE,aa,hz⟩:=nu w #[yy yz k,yy yz i,yy yz n,yx x] 50;have ad:=yv (show l6 wX b #[zd true,ze (some ⟨rb,0,none⟩),yx ⟨#[]⟩,yw m.a m.l.length m.c,yw u.a u.l.length u.c,yw ro.a ro.l.length ro.c,zd true,yw g.a g.l.length g.c] 100 from h.blk.onto aa);have ae:=yv (kE);have af:=yv ((h.rows.wide (S':=b::w::T) (pw (zj _))).later aa);have ab:=yv ((lu.of_below aa:lu [b] w wX));have a7:=yv (zj wX);have ac:∀ W:zh,wX.heap.size≤W→∀ i∈b::w::T,i<W:=fun W hWz i hi=>by simp only [zf] at hi;rcases hi with rfl|rfl|hi;all_goals first|omega|(have:=h.tlt i hi;omega)
 have a8:=yv ac;have H:=yv h;have HB:=yv aa;clear ac kE;obtain ⟨ag,ah,ai,aj,ak,al,am,an,ao,aq,ar,au,av,aw,ax,ay⟩:=ad.out.all8;obtain ⟨az,a0,a1,a2,a3,a4,a5,a6⟩:=ae.out.all4;clear h aa hz;go_enter func124,ntmps124;go_wp2;go_ret;exact ⟨⟨t,m,u,ro,true,g⟩,rb,p,L,rfl,⟨ad.out,H.out.rope.apart H.out.blk rfl ab.out,af.out.wide (fun i hi=>.inl (by simp only [zf] at hi ⊢;rcases hi with h|h <;> simp [h])),H.out.ml,H.out.mc,H.out.inv,fun i hi=>zm (H.out.tlt i hi) (ab.out).size⟩,rfl,ab.out⟩
set_option maxHeartbeats 800000 in
theorem vE {m:qv} {u ro:pa} {g:mo} (h:nz T w b ⟨t,m,u,ro,false,g⟩ rb p L) (k i n:Int) (x:ByteArray):zn prog 124 #[ze (some ⟨b,0,none⟩),(zu #[yy yz k,yy yz i,yy yz n,yx x])] w (nk T w b (⟨t,m.l,mf u.l,mf ro.l,true,g.l⟩,0)):=by
 have hbl:b<w:=h.lt;obtain ⟨wX,hwX,kE,ab,hz⟩:=nu w #[yy yz k,yy yz i,yy yz n,yx x] 50;have ac:=yv (show l6 wX b #[zd true,ze (some ⟨rb,0,none⟩),yx ⟨#[]⟩,yw m.a m.l.length m.c,yw u.a u.l.length u.c,yw ro.a ro.l.length ro.c,zd false,yw g.a g.l.length g.c] 100 from h.blk.onto ab);have ad:=yv (kE);have ag:=yv ((h.rows.wide (S':=b::w::T) (pw (zj _))).later ab);have ah:=yv ((lu.of_below ab:lu [b] w wX));have ai:=yv (zj wX);have ae:∀ W:zh,wX.heap.size≤W→∀ i∈b::w::T,i<W:=fun W hWz i hi=>by simp only [zf] at hi;rcases hi with rfl|rfl|hi;all_goals first|omega|(have:=h.tlt i hi;omega)
 have b6:=yv ae;have H:=yv h;have HB:=yv ab;clear ae kE;obtain ⟨am,an,ao,aq,ar,au,av,aw,ax,ay,az,a0,a1,a2,a3,a4⟩:=ac.out.all8;obtain ⟨a5,a6,a7,a8,a9,ba,bb,bc⟩:=ad.out.all4;clear h ab hz;go_enter func124,ntmps124;have kO:l6 (wX.setCell ⟨b,6,none⟩ (zd true)) (b) #[zd true,ze (some ⟨rb,0,none⟩),yx ⟨#[]⟩,yw m.a m.l.length m.c,yw u.a u.l.length u.c,yw ro.a ro.l.length ro.c,zd true,yw g.a g.l.length g.c] 100:=(ac.out.set 6 _);have kE:l6 (wX.setCell ⟨b,6,none⟩ (zd true)) (w) #[yy yz k,yy yz i,yy yz n,yx x] 50:=(ad.out.other ⟨b,6,none⟩ (by show b≠w;omega) _);have ap:lu (b::w::T) wX (wX.setCell ⟨b,6,none⟩ (zd true)):=(lu.refl (b::w::T) wX).setCell (p:=⟨b,6,none⟩) (.inl lh) _;have rS:=ag.out.apart ap;have hB:=((ah.out.setCell (p:=⟨b,6,none⟩) lh _):lu [b] w (wX.setCell ⟨b,6,none⟩ (zd true)));have hz:(wX.setCell ⟨b,6,none⟩ (zd true)).heap.size=wX:=lh;obtain ⟨v1,ak⟩:∃ V,(wX.setCell ⟨b,6,none⟩ (zd true))=V:=⟨_,rfl⟩;rw [ak] at kO kE rS hB hz;have aj:=yv kO;have al:=yv kE;have aa:=yv rS;have af:=yv hB;have b7:=yv (zg ai.out (zr hz.symm));clear kO kE rS hB hz ap ac ad ag ah ai;obtain ⟨bd,be,bf,bg,bh,bi,bj,bk,bl,bm,bn,bo,bp,bq,br,bs⟩:=aj.out.all8;obtain ⟨bu,bv,bw,bx,bz,b3,b4,b5⟩:=al.out.all4;replace aa:=yv (aa.out.wide (S':=b::T) (fun i hi=>.inl (by simp only [zf] at hi ⊢;rcases hi with h|h <;> simp [h])));go_wp2;go_ret;exact ⟨⟨t,m,u,ro,true,g⟩,rb,p,L,rfl,⟨aj.out,H.out.rope.apart H.out.blk rfl af.out,⟨aa.out.m,aa.out.u,aa.out.r,aa.out.g⟩,H.out.ml,H.out.mc,(by have e:=qY H.out.inv;exact e),fun i hi=>zm (H.out.tlt i hi) (af.out).size⟩,rfl,af.out⟩
set_option maxHeartbeats 800000 in
theorem IX {m:qv} {u ro:pa} {g:mo} (h:nz T w b ⟨t,m,u,ro,false,g⟩ rb p L) (k i n:Int) (x:ByteArray):zn prog 125 #[ze (some ⟨b,0,none⟩),(zu #[yy yz k,yy yz i,yy yz n,yx x])] w (nk T w b ((lz.d ⟨t,m,u,ro,false,g⟩),11)):=by
 have hbl:b<w:=h.lt;obtain ⟨wX,hwX,kE,aa,hz⟩:=nu w #[yy yz k,yy yz i,yy yz n,yx x] 50;have ad:=yv (show l6 wX b #[zd true,ze (some ⟨rb,0,none⟩),yx ⟨#[]⟩,yw m.a m.l.length m.c,yw u.a u.l.length u.c,yw ro.a ro.l.length ro.c,zd false,yw g.a g.l.length g.c] 100 from h.blk.onto aa);have ae:=yv (kE);have af:=yv ((h.rows.wide (S':=b::w::T) (pw (zj _))).later aa);have ab:=yv ((lu.of_below aa:lu [b] w wX));have a7:=yv (zj wX);have ac:∀ W:zh,wX.heap.size≤W→∀ i∈b::w::T,i<W:=fun W hWz i hi=>by simp only [zf] at hi;rcases hi with rfl|rfl|hi;all_goals first|omega|(have:=h.tlt i hi;omega)
 have a8:=yv ac;have H:=yv h;have HB:=yv aa;clear ac kE;obtain ⟨ag,ah,ai,aj,ak,al,am,an,ao,aq,ar,au,av,aw,ax,ay⟩:=ad.out.all8;obtain ⟨az,a0,a1,a2,a3,a4,a5,a6⟩:=ae.out.all4;clear h aa hz;go_enter func125,ntmps125;go_wp2;go_ret;exact ⟨⟨t,m,u,ro,false,g⟩,rb,p,L,rfl,⟨ad.out,H.out.rope.apart H.out.blk rfl ab.out,af.out.wide (fun i hi=>.inl (by simp only [zf] at hi ⊢;rcases hi with h|h <;> simp [h])),H.out.ml,H.out.mc,H.out.inv,fun i hi=>zm (H.out.tlt i hi) (ab.out).size⟩,rfl,ab.out⟩
set_option maxHeartbeats 1600000 in
theorem yF {m:qv} {u ro:pa} {g:mo} (h:nz T w b ⟨t,m,u,ro,true,g⟩ rb p L) (k i n:Int) (x:ByteArray) (hg0:g.l.length=0):zn prog 125 #[ze (some ⟨b,0,none⟩),(zu #[yy yz k,yy yz i,yy yz n,yx x])] w (nk T w b (⟨t,m.l,mf u.l,mf ro.l,false,[]⟩,0)):=by
 have hbl:b<w:=h.lt;have he:ss (lz.d ⟨t,m,u,ro,true,g⟩)=(⟨t,m.l,mf u.l,mf ro.l,false,[]⟩,0):=by unfold ss;rw [if_neg (fun h=>by cases h),show (lz.d ⟨t,m,u,ro,true,g⟩).g.length=0 from hg0,if_pos rfl];rfl
 have HE:=yv he;clear he;obtain ⟨wX,hwX,kE,aa,hz⟩:=nu w #[yy yz k,yy yz i,yy yz n,yx x] 50;have ac:=yv (show l6 wX b #[zd true,ze (some ⟨rb,0,none⟩),yx ⟨#[]⟩,yw m.a m.l.length m.c,yw u.a u.l.length u.c,yw ro.a ro.l.length ro.c,zd true,yw g.a g.l.length g.c] 100 from h.blk.onto aa);have ad:=yv (kE);have ab:=yv ((h.rows.wide (S':=b::w::T) (pw (zj _))).later aa);have aj:=yv ((lu.of_below aa:lu [b] w wX));have ak:=yv (zj wX);have ae:∀ W:zh,wX.heap.size≤W→∀ i∈b::w::T,i<W:=fun W hWz i hi=>by simp only [zf] at hi;rcases hi with rfl|rfl|hi;all_goals first|omega|(have:=h.tlt i hi;omega)
 have c4:=yv ae;have H:=yv h;have HB:=yv aa;clear ae kE;obtain ⟨av,aw,ax,ay,az,a0,a1,a2,a3,a4,a5,a6,a7,a8,a9,ba⟩:=ac.out.all8;obtain ⟨bb,bc,bd,be,bf,bg,bh,bi⟩:=ad.out.all4;have g0:g.l.length=0:=hg0;clear h aa hz;go_enter func125,ntmps125;replace ab:=yv (ab.out.wide (S':=b::T) (fun i hi=>.inl (by simp only [zf] at hi ⊢;rcases hi with h|h <;> simp [h])));have kO:l6 (wX.setCell ⟨b,6,none⟩ (zd false)) (b) #[zd true,ze (some ⟨rb,0,none⟩),yx ⟨#[]⟩,yw m.a m.l.length m.c,yw u.a u.l.length u.c,yw ro.a ro.l.length ro.c,zd false,yw g.a g.l.length g.c] 100:=(ac.out.set 6 _);have kE:l6 (wX.setCell ⟨b,6,none⟩ (zd false)) (w) #[yy yz k,yy yz i,yy yz n,yx x] 50:=(ad.out.other ⟨b,6,none⟩ (by show b≠w;omega) _);have ap:lu (b::T) wX (wX.setCell ⟨b,6,none⟩ (zd false)):=(lu.refl (b::T) wX).setCell (p:=⟨b,6,none⟩) (.inl lh) _;have rS:=ab.out.apart ap;have hB:=((aj.out.setCell (p:=⟨b,6,none⟩) lh _):lu [b] w (wX.setCell ⟨b,6,none⟩ (zd false)));have hz:(wX.setCell ⟨b,6,none⟩ (zd false)).heap.size=wX:=lh;obtain ⟨v1,aq⟩:∃ V,(wX.setCell ⟨b,6,none⟩ (zd false))=V:=⟨_,rfl⟩;rw [aq] at kO kE rS hB hz;have af:=yv kO;have ag:=yv kE;have al:=yv rS;have am:=yv hB;have an:=yv (zg ak.out (zr hz.symm));clear kO kE rS hB hz ap ac ad ab aj ak;obtain ⟨bj,bk,bl,bm,bn,bo,bp,bq,br,bs,bu,bv,bw,bx,bz,b3⟩:=af.out.all8;obtain ⟨b4,b5,b6,b7,b8,b9,ca,cb⟩:=ag.out.all4;have kO:l6 (v1.setCell ⟨b,7,none⟩ (yw none 0 0)) (b) #[zd true,ze (some ⟨rb,0,none⟩),yx ⟨#[]⟩,yw m.a m.l.length m.c,yw u.a u.l.length u.c,yw ro.a ro.l.length ro.c,zd false,yw none 0 0] 100:=(af.out.set 7 _);have kE:l6 (v1.setCell ⟨b,7,none⟩ (yw none 0 0)) (w) #[yy yz k,yy yz i,yy yz n,yx x] 50:=(ag.out.other ⟨b,7,none⟩ (by show b≠w;omega) _);have ap:lu (b::T) v1 (v1.setCell ⟨b,7,none⟩ (yw none 0 0)):=(lu.refl (b::T) v1).setCell (p:=⟨b,7,none⟩) (.inl lh) _;have rS:=al.out.apart ap;have hB:=((am.out.setCell (p:=⟨b,7,none⟩) lh _):lu [b] w (v1.setCell ⟨b,7,none⟩ (yw none 0 0)));have hz:(v1.setCell ⟨b,7,none⟩ (yw none 0 0)).heap.size=v1:=lh;obtain ⟨v2,ar⟩:∃ V,(v1.setCell ⟨b,7,none⟩ (yw none 0 0))=V:=⟨_,rfl⟩;rw [ar] at kO kE rS hB hz;have ao:=yv kO;have au:=yv kE;have ah:=yv rS;have ai:=yv hB;have c5:=yv (zg an.out (zr hz.symm));clear kO kE rS hB hz ap af ag al am an;obtain ⟨cc,cd,ce,cf,cg,ch,ci,cj,ck,cl,cm,cn,co,cp,cq,cr⟩:=ao.out.all8;obtain ⟨ct,cu,cv,cw,cx,cy,cz,c3⟩:=au.out.all4;go_wp2;go_ret;have hie:=qR H.out.inv;rw [HE.out] at hie;exact ⟨⟨t,m,u,ro,false,⟨none,[],0⟩⟩,rb,p,L,rfl,⟨ao.out,H.out.rope.apart H.out.blk rfl ai.out,⟨ah.out.m,ah.out.u,ah.out.r,su.empty _ _⟩,H.out.ml,H.out.mc,hie,fun i hi=>zm (H.out.tlt i hi) (ai.out).size⟩,rfl,ai.out⟩
set_option maxHeartbeats 1600000 in
theorem yY {m:qv} {u ro:pa} {g:mo} (h:nz T w b ⟨t,m,u,ro,true,g⟩ rb p L) (k i n:Int) (x:ByteArray) (hg0:¬ g.l.length=0):zn prog 125 #[ze (some ⟨b,0,none⟩),(zu #[yy yz k,yy yz i,yy yz n,yx x])] w (nk T w b (⟨t,m.l,np (mf u.l) g.l,mf ro.l,false,[]⟩,0)):=by
 have hbl:b<w:=h.lt;have he:ss (lz.d ⟨t,m,u,ro,true,g⟩)=(⟨t,m.l,np (mf u.l) g.l,mf ro.l,false,[]⟩,0):=by unfold ss;rw [if_neg (fun h=>by cases h),if_neg (show ¬ (lz.d ⟨t,m,u,ro,true,g⟩).g.length=0 from hg0)];rfl
 have HE:=yv he;have hul:u.l.length≤900∧∀ y∈u.l,y.l.length≤1000000:=by
  have h1:=h.inv.ul;have h2:(mf u.l).length≤16:=h1.1;rw [aC] at h2;exact ⟨lf,bL fun y hy=>zg (h1.2 y hy).2 li⟩
 have hgl:g.l.length≤1000000:=zg h.inv.gl li;have bc:=yv hul;have bq:=yv hgl;clear he hul hgl;obtain ⟨wX,hwX,kE,ab,hz⟩:=nu w #[yy yz k,yy yz i,yy yz n,yx x] 50;have ac:=yv (show l6 wX b #[zd true,ze (some ⟨rb,0,none⟩),yx ⟨#[]⟩,yw m.a m.l.length m.c,yw u.a u.l.length u.c,yw ro.a ro.l.length ro.c,zd true,yw g.a g.l.length g.c] 100 from h.blk.onto ab);have ad:=yv (kE);have aa:=yv ((h.rows.wide (S':=b::w::T) (pw (zj _))).later ab);have ae:=yv ((lu.of_below ab:lu [b] w wX));have bd:=yv (zj wX);have af:∀ W:zh,wX.heap.size≤W→∀ i∈b::w::T,i<W:=fun W hWz i hi=>by simp only [zf] at hi;rcases hi with rfl|rfl|hi;all_goals first|omega|(have:=h.tlt i hi;omega)
 have d6:=yv af;have H:=yv h;have HB:=yv ab;clear af kE;obtain ⟨al,am,an,ao,aq,ar,au,av,aw,ax,ay,az,a0,a1,a2,a3⟩:=ac.out.all8;obtain ⟨a4,a5,a6,a7,a8,a9,ba,bb⟩:=ad.out.all4;have g0:¬ g.l.length=0:=hg0;have g1:(0:Int)<(g.l.length:Int):=lf;have cpu:=fun W (hk:l6 W b (edC true (some ⟨rb,0,none⟩) ⟨#[]⟩ m u ro true g) 100) (hT:qf T W) (hu:ti (b::T) W u) (hg:su (b::T) W g)=>zL hk hT hu g hg bc.out.1 bc.out.2 bq.out;have br:=yv cpu;clear h ab hz cpu;go_enter func125,ntmps125;replace aa:=yv (aa.out.wide (S':=b::T) (fun i hi=>.inl (by simp only [zf] at hi ⊢;rcases hi with h|h <;> simp [h])));go_wp2_with fail;refine (br.out _ ac.out (fun i hi=>zm (H.out.tlt i hi) ae.out.size) aa.out.u aa.out.g).mono ?_;rintro e wP ⟨rfl,⟨ua,ul,uc⟩,hul,be,hsu,ha⟩;clear al am an ao aq ar au av aw ax ay az a0 a1 a2 a3 a4 a5 a6 a7 a8 a9 ba bb;have ag:=yv (be);have ah:=yv (ad.out.apart ha lr);have bf:=yv (aa.out.apart (ha.more lh));have bg:=yv (ae.out.trans ha lh);have bh:=yv (zg bd.out ha.size);have bp:=yv hul;have bi:=yv (hsu);clear ha hul be hsu hwX ac ad aa ae bd;obtain ⟨bx,bz,b3,b4,b5,b6,b7,b8,b9,ca,cb,cc,cd,ce,cf,cg⟩:=ag.out.all8;obtain ⟨ch,ci,cj,ck,cl,cm,cn,co⟩:=ah.out.all4;have kO:l6 (wP.setCell ⟨b,6,none⟩ (zd false)) (b) #[zd true,ze (some ⟨rb,0,none⟩),yx ⟨#[]⟩,yw m.a m.l.length m.c,yw ua ul.length uc,yw ro.a ro.l.length ro.c,zd false,yw g.a g.l.length g.c] 100:=(ag.out.set 6 _);have kE:l6 (wP.setCell ⟨b,6,none⟩ (zd false)) (w) #[yy yz k,yy yz i,yy yz n,yx x] 50:=(ah.out.other ⟨b,6,none⟩ (by show b≠w;omega) _);have ap:lu (b::T) wP (wP.setCell ⟨b,6,none⟩ (zd false)):=(lu.refl (b::T) wP).setCell (p:=⟨b,6,none⟩) (.inl lh) _;have rS:=bf.out.apart ap;have rU:=bi.out.apart ap;have hB:=((bg.out.setCell (p:=⟨b,6,none⟩) lh _):lu [b] w (wP.setCell ⟨b,6,none⟩ (zd false)));have hz:(wP.setCell ⟨b,6,none⟩ (zd false)).heap.size=wP:=lh;obtain ⟨v2,bs⟩:∃ V,(wP.setCell ⟨b,6,none⟩ (zd false))=V:=⟨_,rfl⟩;rw [bs] at kO kE rS rU hB hz;have ai:=yv kO;have aj:=yv kE;have bj:=yv rS;have bk:=yv rU;have bl:=yv hB;have bm:=yv (zg bh.out (zr hz.symm));clear kO kE rS rU hB hz ap ag ah bf bi bg bh;obtain ⟨cp,cq,cr,ct,cu,cv,cw,cx,cy,cz,c3,c4,c5,c6,c7,c8⟩:=ai.out.all8;obtain ⟨c9,da,db,dc,dd,de,df,dg⟩:=aj.out.all4;have kO:l6 (v2.setCell ⟨b,7,none⟩ (yw none 0 0)) (b) #[zd true,ze (some ⟨rb,0,none⟩),yx ⟨#[]⟩,yw m.a m.l.length m.c,yw ua ul.length uc,yw ro.a ro.l.length ro.c,zd false,yw none 0 0] 100:=(ai.out.set 7 _);have kE:l6 (v2.setCell ⟨b,7,none⟩ (yw none 0 0)) (w) #[yy yz k,yy yz i,yy yz n,yx x] 50:=(aj.out.other ⟨b,7,none⟩ (by show b≠w;omega) _);have ap:lu (b::T) v2 (v2.setCell ⟨b,7,none⟩ (yw none 0 0)):=(lu.refl (b::T) v2).setCell (p:=⟨b,7,none⟩) (.inl lh) _;have rS:=bj.out.apart ap;have rU:=bk.out.apart ap;have hB:=((bl.out.setCell (p:=⟨b,7,none⟩) lh _):lu [b] w (v2.setCell ⟨b,7,none⟩ (yw none 0 0)));have hz:(v2.setCell ⟨b,7,none⟩ (yw none 0 0)).heap.size=v2:=lh;obtain ⟨v3,bu⟩:∃ V,(v2.setCell ⟨b,7,none⟩ (yw none 0 0))=V:=⟨_,rfl⟩;rw [bu] at kO kE rS rU hB hz;have bn:=yv kO;have bv:=yv kE;have bo:=yv rS;have bw:=yv rU;have ak:=yv hB;have d7:=yv (zg bm.out (zr hz.symm));clear kO kE rS rU hB hz ap ai aj bj bk bl bm;obtain ⟨dh,di,dj,dk,dl,dm,dn,dp,dq,dr,ds,dt,du,dv,dw,dx⟩:=bn.out.all8;obtain ⟨dy,dz,d0,d1,d2,d3,d4,d5⟩:=bv.out.all4;go_wp2;go_ret;have hie:=qR H.out.inv;rw [HE.out] at hie;have h4:mf ul=np (mf u.l) g.l:=bp.out;exact ⟨⟨t,m,⟨ua,ul,uc⟩,ro,false,⟨none,[],0⟩⟩,rb,p,L,rfl,⟨bn.out,H.out.rope.apart H.out.blk rfl ak.out,⟨bo.out.m,bw.out,bo.out.r,su.empty _ _⟩,H.out.ml,H.out.mc,(by show mx ⟨t,m.l,mf ul,mf ro.l,false,[]⟩;rw [h4];exact hie),fun i hi=>zm (H.out.tlt i hi) (ak.out).size⟩,(by show (⟨t,m.l,mf ul,mf ro.l,false,[]⟩:mb)=_;rw [h4]),ak.out⟩
set_option maxHeartbeats 1600000 in
theorem xA {m:qv} {u ro:pa} {g:mo} (h:nz T w b ⟨t,m,u,ro,so,g⟩ rb p L) (k i n:Int) (x:ByteArray) (hx:x.size≤Ad) (h1:ng x.data.toList=false):zn prog 120 #[ze (some ⟨b,0,none⟩),(zu #[yy yz k,yy yz i,yy yz n,yx x])] w (nk T w b ((lz.d ⟨t,m,u,ro,so,g⟩),7)):=by
 have hbl:b<w:=h.lt;obtain ⟨wX,hwX,kE,aa,hz⟩:=nu w #[yy yz k,yy yz i,yy yz n,yx x] 50;have ad:=yv (show l6 wX b #[zd true,ze (some ⟨rb,0,none⟩),yx ⟨#[]⟩,yw m.a m.l.length m.c,yw u.a u.l.length u.c,yw ro.a ro.l.length ro.c,zd so,yw g.a g.l.length g.c] 100 from h.blk.onto aa);have ae:=yv (kE);have af:=yv ((h.rows.wide (S':=b::w::T) (pw (zj _))).later aa);have ab:=yv ((lu.of_below aa:lu [b] w wX));have a7:=yv (zj wX);have ac:∀ W:zh,wX.heap.size≤W→∀ i∈b::w::T,i<W:=fun W hWz i hi=>by simp only [zf] at hi;rcases hi with rfl|rfl|hi;all_goals first|omega|(have:=h.tlt i hi;omega)
 have a8:=yv ac;have H:=yv h;have HB:=yv aa;clear ac kE;obtain ⟨ag,ah,ai,aj,ak,al,am,an,ao,aq,ar,au,av,aw,ax,ay⟩:=ad.out.all8;obtain ⟨az,a0,a1,a2,a3,a4,a5,a6⟩:=ae.out.all4;have c1:=bI x hx;rw [h1] at c1;have C1:=yv c1;clear h aa hz c1 h1;go_enter func120,ntmps120;go_wp2_with fail;refine (C1.out _).mono ?_;rintro e w1 ⟨rfl,rfl⟩;go_wp2;go_ret;exact ⟨⟨t,m,u,ro,so,g⟩,rb,p,L,rfl,⟨ad.out,H.out.rope.apart H.out.blk rfl ab.out,af.out.wide (fun i hi=>.inl (by simp only [zf] at hi ⊢;rcases hi with h|h <;> simp [h])),H.out.ml,H.out.mc,H.out.inv,fun i hi=>zm (H.out.tlt i hi) (ab.out).size⟩,rfl,ab.out⟩
set_option maxHeartbeats 1600000 in
theorem tK {m:qv} {u ro:pa} {g:mo} (h:nz T w b ⟨t,m,u,ro,so,g⟩ rb p L) (k i n:Int) (x:ByteArray) (hx:x.size≤Ad) (h1:ng x.data.toList=true) (h2:i<0):zn prog 120 #[ze (some ⟨b,0,none⟩),(zu #[yy yz k,yy yz i,yy yz n,yx x])] w (nk T w b ((lz.d ⟨t,m,u,ro,so,g⟩),3)):=by
 have hbl:b<w:=h.lt;obtain ⟨wX,hwX,kE,aa,hz⟩:=nu w #[yy yz k,yy yz i,yy yz n,yx x] 50;have ac:=yv (show l6 wX b #[zd true,ze (some ⟨rb,0,none⟩),yx ⟨#[]⟩,yw m.a m.l.length m.c,yw u.a u.l.length u.c,yw ro.a ro.l.length ro.c,zd so,yw g.a g.l.length g.c] 100 from h.blk.onto aa);have ab:=yv (kE);have a6:=yv ((h.rows.wide (S':=b::w::T) (pw (zj _))).later aa);have ad:=yv ((lu.of_below aa:lu [b] w wX));have a7:=yv (zj wX);have ae:∀ W:zh,wX.heap.size≤W→∀ i∈b::w::T,i<W:=fun W hWz i hi=>by simp only [zf] at hi;rcases hi with rfl|rfl|hi;all_goals first|omega|(have:=h.tlt i hi;omega)
 have a8:=yv ae;have H:=yv h;have HB:=yv aa;clear ae kE;obtain ⟨af,ag,ah,ai,aj,ak,al,am,an,ao,aq,ar,au,av,aw,ax⟩:=ac.out.all8;obtain ⟨ay,az,a0,a1,a2,a3,a4,a5⟩:=ab.out.all4;have c1:=bI x hx;rw [h1] at c1;have C1:=yv c1;clear c1 h1;have hfs:∀ W,Below wX wX W→(W ⟨b,1,none⟩=some (ze (some ⟨rb,0,none⟩))∧W ⟨b,3,none⟩=some (yw m.a m.l.length m.c))∧W ⟨w,0,none⟩=some (yy yz k)∧W ⟨w,1,none⟩=some (yy yz i)∧W ⟨w,2,none⟩=some (yy yz n)∧W ⟨w,3,none⟩=some (yx x):=fun W h=>⟨⟨(ac.out.onto h).cell 1 _ rfl,(ac.out.onto h).cell 3 _ rfl⟩,(ab.out.onto h).cell 0 _ rfl,(ab.out.onto h).cell 1 _ rfl,(ab.out.onto h).cell 2 _ rfl,(ab.out.onto h).cell 3 _ rfl⟩;have FS:=yv hfs;clear hfs;have d2:decide (i<0)=true:=decide_eq_true h2;clear h aa hz;go_enter func120,ntmps120;go_wp2_with fail;refine (C1.out _).mono ?_;rintro e w1 ⟨rfl,rfl⟩;clear hwX;go_wp2_with fail;clear af ag ah ai aj ak al am an ao aq ar au av aw ax ay az a0 a1 a2 a3 a4 a5;refine zt (S:=(fun W:zh=>(W ⟨b,1,none⟩=some (ze (some ⟨rb,0,none⟩))∧W ⟨b,3,none⟩=some (yw m.a m.l.length m.c))∧W ⟨w,0,none⟩=some (yy yz k)∧W ⟨w,1,none⟩=some (yy yz i)∧W ⟨w,2,none⟩=some (yy yz n)∧W ⟨w,3,none⟩=some (yx x))) lg (FS.out _ (Below.refl _ _).drew) (fun hHeld=>?_);refine ly 0 ?_;refine ly 1 ?_;refine ly 2 ?_;refine ly 3 ?_;refine Ao (i:=4) (v:=Ap) (by simp only [qz];rfl) lg lg lg (fun _ _ _ h=>by exact h) (Or.inr ⟨lj,rfl⟩) lm ?_
 try simp only [zi,mj]
 refine Ao (i:=5) (v:=Ap) (by simp only [qz];rfl) lg lg lg (fun _ _ _ h=>by exact h) (Or.inr ⟨lj,rfl⟩) lm ?_
 try simp only [zi,mj]
 refine Ao (i:=6) (v:=Ap) (by simp only [qz];rfl) lg lg lg (fun _ _ _ h=>by exact h) (Or.inr ⟨lj,rfl⟩) lm ?_
 try simp only [zi,mj]
 refine Ao (i:=7) (v:=Ap) (by simp only [qz];rfl) lg lg lg (fun _ _ _ h=>by exact h) (Or.inr ⟨lj,rfl⟩) lm ?_
 try simp only [zi,mj]
 refine Ao (i:=8) (v:=Ap) (by simp only [qz];rfl) lg lg lg (fun _ _ _ h=>by exact h) (Or.inr ⟨lj,rfl⟩) lm ?_
 try simp only [zi,mj]
 refine ly 9 ?_;refine ly 10 ?_;refine zq lg ?_ _;go_wp2;go_ret;exact ⟨⟨t,m,u,ro,so,g⟩,rb,p,L,rfl,⟨(ac.out.drewN 1),H.out.rope.apart H.out.blk rfl (ad.out.drewN 1),(a6.out.later (Below.refl _ _).drew).wide (fun i hi=>.inl (by simp only [zf] at hi ⊢;rcases hi with h|h <;> simp [h])),H.out.ml,H.out.mc,H.out.inv,fun i hi=>zm (H.out.tlt i hi) ((ad.out.drewN 1)).size⟩,rfl,(ad.out.drewN 1)⟩
set_option maxHeartbeats 1600000 in
theorem qE {m:qv} {u ro:pa} {g:mo} (h:nz T w b ⟨t,m,u,ro,so,g⟩ rb p L) (k i n:Int) (x:ByteArray) (hx:x.size≤Ad) (h1:ng x.data.toList=true) (h2:(t.size:Int)<i):zn prog 120 #[ze (some ⟨b,0,none⟩),(zu #[yy yz k,yy yz i,yy yz n,yx x])] w (nk T w b ((lz.d ⟨t,m,u,ro,so,g⟩),3)):=by
 have hbl:b<w:=h.lt;obtain ⟨wX,hwX,kE,ab,hz⟩:=nu w #[yy yz k,yy yz i,yy yz n,yx x] 50;have ad:=yv (show l6 wX b #[zd true,ze (some ⟨rb,0,none⟩),yx ⟨#[]⟩,yw m.a m.l.length m.c,yw u.a u.l.length u.c,yw ro.a ro.l.length ro.c,zd so,yw g.a g.l.length g.c] 100 from h.blk.onto ab);have ac:=yv (kE);have a8:=yv ((h.rows.wide (S':=b::w::T) (pw (zj _))).later ab);have a9:=yv ((lu.of_below ab:lu [b] w wX));have ba:=yv (zj wX);have ae:∀ W:zh,wX.heap.size≤W→∀ i∈b::w::T,i<W:=fun W hWz i hi=>by simp only [zf] at hi;rcases hi with rfl|rfl|hi;all_goals first|omega|(have:=h.tlt i hi;omega)
 have bd:=yv ae;have H:=yv h;have HB:=yv ab;clear ae kE;obtain ⟨ag,ah,ai,aj,ak,al,am,an,ao,aq,ar,au,av,aw,ax,ay⟩:=ad.out.all8;obtain ⟨az,a0,a1,a2,a3,a4,a5,a6⟩:=ac.out.all4;have c1:=bI x hx;rw [h1] at c1;have C1:=yv c1;clear c1 h1;have hnw:=fun W (hW:Below wX wX W)=>pM (Nw.some (ad.out.onto hW)) ((h.rope.later ab).later hW);have CL:=yv hnw;clear hnw;have hfs:∀ W,Below wX wX W→(W ⟨b,1,none⟩=some (ze (some ⟨rb,0,none⟩))∧W ⟨b,3,none⟩=some (yw m.a m.l.length m.c))∧W ⟨w,0,none⟩=some (yy yz k)∧W ⟨w,1,none⟩=some (yy yz i)∧W ⟨w,2,none⟩=some (yy yz n)∧W ⟨w,3,none⟩=some (yx x):=fun W h=>⟨⟨(ad.out.onto h).cell 1 _ rfl,(ad.out.onto h).cell 3 _ rfl⟩,(ac.out.onto h).cell 0 _ rfl,(ac.out.onto h).cell 1 _ rfl,(ac.out.onto h).cell 2 _ rfl,(ac.out.onto h).cell 3 _ rfl⟩;have FS:=yv hfs;clear hfs;have g2:¬ i<0:=lf;have d2:decide (i<0)=false:=decide_eq_false g2;clear h ab hz;go_enter func120,ntmps120;go_wp2_with fail;refine (C1.out _).mono ?_;rintro e w1 ⟨rfl,rfl⟩;clear hwX;go_wp2_with fail;clear ag ah ai aj ak al am an ao aq ar au av aw ax ay az a0 a1 a2 a3 a4 a5 a6;refine zt (S:=(fun W:zh=>(W ⟨b,1,none⟩=some (ze (some ⟨rb,0,none⟩))∧W ⟨b,3,none⟩=some (yw m.a m.l.length m.c))∧W ⟨w,0,none⟩=some (yy yz k)∧W ⟨w,1,none⟩=some (yy yz i)∧W ⟨w,2,none⟩=some (yy yz n)∧W ⟨w,3,none⟩=some (yx x))) lg (FS.out _ (Below.refl _ _).drew) (fun hHeld=>?_);refine ly 0 ?_;refine ly 1 ?_;refine ly 2 ?_;refine ly 3 ?_;refine ly 4 ?_;refine ly 5 ?_;refine ly 6 ?_;refine m8 7 fun K hK=>?_;go_simp
 (go_at_call 149;refine (CL.out _ (Below.refl _ _).drew).mono ?_;rintro e w1 ⟨rfl,a7⟩;have aa:Below wX wX w1:=(Below.refl _ _).drew.trans a7)
 try go_wp2_with fail
 refine hK.out _ _ ?_ (fun hHeld=>?_)
 ·exact FS.out _ aa
 clear hK K
 try simp only [zi,mj]
 refine ly 8 ?_;refine ly 9 ?_;refine ly 10 ?_;refine zq lg ?_ _;have bb:=yv (ad.out.onto aa);have be:=yv (ac.out.onto aa);have bc:=yv (a8.out.later aa);have af:=yv (a9.out.trans (S':=[]) (.of_below aa) lh);have bf:=yv (zg ba.out aa.size);have bg:=yv aa;clear a7 CL aa;go_wp2;go_ret;exact ⟨⟨t,m,u,ro,so,g⟩,rb,p,L,rfl,⟨bb.out,H.out.rope.apart H.out.blk rfl af.out,bc.out.wide (fun i hi=>.inl (by simp only [zf] at hi ⊢;rcases hi with h|h <;> simp [h])),H.out.ml,H.out.mc,H.out.inv,fun i hi=>zm (H.out.tlt i hi) (af.out).size⟩,rfl,af.out⟩
set_option maxHeartbeats 1600000 in
theorem tJ {m:qv} {u ro:pa} {g:mo} (h:nz T w b ⟨t,m,u,ro,so,g⟩ rb p L) (k i n:Int) (x:ByteArray) (hx:x.size≤Ad) (h1:ng x.data.toList=true) (h2:0≤i∧i≤t.size) (h4:mg t.data.toList i=false):zn prog 120 #[ze (some ⟨b,0,none⟩),(zu #[yy yz k,yy yz i,yy yz n,yx x])] w (nk T w b ((lz.d ⟨t,m,u,ro,so,g⟩),4)):=by
 have hbl:b<w:=h.lt;obtain ⟨wX,hwX,kE,ac,hz⟩:=nu w #[yy yz k,yy yz i,yy yz n,yx x] 50;have ae:=yv (show l6 wX b #[zd true,ze (some ⟨rb,0,none⟩),yx ⟨#[]⟩,yw m.a m.l.length m.c,yw u.a u.l.length u.c,yw ro.a ro.l.length ro.c,zd so,yw g.a g.l.length g.c] 100 from h.blk.onto ac);have ad:=yv (kE);have b6:=yv ((h.rows.wide (S':=b::w::T) (pw (zj _))).later ac);have b7:=yv ((lu.of_below ac:lu [b] w wX));have b8:=yv (zj wX);have ag:∀ W:zh,wX.heap.size≤W→∀ i∈b::w::T,i<W:=fun W hWz i hi=>by simp only [zf] at hi;rcases hi with rfl|rfl|hi;all_goals first|omega|(have:=h.tlt i hi;omega)
 have cf:=yv ag;have H:=yv h;have HB:=yv ac;clear ag kE;obtain ⟨ai,aj,ak,al,am,an,ao,aq,ar,au,av,aw,ax,ay,az,a0⟩:=ae.out.all8;obtain ⟨a1,a2,a3,a4,a5,a6,a7,a8⟩:=ad.out.all4;have c1:=bI x hx;rw [h1] at c1;have C1:=yv c1;clear c1 h1;have hnw:=fun W (hW:Below wX wX W)=>pM (Nw.some (ae.out.onto hW)) ((h.rope.later ac).later hW);have CL:=yv hnw;clear hnw;have hfs:∀ W,Below wX wX W→(W ⟨b,1,none⟩=some (ze (some ⟨rb,0,none⟩))∧W ⟨b,3,none⟩=some (yw m.a m.l.length m.c))∧W ⟨w,0,none⟩=some (yy yz k)∧W ⟨w,1,none⟩=some (yy yz i)∧W ⟨w,2,none⟩=some (yy yz n)∧W ⟨w,3,none⟩=some (yx x):=fun W h=>⟨⟨(ae.out.onto h).cell 1 _ rfl,(ae.out.onto h).cell 3 _ rfl⟩,(ad.out.onto h).cell 0 _ rfl,(ad.out.onto h).cell 1 _ rfl,(ad.out.onto h).cell 2 _ rfl,(ad.out.onto h).cell 3 _ rfl⟩;have FS:=yv hfs;clear hfs;have he:=fun W (hW:Below wX wX W)=>gL (q:=i) ((h.rope.later ac).later hW) (by unfold o8;have:=h.inv.z;replace this:t.size≤4096:=this;omega);rw [h4] at he;have CE:=yv he;clear he h4;have g2:¬ i<0:=lf;have d2:decide (i<0)=false:=decide_eq_false g2;have g3:¬ (t.size:Int)<i:=lf;clear h ac hz;go_enter func120,ntmps120;go_wp2_with fail;refine (C1.out _).mono ?_;rintro e w1 ⟨rfl,rfl⟩;clear hwX;go_wp2_with fail;clear ai aj ak al am an ao aq ar au av aw ax ay az a0 a1 a2 a3 a4 a5 a6 a7 a8;refine zt (S:=(fun W:zh=>(W ⟨b,1,none⟩=some (ze (some ⟨rb,0,none⟩))∧W ⟨b,3,none⟩=some (yw m.a m.l.length m.c))∧W ⟨w,0,none⟩=some (yy yz k)∧W ⟨w,1,none⟩=some (yy yz i)∧W ⟨w,2,none⟩=some (yy yz n)∧W ⟨w,3,none⟩=some (yx x))) lg (FS.out _ (Below.refl _ _).drew) (fun hHeld=>?_);refine ly 0 ?_;refine ly 1 ?_;refine ly 2 ?_;refine ly 3 ?_;refine ly 4 ?_;refine ly 5 ?_;refine ly 6 ?_;refine m8 7 fun K hK=>?_;go_simp
 (go_at_call 149;refine (CL.out _ (Below.refl _ _).drew).mono ?_;rintro e w1 ⟨rfl,bz⟩;have aa:Below wX wX w1:=(Below.refl _ _).drew.trans bz)
 try go_wp2_with fail
 refine hK.out _ _ ?_ (fun hHeld=>?_)
 ·exact FS.out _ aa
 clear hK K
 try simp only [zi,mj]
 refine ly 8 ?_;refine ly 9 ?_;refine ly 10 ?_;refine zq lg ?_ _;have b3:=yv (ae.out.onto aa);have b4:=yv (ad.out.onto aa);have b9:=yv (b6.out.later aa);have ca:=yv (b7.out.trans (S':=[]) (.of_below aa) lh);have cb:=yv (zg b8.out aa.size);have af:=yv aa;clear bz CL aa;obtain ⟨a9,ba,bb,bc,bd,be,bf,bg,bh,bi,bj,bk,bl,bm,bn,bo⟩:=b3.out.all8;obtain ⟨bp,bq,br,bs,bu,bv,bw,bx⟩:=b4.out.all4;go_wp2_with fail;clear a9 ba bb bc bd be bf bg bh bi bj bk bl bm bn bo bp bq br bs bu bv bw bx;refine zt (S:=(fun W:zh=>(W ⟨b,1,none⟩=some (ze (some ⟨rb,0,none⟩))∧W ⟨b,3,none⟩=some (yw m.a m.l.length m.c))∧W ⟨w,0,none⟩=some (yy yz k)∧W ⟨w,1,none⟩=some (yy yz i)∧W ⟨w,2,none⟩=some (yy yz n)∧W ⟨w,3,none⟩=some (yx x))) lg (FS.out _ (af.out.drew)) (fun hHeld=>?_);refine ly 0 ?_;refine ly 1 ?_;refine ly 2 ?_;refine ly 3 ?_;refine ly 4 ?_;refine ly 5 ?_;refine m8 6 fun K hK=>?_;go_simp
 (go_at_call 113;refine (CE.out _ af.out.drew).mono ?_;rintro e w2 ⟨rfl,b5⟩;have ab:Below w1 w1 w2:=(Below.refl _ _).drew.trans b5;have cc:=yv (af.out.trans (ab.mono af.out.size)))
 try go_wp2_with fail
 refine hK.out _ _ ?_ (fun hHeld=>?_)
 ·exact FS.out _ cc.out
 clear hK K
 try simp only [zi,mj]
 refine ly 7 ?_;refine ly 8 ?_;refine zq lg ?_ _;have cd:=yv (b3.out.onto ab);have cg:=yv (b4.out.onto ab);have ce:=yv (b9.out.later ab);have ah:=yv (ca.out.trans (S':=[]) (.of_below ab) lh);have ch:=yv (zg cb.out ab.size);clear b5 CE ab;go_wp2;go_ret;exact ⟨⟨t,m,u,ro,so,g⟩,rb,p,L,rfl,⟨cd.out,H.out.rope.apart H.out.blk rfl ah.out,ce.out.wide (fun i hi=>.inl (by simp only [zf] at hi ⊢;rcases hi with h|h <;> simp [h])),H.out.ml,H.out.mc,H.out.inv,fun i hi=>zm (H.out.tlt i hi) (ah.out).size⟩,rfl,ah.out⟩
set_option maxHeartbeats 3200000 in
theorem yK {m:qv} {u ro:pa} {g:mo} (h:nz T w b ⟨t,m,u,ro,so,g⟩ rb p L) (k i n:Int) (x:ByteArray) (hx:x.size≤Ad) (h1:ng x.data.toList=true) (h2:0≤i∧i≤t.size) (h4:mg t.data.toList i=true) (h5:(qx m.l ⟨x,i⟩).2≠0):zn prog 120 #[ze (some ⟨b,0,none⟩),(zu #[yy yz k,yy yz i,yy yz n,yx x])] w (nk T w b ((lz.d ⟨t,m,u,ro,so,g⟩),(qx m.l ⟨x,i⟩).2)):=by
 have hbl:b<w:=h.lt;have h4':=h4;obtain ⟨wX,hwX,kE,ad,hz⟩:=nu w #[yy yz k,yy yz i,yy yz n,yx x] 50;have ag:=yv (show l6 wX b #[zd true,ze (some ⟨rb,0,none⟩),yx ⟨#[]⟩,yw m.a m.l.length m.c,yw u.a u.l.length u.c,yw ro.a ro.l.length ro.c,zd so,yw g.a g.l.length g.c] 100 from h.blk.onto ad);have ae:=yv (kE);have c6:=yv ((h.rows.wide (S':=b::w::T) (pw (zj _))).later ad);have c7:=yv ((lu.of_below ad:lu [b] w wX));have c8:=yv (zj wX);have ak:∀ W:zh,wX.heap.size≤W→∀ i∈b::w::T,i<W:=fun W hWz i hi=>by simp only [zf] at hi;rcases hi with rfl|rfl|hi;all_goals first|omega|(have:=h.tlt i hi;omega)
 have c9:=yv ak;have H:=yv h;have HB:=yv ad;clear ak kE;obtain ⟨am,an,ao,aq,ar,au,av,aw,ax,ay,az,a0,a1,a2,a4,a5⟩:=ag.out.all8;obtain ⟨a6,a7,a8,a9,ba,bb,bc,bd⟩:=ae.out.all4;have c1:=bI x hx;rw [h1] at c1;have C1:=yv c1;clear c1 h1;have hnw:=fun W (hW:Below wX wX W)=>pM (Nw.some (ag.out.onto hW)) ((h.rope.later ad).later hW);have CL:=yv hnw;clear hnw;have hfs:∀ W,Below wX wX W→(W ⟨b,1,none⟩=some (ze (some ⟨rb,0,none⟩))∧W ⟨b,3,none⟩=some (yw m.a m.l.length m.c))∧W ⟨w,0,none⟩=some (yy yz k)∧W ⟨w,1,none⟩=some (yy yz i)∧W ⟨w,2,none⟩=some (yy yz n)∧W ⟨w,3,none⟩=some (yx x):=fun W h=>⟨⟨(ag.out.onto h).cell 1 _ rfl,(ag.out.onto h).cell 3 _ rfl⟩,(ae.out.onto h).cell 0 _ rfl,(ae.out.onto h).cell 1 _ rfl,(ae.out.onto h).cell 2 _ rfl,(ae.out.onto h).cell 3 _ rfl⟩;have FS:=yv hfs;clear hfs;have he:=fun W (hW:Below wX wX W)=>gL (q:=i) ((h.rope.later ad).later hW) (by unfold o8;have:=h.inv.z;replace this:t.size≤4096:=this;omega);rw [h4] at he;have CE:=yv he;clear he h4;have cs:=fun W (hW:Below wX wX W)=>sG m.a m.l m.c ⟨x,i⟩ W (ug.pcs ((h.rows.m.later ad).later hW)) h.ml h.mc (zg h.inv.ml li) hx ((aX _ _).1 h.inv.m).2.2;skip;obtain ⟨q,hq⟩:∃ q,qx m.l ⟨x,i⟩=q:=⟨_,rfl⟩;rw [hq] at cs h5 ⊢;obtain ⟨ql,qe⟩:=q;have CS:=yv cs;have h5':qe≠0:=h5;have g2:¬ i<0:=lf;have d2:decide (i<0)=false:=decide_eq_false g2;have g3:¬ (t.size:Int)<i:=lf;clear h ad hz cs hq h5;go_enter func120,ntmps120;go_wp2_with fail;refine (C1.out _).mono ?_;rintro e w1 ⟨rfl,rfl⟩;clear hwX;go_wp2_with fail;clear am an ao aq ar au av aw ax ay az a0 a1 a2 a4 a5 a6 a7 a8 a9 ba bb bc bd;refine zt (S:=(fun W:zh=>(W ⟨b,1,none⟩=some (ze (some ⟨rb,0,none⟩))∧W ⟨b,3,none⟩=some (yw m.a m.l.length m.c))∧W ⟨w,0,none⟩=some (yy yz k)∧W ⟨w,1,none⟩=some (yy yz i)∧W ⟨w,2,none⟩=some (yy yz n)∧W ⟨w,3,none⟩=some (yx x))) lg (FS.out _ (Below.refl _ _).drew) (fun hHeld=>?_);refine ly 0 ?_;refine ly 1 ?_;refine ly 2 ?_;refine ly 3 ?_;refine ly 4 ?_;refine ly 5 ?_;refine ly 6 ?_;refine m8 7 fun K hK=>?_;go_simp
 (go_at_call 149;refine (CL.out _ (Below.refl _ _).drew).mono ?_;rintro e w1 ⟨rfl,cv⟩;have aa:Below wX wX w1:=(Below.refl _ _).drew.trans cv)
 try go_wp2_with fail
 refine hK.out _ _ ?_ (fun hHeld=>?_)
 ·exact FS.out _ aa
 clear hK K
 try simp only [zi,mj]
 refine ly 8 ?_;refine ly 9 ?_;refine ly 10 ?_;refine zq lg ?_ _;have cw:=yv (ag.out.onto aa);have cx:=yv (ae.out.onto aa);have da:=yv (c6.out.later aa);have db:=yv (c7.out.trans (S':=[]) (.of_below aa) lh);have dc:=yv (zg c8.out aa.size);have ah:=yv aa;clear cv CL aa;obtain ⟨be,bf,bg,bh,bi,bj,bk,bl,bm,bn,bo,bp,bq,br,bs,bu⟩:=cw.out.all8;obtain ⟨bv,bw,bx,bz,b3,b4,b5,b6⟩:=cx.out.all4;go_wp2_with fail;clear be bf bg bh bi bj bk bl bm bn bo bp bq br bs bu bv bw bx bz b3 b4 b5 b6;refine zt (S:=(fun W:zh=>(W ⟨b,1,none⟩=some (ze (some ⟨rb,0,none⟩))∧W ⟨b,3,none⟩=some (yw m.a m.l.length m.c))∧W ⟨w,0,none⟩=some (yy yz k)∧W ⟨w,1,none⟩=some (yy yz i)∧W ⟨w,2,none⟩=some (yy yz n)∧W ⟨w,3,none⟩=some (yx x))) lg (FS.out _ (ah.out.drew)) (fun hHeld=>?_);refine ly 0 ?_;refine ly 1 ?_;refine ly 2 ?_;refine ly 3 ?_;refine ly 4 ?_;refine ly 5 ?_;refine m8 6 fun K hK=>?_;go_simp
 (go_at_call 113;refine (CE.out _ ah.out.drew).mono ?_;rintro e w2 ⟨rfl,cy⟩;have ab:Below w1 w1 w2:=(Below.refl _ _).drew.trans cy;have af:=yv (ah.out.trans (ab.mono ah.out.size)))
 try go_wp2_with fail
 refine hK.out _ _ ?_ (fun hHeld=>?_)
 ·exact FS.out _ af.out
 clear hK K
 try simp only [zi,mj]
 refine ly 7 ?_;refine ly 8 ?_;refine zq lg ?_ _;have cz:=yv (cw.out.onto ab);have c4:=yv (cx.out.onto ab);have dd:=yv (da.out.later ab);have de:=yv (db.out.trans (S':=[]) (.of_below ab) lh);have df:=yv (zg dc.out ab.size);clear cy CE ab;obtain ⟨b7,b8,b9,ai,ca,cb,cc,cd,ce,cf,cg,ch,ci,cj,ck,cl⟩:=cz.out.all8;obtain ⟨cm,cn,co,cp,cq,cr,ct,cu⟩:=c4.out.all4;have q3:w2.drew ⟨b,3,none⟩=some (yw m.a m.l.length m.c):=ai;go_wp2_with fail;clear b7 b8 b9 ai ca cb cc cd ce cf cg ch ci cj ck cl cm cn co cp cq cr ct cu;refine zt (S:=(fun W:zh=>W ⟨w,0,none⟩=some (yy yz k)∧W ⟨w,1,none⟩=some (yy yz i)∧W ⟨w,2,none⟩=some (yy yz n)∧W ⟨w,3,none⟩=some (yx x))) lg (FS.out _ af.out.drew).2 (fun hHeld=>?_);refine ly 0 ?_;refine ly 1 ?_;refine ly 2 ?_;refine ly 3 ?_;refine ly 4 ?_;refine ly 6 ?_;refine ly 7 ?_;refine ly 8 ?_;refine ly 9 ?_;refine ly 10 ?_;refine m8 5 fun K hK=>?_;go_simp;skip
 try go_wp2_with fail
 refine hK.out _ _ ?_ (fun hHeld=>?_)
 ·exact hHeld
 clear hK K
 try simp only [zi,mj]
 refine m8 11 fun K hK=>?_;go_simp
 (go_at_call 151;refine (CS.out _ af.out.drew).mono ?_;rintro e w3 ⟨a3,c3,rfl,aj,c5⟩;have ac:Below w2 w2 w3:=(Below.refl _ _).drew.trans c5;have dg:=yv (af.out.trans (ac.mono af.out.size)))
 try go_wp2_with fail
 refine hK.out _ _ ?_ (fun hHeld=>?_)
 ·exact (FS.out _ dg.out).2
 clear hK K
 try simp only [zi,mj]
 clear q3;refine ly 12 ?_;refine ly 13 ?_;have dh:=yv (cz.out.onto ac);have dj:=yv (c4.out.onto ac);have di:=yv (dd.out.later ac);have al:=yv (de.out.trans (S':=[]) (.of_below ac) lh);have dk:=yv (zg df.out ac.size);have dl:=yv (aj.off (S:=b::w::T) (c9.out _ af.out.size));have dm:=yv (zv aj.le aj.cap);clear aj c5 ac CS;refine m8 14 fun K hK=>?_;go_simp
 (go_at_call 150;refine (qD _ _ _ _ h5').mono ?_;rintro e w4 ⟨rfl,rfl⟩)
 try go_wp2_with fail
 refine hK.out _ _ ?_ (fun hHeld=>?_)
 ·exact hHeld
 clear hK K
 try simp only [zi,mj]
 refine ly 15 ?_;refine zq lg ?_ _;go_wp2;go_ret;exact ⟨⟨t,m,u,ro,so,g⟩,rb,p,L,rfl,⟨dh.out,H.out.rope.apart H.out.blk rfl al.out,di.out.wide (fun i hi=>.inl (by simp only [zf] at hi ⊢;rcases hi with h|h <;> simp [h])),H.out.ml,H.out.mc,H.out.inv,fun i hi=>zm (H.out.tlt i hi) (al.out).size⟩,rfl,al.out⟩
set_option maxHeartbeats 3200000 in
theorem zE {m:qv} {u ro:pa} {g:mo} (h:nz T w b ⟨t,m,u,ro,so,g⟩ rb p L) (k i n:Int) (x:ByteArray) (hx:x.size≤Ad) (h1:ng x.data.toList=true) (h2:0≤i∧i≤t.size) (h4:mg t.data.toList i=true) (h5:(qx m.l ⟨x,i⟩).2=0):zn prog 120 #[ze (some ⟨b,0,none⟩),(zu #[yy yz k,yy yz i,yy yz n,yx x])] w (nk T w b (⟨t,(qx m.l ⟨x,i⟩).1,mf u.l,mf ro.l,so,g.l⟩,0)):=by
 have hbl:b<w:=h.lt;have h4':=h4;obtain ⟨wX,hwX,kE,ad,hz⟩:=nu w #[yy yz k,yy yz i,yy yz n,yx x] 50;have ah:=yv (show l6 wX b #[zd true,ze (some ⟨rb,0,none⟩),yx ⟨#[]⟩,yw m.a m.l.length m.c,yw u.a u.l.length u.c,yw ro.a ro.l.length ro.c,zd so,yw g.a g.l.length g.c] 100 from h.blk.onto ad);have af:=yv (kE);have db:=yv ((h.rows.wide (S':=b::w::T) (pw (zj _))).later ad);have dc:=yv ((lu.of_below ad:lu [b] w wX));have dd:=yv (zj wX);have al:∀ W:zh,wX.heap.size≤W→∀ i∈b::w::T,i<W:=fun W hWz i hi=>by simp only [zf] at hi;rcases hi with rfl|rfl|hi;all_goals first|omega|(have:=h.tlt i hi;omega)
 have de:=yv al;have H:=yv h;have HB:=yv ad;clear al kE;obtain ⟨ao,aq,ar,au,av,aw,ax,ay,az,a0,a1,a2,a4,a5,a6,a7⟩:=ah.out.all8;obtain ⟨a8,a9,ba,bb,bc,bd,be,bf⟩:=af.out.all4;have c1:=bI x hx;rw [h1] at c1;have C1:=yv c1;clear c1 h1;have hnw:=fun W (hW:Below wX wX W)=>pM (Nw.some (ah.out.onto hW)) ((h.rope.later ad).later hW);have CL:=yv hnw;clear hnw;have hfs:∀ W,Below wX wX W→(W ⟨b,1,none⟩=some (ze (some ⟨rb,0,none⟩))∧W ⟨b,3,none⟩=some (yw m.a m.l.length m.c))∧W ⟨w,0,none⟩=some (yy yz k)∧W ⟨w,1,none⟩=some (yy yz i)∧W ⟨w,2,none⟩=some (yy yz n)∧W ⟨w,3,none⟩=some (yx x):=fun W h=>⟨⟨(ah.out.onto h).cell 1 _ rfl,(ah.out.onto h).cell 3 _ rfl⟩,(af.out.onto h).cell 0 _ rfl,(af.out.onto h).cell 1 _ rfl,(af.out.onto h).cell 2 _ rfl,(af.out.onto h).cell 3 _ rfl⟩;have FS:=yv hfs;clear hfs;have he:=fun W (hW:Below wX wX W)=>gL (q:=i) ((h.rope.later ad).later hW) (by unfold o8;have:=h.inv.z;replace this:t.size≤4096:=this;omega);rw [h4] at he;have CE:=yv he;clear he h4;have cs:=fun W (hW:Below wX wX W)=>sG m.a m.l m.c ⟨x,i⟩ W (ug.pcs ((h.rows.m.later ad).later hW)) h.ml h.mc (zg h.inv.ml li) hx ((aX _ _).1 h.inv.m).2.2;have hri:=rL (x:=⟨x,i⟩) h.inv.m h4' h5;have am:=yv hri;clear hri;obtain ⟨q,hq⟩:∃ q,qx m.l ⟨x,i⟩=q:=⟨_,rfl⟩;rw [hq] at cs h5 ⊢;obtain ⟨ql,qe⟩:=q;have CS:=yv cs;replace am:=yv (show m9 ql t=true by have e:=am.out;rw [show (qx (lz.d ⟨t,m,u,ro,so,g⟩).m ⟨x,i⟩)=(ql,qe) from hq] at e;exact e);have h5':qe=0:=h5;have g2:¬ i<0:=lf;have d2:decide (i<0)=false:=decide_eq_false g2;have g3:¬ (t.size:Int)<i:=lf;clear h ad hz cs hq h5;subst h5';go_enter func120,ntmps120;go_wp2_with fail;refine (C1.out _).mono ?_;rintro e w1 ⟨rfl,rfl⟩;clear hwX;go_wp2_with fail;clear ao aq ar au av aw ax ay az a0 a1 a2 a4 a5 a6 a7 a8 a9 ba bb bc bd be bf;refine zt (S:=(fun W:zh=>(W ⟨b,1,none⟩=some (ze (some ⟨rb,0,none⟩))∧W ⟨b,3,none⟩=some (yw m.a m.l.length m.c))∧W ⟨w,0,none⟩=some (yy yz k)∧W ⟨w,1,none⟩=some (yy yz i)∧W ⟨w,2,none⟩=some (yy yz n)∧W ⟨w,3,none⟩=some (yx x))) lg (FS.out _ (Below.refl _ _).drew) (fun hHeld=>?_);refine ly 0 ?_;refine ly 1 ?_;refine ly 2 ?_;refine ly 3 ?_;refine ly 4 ?_;refine ly 5 ?_;refine ly 6 ?_;refine m8 7 fun K hK=>?_;go_simp
 (go_at_call 149;refine (CL.out _ (Below.refl _ _).drew).mono ?_;rintro e w1 ⟨rfl,cx⟩;have aa:Below wX wX w1:=(Below.refl _ _).drew.trans cx)
 try go_wp2_with fail
 refine hK.out _ _ ?_ (fun hHeld=>?_)
 ·exact FS.out _ aa
 clear hK K
 try simp only [zi,mj]
 refine ly 8 ?_;refine ly 9 ?_;refine ly 10 ?_;refine zq lg ?_ _;have cy:=yv (ah.out.onto aa);have cz:=yv (af.out.onto aa);have df:=yv (db.out.later aa);have dg:=yv (dc.out.trans (S':=[]) (.of_below aa) lh);have dh:=yv (zg dd.out aa.size);have ai:=yv aa;clear cx CL aa;obtain ⟨bg,bh,bi,bj,bk,bl,bm,bn,bo,bp,bq,br,bs,bu,bv,bw⟩:=cy.out.all8;obtain ⟨bx,bz,b3,b4,b5,b6,b7,b8⟩:=cz.out.all4;go_wp2_with fail;clear bg bh bi bj bk bl bm bn bo bp bq br bs bu bv bw bx bz b3 b4 b5 b6 b7 b8;refine zt (S:=(fun W:zh=>(W ⟨b,1,none⟩=some (ze (some ⟨rb,0,none⟩))∧W ⟨b,3,none⟩=some (yw m.a m.l.length m.c))∧W ⟨w,0,none⟩=some (yy yz k)∧W ⟨w,1,none⟩=some (yy yz i)∧W ⟨w,2,none⟩=some (yy yz n)∧W ⟨w,3,none⟩=some (yx x))) lg (FS.out _ (ai.out.drew)) (fun hHeld=>?_);refine ly 0 ?_;refine ly 1 ?_;refine ly 2 ?_;refine ly 3 ?_;refine ly 4 ?_;refine ly 5 ?_;refine m8 6 fun K hK=>?_;go_simp
 (go_at_call 113;refine (CE.out _ ai.out.drew).mono ?_;rintro e w2 ⟨rfl,c4⟩;have ab:Below w1 w1 w2:=(Below.refl _ _).drew.trans c4;have ag:=yv (ai.out.trans (ab.mono ai.out.size)))
 try go_wp2_with fail
 refine hK.out _ _ ?_ (fun hHeld=>?_)
 ·exact FS.out _ ag.out
 clear hK K
 try simp only [zi,mj]
 refine ly 7 ?_;refine ly 8 ?_;refine zq lg ?_ _;have c5:=yv (cy.out.onto ab);have c6:=yv (cz.out.onto ab);have di:=yv (df.out.later ab);have dj:=yv (dg.out.trans (S':=[]) (.of_below ab) lh);have dk:=yv (zg dh.out ab.size);clear c4 CE ab;obtain ⟨b9,ca,cb,aj,cc,cd,ce,cf,cg,ch,ci,cj,ck,cl,cm,cn⟩:=c5.out.all8;obtain ⟨co,cp,cq,cr,ct,cu,cv,cw⟩:=c6.out.all4;have q3:w2.drew ⟨b,3,none⟩=some (yw m.a m.l.length m.c):=aj;go_wp2_with fail;clear b9 ca cb aj cc cd ce cf cg ch ci cj ck cl cm cn co cp cq cr ct cu cv cw;refine zt (S:=(fun W:zh=>W ⟨w,0,none⟩=some (yy yz k)∧W ⟨w,1,none⟩=some (yy yz i)∧W ⟨w,2,none⟩=some (yy yz n)∧W ⟨w,3,none⟩=some (yx x))) lg (FS.out _ ag.out.drew).2 (fun hHeld=>?_);refine ly 0 ?_;refine ly 1 ?_;refine ly 2 ?_;refine ly 3 ?_;refine ly 4 ?_;refine ly 6 ?_;refine ly 7 ?_;refine ly 8 ?_;refine ly 9 ?_;refine ly 10 ?_;refine m8 5 fun K hK=>?_;go_simp;skip
 try go_wp2_with fail
 refine hK.out _ _ ?_ (fun hHeld=>?_)
 ·exact hHeld
 clear hK K
 try simp only [zi,mj]
 refine m8 11 fun K hK=>?_;go_simp
 (go_at_call 151;refine (CS.out _ ag.out.drew).mono ?_;rintro e w3 ⟨a3,c3,rfl,ak,c7⟩;have ac:Below w2 w2 w3:=(Below.refl _ _).drew.trans c7;have dl:=yv (ag.out.trans (ac.mono ag.out.size)))
 try go_wp2_with fail
 refine hK.out _ _ ?_ (fun hHeld=>?_)
 ·exact (FS.out _ dl.out).2
 clear hK K
 try simp only [zi,mj]
 clear q3;refine ly 12 ?_;refine ly 13 ?_;have dm:=yv (c5.out.onto ac);have dn:=yv (c6.out.onto ac);have an:=yv (di.out.later ac);have dp:=yv (dj.out.trans (S':=[]) (.of_below ac) lh);have dr:=yv (zg dk.out ac.size);have dq:=yv (ak.off (S:=b::w::T) (de.out _ ag.out.size));have c8:=yv (zv ak.le ak.cap);clear ak c7 ac CS;refine m8 14 fun K hK=>?_;go_simp
 (go_at_call 150;refine (zQ (made:=true) (r:=some ⟨rb,0,none⟩) (t:=⟨#[]⟩) (m:=m) (u:=u) (ro:=ro) (o:=so) (g:=g) dm.out a3 ql.length c3).mono ?_;rintro e w4 ⟨rfl,c9,da⟩;have ae:=yv (zv c9 da);clear c9 da)
 try go_wp2_with fail
 refine hK.out _ _ ?_ (fun hHeld=>?_)
 ·exact (by have h:=dn.out.apart ae.out.2 lr;exact ⟨h.cell 0 _ rfl,h.cell 1 _ rfl,h.cell 2 _ rfl,h.cell 3 _ rfl⟩)
 clear hK K
 try simp only [zi,mj]
 refine ly 15 ?_;refine zq lg ?_ _;have hba:=dp.out.trans ae.out.2 (fun x hx=>.inl hx);go_wp2;go_ret;exact ⟨⟨t,⟨a3,ql,c3⟩,u,ro,so,g⟩,rb,p,L,rfl,⟨ae.out.1,H.out.rope.apart H.out.blk rfl hba,⟨(dq.out.wide (fun i hi=>.inl (by simp only [zf] at hi ⊢;rcases hi with h|h <;> simp [h]))).apart (ae.out.2.more lh),(an.out.u.wide (fun i hi=>.inl (by simp only [zf] at hi ⊢;rcases hi with h|h <;> simp [h]))).apart (ae.out.2.more lh),(an.out.r.wide (fun i hi=>.inl (by simp only [zf] at hi ⊢;rcases hi with h|h <;> simp [h]))).apart (ae.out.2.more lh),(an.out.g.wide (fun i hi=>.inl (by simp only [zf] at hi ⊢;rcases hi with h|h <;> simp [h]))).apart (ae.out.2.more lh)⟩,c8.out.1,c8.out.2,iK H.out.inv am.out,fun i hi=>zm (H.out.tlt i hi) (hba).size⟩,rfl,hba⟩
set_option maxHeartbeats 3200000 in
theorem tL {m:qv} {u ro:pa} {g:mo} (h:nz T w b ⟨t,m,u,ro,so,g⟩ rb p L) (k i n:Int) (x:ByteArray) (h5:(pm m.l x).2≠0):zn prog 121 #[ze (some ⟨b,0,none⟩),(zu #[yy yz k,yy yz i,yy yz n,yx x])] w (nk T w b ((lz.d ⟨t,m,u,ro,so,g⟩),(pm m.l x).2)):=by
 have hbl:b<w:=h.lt;obtain ⟨wX,hwX,kE,ab,hz⟩:=nu w #[yy yz k,yy yz i,yy yz n,yx x] 50;have ad:=yv (show l6 wX b #[zd true,ze (some ⟨rb,0,none⟩),yx ⟨#[]⟩,yw m.a m.l.length m.c,yw u.a u.l.length u.c,yw ro.a ro.l.length ro.c,zd so,yw g.a g.l.length g.c] 100 from h.blk.onto ab);have ac:=yv (kE);have ba:=yv ((h.rows.wide (S':=b::w::T) (pw (zj _))).later ab);have bb:=yv ((lu.of_below ab:lu [b] w wX));have bc:=yv (zj wX);have ag:∀ W:zh,wX.heap.size≤W→∀ i∈b::w::T,i<W:=fun W hWz i hi=>by simp only [zf] at hi;rcases hi with rfl|rfl|hi;all_goals first|omega|(have:=h.tlt i hi;omega)
 have bd:=yv ag;have H:=yv h;have HB:=yv ab;clear ag kE;obtain ⟨ai,aj,ak,ae,al,am,an,ao,aq,ar,au,av,aw,ax,ay,az⟩:=ad.out.all8;obtain ⟨a0,a1,a2,a4,a5,a6,a7,a8⟩:=ac.out.all4;have hfs:∀ W,Below wX wX W→(W ⟨b,1,none⟩=some (ze (some ⟨rb,0,none⟩))∧W ⟨b,3,none⟩=some (yw m.a m.l.length m.c))∧W ⟨w,0,none⟩=some (yy yz k)∧W ⟨w,1,none⟩=some (yy yz i)∧W ⟨w,2,none⟩=some (yy yz n)∧W ⟨w,3,none⟩=some (yx x):=fun W h=>⟨⟨(ad.out.onto h).cell 1 _ rfl,(ad.out.onto h).cell 3 _ rfl⟩,(ac.out.onto h).cell 0 _ rfl,(ac.out.onto h).cell 1 _ rfl,(ac.out.onto h).cell 2 _ rfl,(ac.out.onto h).cell 3 _ rfl⟩;have FS:=yv hfs;clear hfs;have cs:=fun W (hW:Below wX wX W)=>pP m.a m.l m.c x W (ug.pcs ((h.rows.m.later ab).later hW)) h.ml h.mc (zg h.inv.ml li) ((aX _ _).1 h.inv.m).2.2;skip;obtain ⟨q,hq⟩:∃ q,pm m.l x=q:=⟨_,rfl⟩;rw [hq] at cs h5 ⊢;obtain ⟨ql,qe⟩:=q;have CS:=yv cs;have h5':qe≠0:=h5;clear h ab hz cs hq h5;go_enter func121,ntmps121;have q3:wX.drew ⟨b,3,none⟩=some (yw m.a m.l.length m.c):=ae;go_wp2_with fail;clear ai aj ak ae al am an ao aq ar au av aw ax ay az a0 a1 a2 a4 a5 a6 a7 a8;clear hwX;refine zt (S:=(fun W:zh=>W ⟨w,0,none⟩=some (yy yz k)∧W ⟨w,1,none⟩=some (yy yz i)∧W ⟨w,2,none⟩=some (yy yz n)∧W ⟨w,3,none⟩=some (yx x))) lg (FS.out _ (Below.refl _ _).drew).2 (fun hHeld=>?_);refine ly 0 ?_;refine ly 1 ?_;refine ly 2 ?_;refine ly 3 ?_;refine ly 4 ?_;refine ly 6 ?_;refine ly 7 ?_;refine m8 5 fun K hK=>?_;go_simp;skip
 try go_wp2_with fail
 refine hK.out _ _ ?_ (fun hHeld=>?_)
 ·exact hHeld
 clear hK K
 try simp only [zi,mj]
 refine m8 8 fun K hK=>?_;go_simp
 (go_at_call 152;refine (CS.out _ (Below.refl _ _).drew).mono ?_;rintro e w3 ⟨a3,c3,rfl,af,a9⟩;have aa:Below wX wX w3:=(Below.refl _ _).drew.trans a9)
 try go_wp2_with fail
 refine hK.out _ _ ?_ (fun hHeld=>?_)
 ·exact (FS.out _ aa).2
 clear hK K
 try simp only [zi,mj]
 clear q3;refine ly 9 ?_;refine ly 10 ?_;have be:=yv (ad.out.onto aa);have bg:=yv (ac.out.onto aa);have bf:=yv (ba.out.later aa);have ah:=yv (bb.out.trans (S':=[]) (.of_below aa) lh);have bh:=yv (zg bc.out aa.size);have bi:=yv (af.off (S:=b::w::T) (bd.out _ (zj _)));have bj:=yv (zv af.le af.cap);clear af a9 aa CS;refine m8 11 fun K hK=>?_;go_simp
 (go_at_call 150;refine (qD _ _ _ _ h5').mono ?_;rintro e w4 ⟨rfl,rfl⟩)
 try go_wp2_with fail
 refine hK.out _ _ ?_ (fun hHeld=>?_)
 ·exact hHeld
 clear hK K
 try simp only [zi,mj]
 refine ly 12 ?_;refine zq lg ?_ _;go_wp2;go_ret;exact ⟨⟨t,m,u,ro,so,g⟩,rb,p,L,rfl,⟨be.out,H.out.rope.apart H.out.blk rfl ah.out,bf.out.wide (fun i hi=>.inl (by simp only [zf] at hi ⊢;rcases hi with h|h <;> simp [h])),H.out.ml,H.out.mc,H.out.inv,fun i hi=>zm (H.out.tlt i hi) (ah.out).size⟩,rfl,ah.out⟩
set_option maxHeartbeats 3200000 in
theorem tH {m:qv} {u ro:pa} {g:mo} (h:nz T w b ⟨t,m,u,ro,so,g⟩ rb p L) (k i n:Int) (x:ByteArray) (h5:(pm m.l x).2=0):zn prog 121 #[ze (some ⟨b,0,none⟩),(zu #[yy yz k,yy yz i,yy yz n,yx x])] w (nk T w b (⟨t,(pm m.l x).1,mf u.l,mf ro.l,so,g.l⟩,0)):=by
 have hbl:b<w:=h.lt;obtain ⟨wX,hwX,kE,ac,hz⟩:=nu w #[yy yz k,yy yz i,yy yz n,yx x] 50;have ae:=yv (show l6 wX b #[zd true,ze (some ⟨rb,0,none⟩),yx ⟨#[]⟩,yw m.a m.l.length m.c,yw u.a u.l.length u.c,yw ro.a ro.l.length ro.c,zd so,yw g.a g.l.length g.c] 100 from h.blk.onto ac);have ad:=yv (kE);have bf:=yv ((h.rows.wide (S':=b::w::T) (pw (zj _))).later ac);have bg:=yv ((lu.of_below ac:lu [b] w wX));have bh:=yv (zj wX);have ah:∀ W:zh,wX.heap.size≤W→∀ i∈b::w::T,i<W:=fun W hWz i hi=>by simp only [zf] at hi;rcases hi with rfl|rfl|hi;all_goals first|omega|(have:=h.tlt i hi;omega)
 have bi:=yv ah;have H:=yv h;have HB:=yv ac;clear ah kE;obtain ⟨ak,al,am,af,an,ao,aq,ar,au,av,aw,ax,ay,az,a0,a1⟩:=ae.out.all8;obtain ⟨a2,a4,a5,a6,a7,a8,a9,ba⟩:=ad.out.all4;have hfs:∀ W,Below wX wX W→(W ⟨b,1,none⟩=some (ze (some ⟨rb,0,none⟩))∧W ⟨b,3,none⟩=some (yw m.a m.l.length m.c))∧W ⟨w,0,none⟩=some (yy yz k)∧W ⟨w,1,none⟩=some (yy yz i)∧W ⟨w,2,none⟩=some (yy yz n)∧W ⟨w,3,none⟩=some (yx x):=fun W h=>⟨⟨(ae.out.onto h).cell 1 _ rfl,(ae.out.onto h).cell 3 _ rfl⟩,(ad.out.onto h).cell 0 _ rfl,(ad.out.onto h).cell 1 _ rfl,(ad.out.onto h).cell 2 _ rfl,(ad.out.onto h).cell 3 _ rfl⟩;have FS:=yv hfs;clear hfs;have cs:=fun W (hW:Below wX wX W)=>pP m.a m.l m.c x W (ug.pcs ((h.rows.m.later ac).later hW)) h.ml h.mc (zg h.inv.ml li) ((aX _ _).1 h.inv.m).2.2;have hri:=sM h.inv.m x h5;have ai:=yv hri;clear hri;obtain ⟨q,hq⟩:∃ q,pm m.l x=q:=⟨_,rfl⟩;rw [hq] at cs h5 ⊢;obtain ⟨ql,qe⟩:=q;have CS:=yv cs;replace ai:=yv (show m9 ql t=true by have e:=ai.out;rw [show (pm (lz.d ⟨t,m,u,ro,so,g⟩).m x)=(ql,qe) from hq] at e;exact e);have h5':qe=0:=h5;clear h ac hz cs hq h5;subst h5';go_enter func121,ntmps121;have q3:wX.drew ⟨b,3,none⟩=some (yw m.a m.l.length m.c):=af;go_wp2_with fail;clear ak al am af an ao aq ar au av aw ax ay az a0 a1 a2 a4 a5 a6 a7 a8 a9 ba;clear hwX;refine zt (S:=(fun W:zh=>W ⟨w,0,none⟩=some (yy yz k)∧W ⟨w,1,none⟩=some (yy yz i)∧W ⟨w,2,none⟩=some (yy yz n)∧W ⟨w,3,none⟩=some (yx x))) lg (FS.out _ (Below.refl _ _).drew).2 (fun hHeld=>?_);refine ly 0 ?_;refine ly 1 ?_;refine ly 2 ?_;refine ly 3 ?_;refine ly 4 ?_;refine ly 6 ?_;refine ly 7 ?_;refine m8 5 fun K hK=>?_;go_simp;skip
 try go_wp2_with fail
 refine hK.out _ _ ?_ (fun hHeld=>?_)
 ·exact hHeld
 clear hK K
 try simp only [zi,mj]
 refine m8 8 fun K hK=>?_;go_simp
 (go_at_call 152;refine (CS.out _ (Below.refl _ _).drew).mono ?_;rintro e w3 ⟨a3,c3,rfl,ag,bb⟩;have aa:Below wX wX w3:=(Below.refl _ _).drew.trans bb)
 try go_wp2_with fail
 refine hK.out _ _ ?_ (fun hHeld=>?_)
 ·exact (FS.out _ aa).2
 clear hK K
 try simp only [zi,mj]
 clear q3;refine ly 9 ?_;refine ly 10 ?_;have bj:=yv (ae.out.onto aa);have bk:=yv (ad.out.onto aa);have aj:=yv (bf.out.later aa);have bl:=yv (bg.out.trans (S':=[]) (.of_below aa) lh);have bn:=yv (zg bh.out aa.size);have bm:=yv (ag.off (S:=b::w::T) (bi.out _ (zj _)));have bc:=yv (zv ag.le ag.cap);clear ag bb aa CS;refine m8 11 fun K hK=>?_;go_simp
 (go_at_call 150;refine (zQ (made:=true) (r:=some ⟨rb,0,none⟩) (t:=⟨#[]⟩) (m:=m) (u:=u) (ro:=ro) (o:=so) (g:=g) bj.out a3 ql.length c3).mono ?_;rintro e w4 ⟨rfl,bd,be⟩;have ab:=yv (zv bd be);clear bd be)
 try go_wp2_with fail
 refine hK.out _ _ ?_ (fun hHeld=>?_)
 ·exact (by have h:=bk.out.apart ab.out.2 lr;exact ⟨h.cell 0 _ rfl,h.cell 1 _ rfl,h.cell 2 _ rfl,h.cell 3 _ rfl⟩)
 clear hK K
 try simp only [zi,mj]
 refine ly 12 ?_;refine zq lg ?_ _;have hba:=bl.out.trans ab.out.2 (fun x hx=>.inl hx);go_wp2;go_ret;exact ⟨⟨t,⟨a3,ql,c3⟩,u,ro,so,g⟩,rb,p,L,rfl,⟨ab.out.1,H.out.rope.apart H.out.blk rfl hba,⟨(bm.out.wide (fun i hi=>.inl (by simp only [zf] at hi ⊢;rcases hi with h|h <;> simp [h]))).apart (ab.out.2.more lh),(aj.out.u.wide (fun i hi=>.inl (by simp only [zf] at hi ⊢;rcases hi with h|h <;> simp [h]))).apart (ab.out.2.more lh),(aj.out.r.wide (fun i hi=>.inl (by simp only [zf] at hi ⊢;rcases hi with h|h <;> simp [h]))).apart (ab.out.2.more lh),(aj.out.g.wide (fun i hi=>.inl (by simp only [zf] at hi ⊢;rcases hi with h|h <;> simp [h]))).apart (ab.out.2.more lh)⟩,bc.out.1,bc.out.2,iK H.out.inv ai.out,fun i hi=>zm (H.out.tlt i hi) (hba).size⟩,rfl,hba⟩
def yj (s:mb) (x:Int) (eo en:ByteArray):mb×Int:=if 512<eo.size+en.size then (s,6) else if eo.size+en.size=0 then (s,0) else ph s ⟨x,eo,en⟩
theorem nR {s:lz} (h:nz T w b s rb p L) (x:Int) (eo en:ByteArray) (ho:eo.size≤140737488355328) (hn:en.size≤140737488355328) {rb':Nat} {p':Option zo} {L':List ByteArray} (hap:ot s.t x eo en=(t',0)) (hr:n7 w (some ⟨rb',0,none⟩) p' L' t') :
 zn prog 146 #[ze (some ⟨b,0,none⟩),ze (some ⟨rb',0,none⟩),vj x eo en] w (nk T w b (yj s.d x eo en)):=by
 obtain ⟨t,m,u,ro,so,g⟩:=s;unfold yj;by_cases h1:512<eo.size+en.size
 ·rw [if_pos h1];exact vI h _ x eo en ho hn h1
 rw [if_neg h1];by_cases h2:eo.size+en.size=0
 ·rw [if_pos h2];exact xP h _ x eo en ho hn h2
 rw [if_neg h2];cases so with
 | true =>
  by_cases h3:32≤g.l.length
  ·have e:ph (lz.d ⟨t,m,u,ro,true,g⟩) ⟨x,eo,en⟩=(lz.d ⟨t,m,u,ro,true,g⟩,9):=by unfold ph;rw [if_pos ⟨rfl,h3⟩]
   rw [e];exact uD h _ x eo en ho hn lf lf h3
  ·exact xO h x eo en ho hn lf lf hap hr lf
 | false=>exact qH h x eo en ho hn lf lf hap hr
theorem MB {s:mb} (h:ol s.t i x=0):yj s i ⟨#[]⟩ x=ur s i x:=by
 unfold yj ur insX;rw [if_neg (show ¬ ol s.t i x≠0 from fun g=>g h),show (⟨#[]⟩:ByteArray).size=0 from rfl,Bf]
theorem NE {s:mb} {n:Int} (h:pc s.t i n=0) (hn:((ve s.t i n).o.size:Int)=n):yj s i (ve s.t i n).o ⟨#[]⟩=uu s i n:=by
 unfold yj uu;rw [if_neg (show ¬ pc s.t i n≠0 from fun g=>g h),show (⟨#[]⟩:ByteArray).size=0 from rfl,Nat.add_zero];by_cases h1:512<(ve s.t i n).o.size
 ·rw [if_pos h1,if_pos (show (512:Int)<n by omega)]
 rw [if_neg h1,if_neg (show ¬ (512:Int)<n by omega)];by_cases h2:(ve s.t i n).o.size=0
 ·rw [if_pos h2,if_pos (show n=0 by omega)]
 rw [if_neg h2,if_neg (show ¬ n=0 by omega)];rfl
set_option maxHeartbeats 1600000 in
theorem xE {m:qv} {u ro:pa} {g:mo} (h:nz T w b ⟨t,m,u,ro,so,g⟩ rb p L) (k i n:Int) (x:ByteArray) (hx:x.size≤1000000) (hi:o8 i) (h1:ol t i x≠0):zn prog 118 #[ze (some ⟨b,0,none⟩),(zu #[yy yz k,yy yz i,yy yz n,yx x])] w (nk T w b ((lz.d ⟨t,m,u,ro,so,g⟩),ol t i x)):=by
 have hbl:b<w:=h.lt;obtain ⟨wX,hwX,kE,ab,hz⟩:=nu w #[yy yz k,yy yz i,yy yz n,yx x] 50;have ad:=yv (show l6 wX b #[zd true,ze (some ⟨rb,0,none⟩),yx ⟨#[]⟩,yw m.a m.l.length m.c,yw u.a u.l.length u.c,yw ro.a ro.l.length ro.c,zd so,yw g.a g.l.length g.c] 100 from h.blk.onto ab);have ac:=yv (kE);have a9:=yv ((h.rows.wide (S':=b::w::T) (pw (zj _))).later ab);have ba:=yv ((lu.of_below ab:lu [b] w wX));have bb:=yv (zj wX);have ae:∀ W:zh,wX.heap.size≤W→∀ i∈b::w::T,i<W:=fun W hWz i hi=>by simp only [zf] at hi;rcases hi with rfl|rfl|hi;all_goals first|omega|(have:=h.tlt i hi;omega)
 have b7:=yv ae;have H:=yv h;have HB:=yv ab;clear ae kE;obtain ⟨ag,ah,ai,aj,ak,al,am,an,ao,aq,ar,au,av,aw,ax,ay⟩:=ad.out.all8;obtain ⟨az,a0,a1,a2,a3,a4,a5,a6⟩:=ac.out.all4;have hfs:∀ W,Below wX wX W→W ⟨b,1,none⟩=some (ze (some ⟨rb,0,none⟩))∧W ⟨w,0,none⟩=some (yy yz k)∧W ⟨w,1,none⟩=some (yy yz i)∧W ⟨w,2,none⟩=some (yy yz n)∧W ⟨w,3,none⟩=some (yx x):=fun W h=>⟨(ad.out.onto h).cell 1 _ rfl,(ac.out.onto h).cell 0 _ rfl,(ac.out.onto h).cell 1 _ rfl,(ac.out.onto h).cell 2 _ rfl,(ac.out.onto h).cell 3 _ rfl⟩;have FS:=yv hfs;clear hfs;have cs:=fun W (hW:Below wX wX W)=>(wF (x:=x) (i:=i) ((h.rope.later ab).later hW) (show t.size≤4096 from h.inv.z) ln hi).mono fun e w' h=>h.no h1;have h1e:(ol t i x == 0)=false:=beq_eq_false_iff_ne.2 h1;obtain ⟨E,hE⟩:∃ E,ol t i x=E:=⟨_,rfl⟩;rw [hE] at cs h1e ⊢;have CS:=yv cs;clear cs h ab hz h1 hi hx hE;go_enter func118,ntmps118;go_wp2_with fail;clear ag ah ai aj ak al am an ao aq ar au av aw ax ay az a0 a1 a2 a3 a4 a5 a6;clear hwX;refine zt (S:=(fun W:zh=>W ⟨b,1,none⟩=some (ze (some ⟨rb,0,none⟩))∧W ⟨w,0,none⟩=some (yy yz k)∧W ⟨w,1,none⟩=some (yy yz i)∧W ⟨w,2,none⟩=some (yy yz n)∧W ⟨w,3,none⟩=some (yx x))) lg (FS.out _ (Below.refl _ _).drew) (fun hHeld=>?_);refine ly 0 ?_;refine ly 1 ?_;refine ly 2 ?_;refine ly 3 ?_;refine ly 4 ?_;refine ly 5 ?_;refine ly 6 ?_;refine ly 7 ?_;refine m8 8 fun K hK=>?_;go_simp
 (go_at_call 90;refine (CS.out _ (Below.refl _ _).drew).mono ?_;rintro e w1 ⟨rfl,a7⟩;have aa:Below wX wX w1:=(Below.refl _ _).drew.trans a7)
 try go_wp2_with fail
 refine hK.out _ _ ?_ (fun hHeld=>?_)
 ·exact FS.out _ aa
 clear hK K
 try simp only [zi,mj]
 refine ly 9 ?_;refine ly 10 ?_;refine ly 11 ?_;refine ly 12 ?_;refine ly 13 ?_;refine zq lg ?_ _;have a8:=yv (ad.out.onto aa);have bc:=yv (ac.out.onto aa);have bd:=yv (a9.out.later aa);have af:=yv (ba.out.trans (S':=[]) (.of_below aa) lh);have b8:=yv (zg bb.out aa.size);have b9:=yv aa;clear a7 aa CS;obtain ⟨be,bf,bg,bh,bi,bj,bk,bl,bm,bn,bo,bp,bq,br,bs,bu⟩:=a8.out.all8;obtain ⟨bv,bw,bx,bz,b3,b4,b5,b6⟩:=bc.out.all4;go_wp2;go_ret;exact ⟨⟨t,m,u,ro,so,g⟩,rb,p,L,rfl,⟨a8.out,H.out.rope.apart H.out.blk rfl af.out,bd.out.wide (fun i hi=>.inl (by simp only [zf] at hi ⊢;rcases hi with h|h <;> simp [h])),H.out.ml,H.out.mc,H.out.inv,fun i hi=>zm (H.out.tlt i hi) (af.out).size⟩,rfl,af.out⟩
set_option maxHeartbeats 1600000 in
theorem tG {m:qv} {u ro:pa} {g:mo} (h:nz T w b ⟨t,m,u,ro,so,g⟩ rb p L) (k i n:Int) (x:ByteArray) (hx:x.size≤1000000) (hi:o8 i) (h1:ol t i x=0):zn prog 118 #[ze (some ⟨b,0,none⟩),(zu #[yy yz k,yy yz i,yy yz n,yx x])] w (nk T w b (ur (lz.d ⟨t,m,u,ro,so,g⟩) i x)):=by
 have hbl:b<w:=h.lt;obtain ⟨wX,hwX,kE,ab,hz⟩:=nu w #[yy yz k,yy yz i,yy yz n,yx x] 50;have ad:=yv (show l6 wX b #[zd true,ze (some ⟨rb,0,none⟩),yx ⟨#[]⟩,yw m.a m.l.length m.c,yw u.a u.l.length u.c,yw ro.a ro.l.length ro.c,zd so,yw g.a g.l.length g.c] 100 from h.blk.onto ab);have ac:=yv (kE);have b4:=yv ((h.rows.wide (S':=b::w::T) (pw (zj _))).later ab);have b5:=yv ((lu.of_below ab:lu [b] w wX));have b6:=yv (zj wX);have ae:∀ W:zh,wX.heap.size≤W→∀ i∈b::w::T,i<W:=fun W hWz i hi=>by simp only [zf] at hi;rcases hi with rfl|rfl|hi;all_goals first|omega|(have:=h.tlt i hi;omega)
 have cc:=yv ae;have H:=yv h;have HB:=yv ab;clear ae kE;obtain ⟨af,ag,ah,ai,aj,ak,al,am,an,ao,aq,ar,au,av,aw,ax⟩:=ad.out.all8;obtain ⟨ay,az,a0,a1,a2,a3,a4,a5⟩:=ac.out.all4;have hfs:∀ W,Below wX wX W→W ⟨b,1,none⟩=some (ze (some ⟨rb,0,none⟩))∧W ⟨w,0,none⟩=some (yy yz k)∧W ⟨w,1,none⟩=some (yy yz i)∧W ⟨w,2,none⟩=some (yy yz n)∧W ⟨w,3,none⟩=some (yx x):=fun W h=>⟨(ad.out.onto h).cell 1 _ rfl,(ac.out.onto h).cell 0 _ rfl,(ac.out.onto h).cell 1 _ rfl,(ac.out.onto h).cell 2 _ rfl,(ac.out.onto h).cell 3 _ rfl⟩;have FS:=yv hfs;clear hfs;have cs:=fun W (hW:Below wX wX W)=>(wF (x:=x) (i:=i) ((h.rope.later ab).later hW) (show t.size≤4096 from h.inv.z) ln hi).mono fun e w' h=>h.yes h1;have ce:=fun W (hW:Below wX wX W) {rb':Nat} {p':Option zo} {L':List ByteArray} (hR:n7 W (some ⟨rb',0,none⟩) p' L' (sv t i x))=>nR ((h.later ab).later hW) i ⟨#[]⟩ x (Ab _) lf (zK h1) hR;rw [MB (s:=lz.d ⟨t,m,u,ro,so,g⟩) h1] at ce;obtain ⟨R,hR⟩:∃ R,ur (lz.d ⟨t,m,u,ro,so,g⟩) i x=R:=⟨_,rfl⟩;rw [hR] at ce ⊢;obtain ⟨Rs,Re⟩:=R;have CE:=yv ce;clear ce hR;have CS:=yv cs;clear cs h ab hz h1 hi hx;go_enter func118,ntmps118;go_wp2_with fail;clear af ag ah ai aj ak al am an ao aq ar au av aw ax ay az a0 a1 a2 a3 a4 a5;clear hwX;refine zt (S:=(fun W:zh=>W ⟨b,1,none⟩=some (ze (some ⟨rb,0,none⟩))∧W ⟨w,0,none⟩=some (yy yz k)∧W ⟨w,1,none⟩=some (yy yz i)∧W ⟨w,2,none⟩=some (yy yz n)∧W ⟨w,3,none⟩=some (yx x))) lg (FS.out _ (Below.refl _ _).drew) (fun hHeld=>?_);refine ly 0 ?_;refine ly 1 ?_;refine ly 2 ?_;refine ly 3 ?_;refine ly 4 ?_;refine ly 5 ?_;refine ly 6 ?_;refine ly 7 ?_;refine m8 8 fun K hK=>?_;go_simp
 (go_at_call 90;refine (CS.out _ (Below.refl _ _).drew).mono ?_;rintro e w1 ⟨rb',p',L',rfl,bv,bw⟩;have aa:Below wX wX w1:=(Below.refl _ _).drew.trans bw)
 try go_wp2_with fail
 refine hK.out _ _ ?_ (fun hHeld=>?_)
 ·exact FS.out _ aa
 clear hK K
 try simp only [zi,mj]
 refine ly 9 ?_;refine ly 10 ?_;refine ly 11 ?_;refine ly 12 ?_;refine ly 13 ?_;refine zq lg ?_ _;have b7:=yv (ad.out.onto aa);have b8:=yv (ac.out.onto aa);have cd:=yv (b4.out.later aa);have b9:=yv (b5.out.trans (S':=[]) (.of_below aa) lh);have cf:=yv (zg b6.out aa.size);have ca:=yv aa;clear bw aa CS;have cb:=yv bv;clear bv;obtain ⟨a6,a7,a8,a9,ba,bb,bc,bd,be,bf,bg,bh,bi,bj,bk,bl⟩:=b7.out.all8;obtain ⟨bm,bn,bo,bp,bq,br,bs,bu⟩:=b8.out.all4;go_wp2_with fail;refine (CE.out _ ca.out cb.out).mono ?_;rintro e w2 ⟨s2,rb2,p2,L2,rfl,bx,bz,b3⟩;have HQ:=yv (zv bx (zv bz b3));clear bx bz b3;clear a6 a7 a8 a9 ba bb bc bd be bf bg bh bi bj bk bl bm bn bo bp bq br bs bu;go_wp2;go_ret;exact ⟨s2,rb2,p2,L2,rfl,HQ.out.1,HQ.out.2.1,b9.out.trans HQ.out.2.2 (fun x hx=>.inl hx)⟩
set_option maxHeartbeats 1600000 in
theorem uG {m:qv} {u ro:pa} {g:mo} (h:nz T w b ⟨t,m,u,ro,so,g⟩ rb p L) (k i n:Int) (x:ByteArray) (hi:o8 i) (h1:pc t i n≠0):zn prog 119 #[ze (some ⟨b,0,none⟩),(zu #[yy yz k,yy yz i,yy yz n,yx x])] w (nk T w b ((lz.d ⟨t,m,u,ro,so,g⟩),pc t i n)):=by
 have hbl:b<w:=h.lt;obtain ⟨wX,hwX,kE,ab,hz⟩:=nu w #[yy yz k,yy yz i,yy yz n,yx x] 50;have ad:=yv (show l6 wX b #[zd true,ze (some ⟨rb,0,none⟩),yx ⟨#[]⟩,yw m.a m.l.length m.c,yw u.a u.l.length u.c,yw ro.a ro.l.length ro.c,zd so,yw g.a g.l.length g.c] 100 from h.blk.onto ab);have ac:=yv (kE);have a9:=yv ((h.rows.wide (S':=b::w::T) (pw (zj _))).later ab);have ba:=yv ((lu.of_below ab:lu [b] w wX));have bb:=yv (zj wX);have ae:∀ W:zh,wX.heap.size≤W→∀ i∈b::w::T,i<W:=fun W hWz i hi=>by simp only [zf] at hi;rcases hi with rfl|rfl|hi;all_goals first|omega|(have:=h.tlt i hi;omega)
 have b7:=yv ae;have H:=yv h;have HB:=yv ab;clear ae kE;obtain ⟨ag,ah,ai,aj,ak,al,am,an,ao,aq,ar,au,av,aw,ax,ay⟩:=ad.out.all8;obtain ⟨az,a0,a1,a2,a3,a4,a5,a6⟩:=ac.out.all4;have hfs:∀ W,Below wX wX W→W ⟨b,1,none⟩=some (ze (some ⟨rb,0,none⟩))∧W ⟨w,0,none⟩=some (yy yz k)∧W ⟨w,1,none⟩=some (yy yz i)∧W ⟨w,2,none⟩=some (yy yz n)∧W ⟨w,3,none⟩=some (yx x):=fun W h=>⟨(ad.out.onto h).cell 1 _ rfl,(ac.out.onto h).cell 0 _ rfl,(ac.out.onto h).cell 1 _ rfl,(ac.out.onto h).cell 2 _ rfl,(ac.out.onto h).cell 3 _ rfl⟩;have FS:=yv hfs;clear hfs;have cs:=fun W (hW:Below wX wX W)=>(FD (n:=n) (i:=i) ((h.rope.later ab).later hW) (show t.size≤4096 from h.inv.z) hi).mono fun e w' h=>h.no h1;have h1e:(pc t i n == 0)=false:=beq_eq_false_iff_ne.2 h1;obtain ⟨E,hE⟩:∃ E,pc t i n=E:=⟨_,rfl⟩;rw [hE] at cs h1e ⊢;have CS:=yv cs;clear cs h ab hz h1 hi hE;go_enter func119,ntmps119;go_wp2_with fail;clear ag ah ai aj ak al am an ao aq ar au av aw ax ay az a0 a1 a2 a3 a4 a5 a6;clear hwX;refine zt (S:=(fun W:zh=>W ⟨b,1,none⟩=some (ze (some ⟨rb,0,none⟩))∧W ⟨w,0,none⟩=some (yy yz k)∧W ⟨w,1,none⟩=some (yy yz i)∧W ⟨w,2,none⟩=some (yy yz n)∧W ⟨w,3,none⟩=some (yx x))) lg (FS.out _ (Below.refl _ _).drew) (fun hHeld=>?_);refine ly 0 ?_;refine ly 1 ?_;refine ly 2 ?_;refine ly 3 ?_;refine ly 4 ?_;refine ly 5 ?_;refine ly 6 ?_;refine ly 7 ?_;refine m8 8 fun K hK=>?_;go_simp
 (go_at_call 147;refine (CS.out _ (Below.refl _ _).drew).mono ?_;rintro e w1 ⟨rfl,a7⟩;have aa:Below wX wX w1:=(Below.refl _ _).drew.trans a7)
 try go_wp2_with fail
 refine hK.out _ _ ?_ (fun hHeld=>?_)
 ·exact FS.out _ aa
 clear hK K
 try simp only [zi,mj]
 refine ly 9 ?_;refine ly 10 ?_;refine ly 11 ?_;refine ly 12 ?_;refine ly 13 ?_;refine zq lg ?_ _;have a8:=yv (ad.out.onto aa);have bc:=yv (ac.out.onto aa);have bd:=yv (a9.out.later aa);have af:=yv (ba.out.trans (S':=[]) (.of_below aa) lh);have b8:=yv (zg bb.out aa.size);have b9:=yv aa;clear a7 aa CS;obtain ⟨be,bf,bg,bh,bi,bj,bk,bl,bm,bn,bo,bp,bq,br,bs,bu⟩:=a8.out.all8;obtain ⟨bv,bw,bx,bz,b3,b4,b5,b6⟩:=bc.out.all4;go_wp2;go_ret;exact ⟨⟨t,m,u,ro,so,g⟩,rb,p,L,rfl,⟨a8.out,H.out.rope.apart H.out.blk rfl af.out,bd.out.wide (fun i hi=>.inl (by simp only [zf] at hi ⊢;rcases hi with h|h <;> simp [h])),H.out.ml,H.out.mc,H.out.inv,fun i hi=>zm (H.out.tlt i hi) (af.out).size⟩,rfl,af.out⟩
set_option maxHeartbeats 1600000 in
theorem tI {m:qv} {u ro:pa} {g:mo} (h:nz T w b ⟨t,m,u,ro,so,g⟩ rb p L) (k i n:Int) (x:ByteArray) (hi:o8 i) (h1:pc t i n=0):zn prog 119 #[ze (some ⟨b,0,none⟩),(zu #[yy yz k,yy yz i,yy yz n,yx x])] w (nk T w b (uu (lz.d ⟨t,m,u,ro,so,g⟩) i n)):=by
 have hbl:b<w:=h.lt;obtain ⟨wX,hwX,kE,ac,hz⟩:=nu w #[yy yz k,yy yz i,yy yz n,yx x] 50;have af:=yv (show l6 wX b #[zd true,ze (some ⟨rb,0,none⟩),yx ⟨#[]⟩,yw m.a m.l.length m.c,yw u.a u.l.length u.c,yw ro.a ro.l.length ro.c,zd so,yw g.a g.l.length g.c] 100 from h.blk.onto ac);have ad:=yv (kE);have c4:=yv ((h.rows.wide (S':=b::w::T) (pw (zj _))).later ac);have c5:=yv ((lu.of_below ac:lu [b] w wX));have c6:=yv (zj wX);have ag:∀ W:zh,wX.heap.size≤W→∀ i∈b::w::T,i<W:=fun W hWz i hi=>by simp only [zf] at hi;rcases hi with rfl|rfl|hi;all_goals first|omega|(have:=h.tlt i hi;omega)
 have df:=yv ag;have H:=yv h;have HB:=yv ac;clear ag kE;obtain ⟨ah,ai,aj,ak,al,am,an,ao,aq,ar,au,av,aw,ax,ay,az⟩:=af.out.all8;obtain ⟨a0,a1,a2,a3,a4,a5,a6,a7⟩:=ad.out.all4;have hfs:∀ W,Below wX wX W→W ⟨b,1,none⟩=some (ze (some ⟨rb,0,none⟩))∧W ⟨w,0,none⟩=some (yy yz k)∧W ⟨w,1,none⟩=some (yy yz i)∧W ⟨w,2,none⟩=some (yy yz n)∧W ⟨w,3,none⟩=some (yx x):=fun W h=>⟨(af.out.onto h).cell 1 _ rfl,(ad.out.onto h).cell 0 _ rfl,(ad.out.onto h).cell 1 _ rfl,(ad.out.onto h).cell 2 _ rfl,(ad.out.onto h).cell 3 _ rfl⟩;have FS:=yv hfs;clear hfs;have cs:=fun W (hW:Below wX wX W)=>(FD (n:=n) (i:=i) ((h.rope.later ac).later hW) (show t.size≤4096 from h.inv.z) hi).mono fun e w' h=>h.yes h1;obtain ⟨da,dz⟩:=zV (i:=i) (n:=n) h.inv.v h.inv.z h1;have hst:=aZ.1 (iG h1).1;obtain ⟨i',rfl⟩:=Am hst.1;obtain ⟨n',rfl⟩:=Am hst.2.1;have hle:i'+n'≤t.size:=lf;have hdx:(ve (lz.d ⟨t,m,u,ro,so,g⟩).t (i':Int) (n':Int)).o=t.extract i' (i'+n'):=by show t.extract _ _=_;congr 1
 have c2:=fun W (hW:Below wX wX W)=>OE ((h.rope.later ac).later hW) hle;have ce:=fun W (hW:Below wX wX W) {rb':Nat} {p':Option zo} {L':List ByteArray} (hR:n7 W (some ⟨rb',0,none⟩) p' L' (ui t i' n'))=>nR ((h.later ac).later hW) i' (ve (lz.d ⟨t,m,u,ro,so,g⟩).t i' n').o ⟨#[]⟩ (by have:=h.inv.z;replace this:t.size≤4096:=this;omega) (Ab _) da hR;rw [NE (s:=lz.d ⟨t,m,u,ro,so,g⟩) h1 dz,hdx] at ce;obtain ⟨R,hR⟩:∃ R,uu (lz.d ⟨t,m,u,ro,so,g⟩) (i':Int) (n':Int)=R:=⟨_,rfl⟩;rw [hR] at ce ⊢;obtain ⟨Rs,Re⟩:=R;obtain ⟨old,hold⟩:∃ old,t.extract i' (i'+n')=old:=⟨_,rfl⟩;rw [hold] at ce c2;have CE:=yv ce;have C2:=yv c2;clear ce c2 hR hdx da dz hst hle hold;have CS:=yv cs;clear cs h ac hz h1 hi;go_enter func119,ntmps119;go_wp2_with fail;clear ah ai aj ak al am an ao aq ar au av aw ax ay az a0 a1 a2 a3 a4 a5 a6 a7;clear hwX;refine zt (S:=(fun W:zh=>W ⟨b,1,none⟩=some (ze (some ⟨rb,0,none⟩))∧W ⟨w,0,none⟩=some (yy yz k)∧W ⟨w,1,none⟩=some (yy yz (i':Int))∧W ⟨w,2,none⟩=some (yy yz (n':Int))∧W ⟨w,3,none⟩=some (yx x))) lg (FS.out _ (Below.refl _ _).drew) (fun hHeld=>?_);refine ly 0 ?_;refine ly 1 ?_;refine ly 2 ?_;refine ly 3 ?_;refine ly 4 ?_;refine ly 5 ?_;refine ly 6 ?_;refine ly 7 ?_;refine m8 8 fun K hK=>?_;go_simp
 (go_at_call 147;refine (CS.out _ (Below.refl _ _).drew).mono ?_;rintro e w1 ⟨rb',p',L',rfl,cq,cr⟩;have aa:Below wX wX w1:=(Below.refl _ _).drew.trans cr)
 try go_wp2_with fail
 refine hK.out _ _ ?_ (fun hHeld=>?_)
 ·exact FS.out _ aa
 clear hK K
 try simp only [zi,mj]
 refine ly 9 ?_;refine ly 10 ?_;refine ly 11 ?_;refine ly 12 ?_;refine ly 13 ?_;refine zq lg ?_ _;have ct:=yv (af.out.onto aa);have cu:=yv (ad.out.onto aa);have c7:=yv (c4.out.later aa);have c8:=yv (c5.out.trans (S':=[]) (.of_below aa) lh);have c9:=yv (zg c6.out aa.size);have ae:=yv aa;clear cr aa CS;have cv:=yv cq;clear cq;obtain ⟨a8,a9,ba,bb,bc,bd,be,bf,bg,bh,bi,bj,bk,bl,bm,bn⟩:=ct.out.all8;obtain ⟨bo,bp,bq,br,bs,bu,bv,bw⟩:=cu.out.all4;go_wp2_with fail;clear a8 a9 ba bb bc bd be bf bg bh bi bj bk bl bm bn bo bp bq br bs bu bv bw;refine zt (S:=(fun W:zh=>W ⟨b,1,none⟩=some (ze (some ⟨rb,0,none⟩))∧W ⟨w,0,none⟩=some (yy yz k)∧W ⟨w,1,none⟩=some (yy yz (i':Int))∧W ⟨w,2,none⟩=some (yy yz (n':Int))∧W ⟨w,3,none⟩=some (yx x))) lg (FS.out _ ae.out.drew) (fun hHeld=>?_);refine ly 0 ?_;refine ly 1 ?_;refine ly 2 ?_;refine ly 3 ?_;refine ly 4 ?_;refine ly 5 ?_;refine ly 6 ?_;refine ly 7 ?_;refine m8 8 fun K hK=>?_;go_simp
 (go_at_call 148;refine (C2.out _ ae.out.drew).mono ?_;rintro e w2 ⟨rfl,cw⟩;have ab:Below w1 w1 w2:=(Below.refl _ _).drew.trans cw;have cx:=yv (ae.out.trans (ab.mono ae.out.size)))
 try go_wp2_with fail
 refine hK.out _ _ ?_ (fun hHeld=>?_)
 ·exact FS.out _ cx.out
 clear hK K
 try simp only [zi,mj]
 refine ly 9 ?_;refine ly 10 ?_;refine ly 11 ?_;refine ly 12 ?_;refine ly 13 ?_;refine zq lg ?_ _;have db:=yv (ct.out.onto ab);have dc:=yv (cu.out.onto ab);have dg:=yv (c7.out.later ab);have dd:=yv (c8.out.trans (S':=[]) (.of_below ab) lh);have dh:=yv (zg c9.out ab.size);have de:=yv (cv.out.later ab);clear cw ab C2 cv;obtain ⟨bx,bz,b3,b4,b5,b6,b7,b8,b9,ca,cb,cc,cd,cf,cg,ch⟩:=db.out.all8;obtain ⟨ci,cj,ck,cl,cm,cn,co,cp⟩:=dc.out.all4;go_wp2_with fail;refine (CE.out _ cx.out de.out).mono ?_;rintro e w3 ⟨s2,rb2,p2,L2,rfl,cy,cz,c3⟩;have HQ:=yv (zv cy (zv cz c3));clear cy cz c3;clear bx bz b3 b4 b5 b6 b7 b8 b9 ca cb cc cd cf cg ch ci cj ck cl cm cn co cp;go_wp2;go_ret;exact ⟨s2,rb2,p2,L2,rfl,HQ.out.1,HQ.out.2.1,dd.out.trans HQ.out.2.2 (fun x hx=>.inl hx)⟩
end Go.Proofs.YtbagenpobcgjnaaGreat
namespace Go.Proofs.YtbagenpobcgjnaaGreat
open Go.RowKit
set_option linter.unusedVariables false
set_option linter.unusedSimpArgs false
theorem mx.bare {s:mb} (h:mx s) (ho:s.o=false):s.g=[]:=by
 rcases h.go with g|g
 ·exact g
 ·rw [ho] at g;cases g.1
theorem tW {s:mb} (h:mx s) (ho:s.o=false) (hk:s.u.length=k+1):∃ t',mu s.t (me s.u[k]!)=(t',0)∧oa t'.data.toList=true∧t'.size≤4096:=by
 have hu:=h.u;rw [h.bare ho] at hu;obtain ⟨hr,-⟩:=fA hk hu;obtain ⟨t',e,hv,hz,-⟩:=h.runs hr;exact ⟨t',e,hv,hz⟩
theorem wD {s:mb} (h:mx s) (hk:s.r.length=k+1):∃ t',mu s.t s.r[k]! = (t',0)∧oa t'.data.toList=true∧t'.size≤4096:=by
 obtain ⟨hr,-⟩:=fA hk h.r;obtain ⟨t',e,hv,hz,-⟩:=h.runs (st:=s.r[k]!) hr;exact ⟨t',e,hv,hz⟩
theorem tC {s:mb} (ho:s.o=false) (hk:s.u.length=k+1) (hr:mu s.t (me s.u[k]!)=(t',0)):pt s=(⟨t',rq s.m (me s.u[k]!),s.u.take k,np s.r s.u[k]!,false,s.g⟩,0):=by
 unfold pt;rw [if_neg (by rw [ho];decide),if_neg lf,show s.u.length - 1=k by omega,hr,ho]
theorem sD {s:mb} (ho:s.o=false) (hk:s.r.length=k+1) (hr:mu s.t s.r[k]! = (t',0)):pu s=(⟨t',rq s.m s.r[k]!,np s.u s.r[k]!,s.r.take k,false,s.g⟩,0):=by
 unfold pu;rw [if_neg (by rw [ho];decide),if_neg lf,show s.r.length - 1=k by omega,hr,ho]
open Go.Proofs.Tryz
set_option maxRecDepth 100000
open Lib (hid)
theorem tm {s:lz} (hin:mq S w s) (hS:qf S w) (oc:Array zs):∃ W,((w.alloc (zk #[yx s.t,yw s.m.a s.m.l.length s.m.c,yw s.u.a s.u.l.length s.u.c,yw s.r.a s.r.l.length s.r.c,zd s.o,yw s.g.a s.g.l.length s.g.c] 26)).alloc (zk oc 50)).alloc (zk #[yx ⟨#[]⟩,yw none 0 0,yw none 0 0,yw none 0 0,zd false,yw none 0 0] 26)=W∧l6 W (w) #[yx s.t,yw s.m.a s.m.l.length s.m.c,yw s.u.a s.u.l.length s.u.c,yw s.r.a s.r.l.length s.r.c,zd s.o,yw s.g.a s.g.l.length s.g.c] 26∧l6 W (w+1) oc 50∧l6 W (w+1+1) #[yx ⟨#[]⟩,yw none 0 0,yw none 0 0,yw none 0 0,zd false,yw none 0 0] 26∧mq (w::(w.heap.size+1)::(w.heap.size+1+1)::S) W s∧qf (w::(w.heap.size+1)::(w.heap.size+1+1)::S) W∧Below w w W∧W.heap.size=w+1+1+1:=by
 obtain ⟨W,hW,kA,kB,kC,hb,hz⟩:=xi w #[yx s.t,yw s.m.a s.m.l.length s.m.c,yw s.u.a s.u.l.length s.u.c,yw s.r.a s.r.l.length s.r.c,zd s.o,yw s.g.a s.g.l.length s.g.c] oc #[yx ⟨#[]⟩,yw none 0 0,yw none 0 0,yw none 0 0,zd false,yw none 0 0] 26 50 26;exact ⟨W,hW,kA,kB,kC,(hin.wide (S':=(w.heap.size::(w.heap.size+1)::(w.heap.size+1+1)::S)) (fun i hi=>by simp only [zf] at hi;rcases hi with rfl|rfl|rfl|hi;exact .inr (zj _);exact .inr (Ar _);exact .inr lf;exact .inl hi)).later hb,gR hS hz rfl,hb,hz⟩
theorem uq {s:lz} {c0 c1 c2 c3 c4 c5:zs} (hB:Below w w W) (hr:mq (w::(w.heap.size+1)::(w.heap.size+1+1)::S) W s):mq S ((Ae (Ae (Ae (Ae (Ae (Ae W ⟨w+1+1,0,none⟩ c0) ⟨w+1+1,1,none⟩ c1) ⟨w+1+1,2,none⟩ c2) ⟨w+1+1,3,none⟩ c3) ⟨w+1+1,4,none⟩ c4) ⟨w+1+1,5,none⟩ c5)) s∧Below w w ((Ae (Ae (Ae (Ae (Ae (Ae W ⟨w+1+1,0,none⟩ c0) ⟨w+1+1,1,none⟩ c1) ⟨w+1+1,2,none⟩ c2) ⟨w+1+1,3,none⟩ c3) ⟨w+1+1,4,none⟩ c4) ⟨w+1+1,5,none⟩ c5)):=by
 refine ⟨mq.wide (S:=(w.heap.size::(w.heap.size+1)::(w.heap.size+1+1)::S)) (hr.apart ?_) (fun i hi=>.inl (by simp [hi])),?_⟩
 ·iterate 6 refine lu.setCell ?_ (.inl lh) _
  exact lu.refl _ _
 ·iterate 6 refine Below.setCell ?_ (by show w.heap.size≤w+1+1;omega) _
  exact hB
set_option maxHeartbeats 1600000 in
theorem jS (s:lz) (p:Int) (o en:ByteArray) (S:List Nat) (w:zh) (hin:mq S w s) (hS:qf S w) (ht:s.t.size≤140737488355328) (ho:o.size≤140737488355328) (hn:en.size≤140737488355328) (hl:s.m.l.length≤1000000)
 (hp:-2305843009213693952≤p∧p≤2305843009213693952) (ha:∀ x∈s.m.l,-2305843009213693952≤x.p∧x.p≤2305843009213693952) :
 zn prog 75 #[s.v,vj p o en] w fun e w'=>∃ ma mc,e=zz (xj (ot s.t p o en).1 (yw ma (pd s.m.l (mw p o.size en.size)).length mc) (yw s.u.a s.u.l.length s.u.c) (yw s.r.a s.r.l.length s.r.c) s.o (yw s.g.a s.g.l.length s.g.c))∧ug S w' ⟨ma,pd s.m.l (mw p o.size en.size),mc⟩∧Below w w w':=by
 have cA:=fun W=>pX s.t o en ht ho hn p W;have cS:=fun W (hW:Below w w W)=>tQ s.m.a s.m.l s.m.c p o en (pj S W) W (hin.m.later hW).row (fun _ h=>h.1) hl ho hn hp ha;obtain ⟨⟨t',er⟩,hA⟩:∃ y,ot s.t p o en=y:=⟨_,rfl⟩;obtain ⟨M,hM⟩:∃ M,pd s.m.l (mw p o.size en.size)=M:=⟨_,rfl⟩;rw [hA] at cA ⊢;rw [hM] at cS ⊢;obtain ⟨wX,hwX,kA,kB,kC,ab,hz⟩:=xi w #[yx s.t,yw s.m.a s.m.l.length s.m.c,yw s.u.a s.u.l.length s.u.c,yw s.r.a s.r.l.length s.r.c,zd s.o,yw s.g.a s.g.l.length s.g.c] #[yy yz p,yx o,yx en] #[yx ⟨#[]⟩,yw none 0 0,yw none 0 0,yw none 0 0,zd false,yw none 0 0] 26 92 26;have inT:=gR hS hz rfl;have rU:mq (w::(w.heap.size+1)::(w.heap.size+1+1)::S) wX s:=(hin.wide (S':=(w.heap.size::(w.heap.size+1)::(w.heap.size+1+1)::S)) (fun i hi=>by simp only [zf] at hi;rcases hi with rfl|rfl|rfl|hi;exact .inr (zj _);exact .inr (Ar _);exact .inr lf;exact .inl hi)).later ab;have ac:=yv (kA);have ad:=yv (kB);have ae:=yv (kC);have dr:=yv (rU);have af:=yv (ab);have ds:=yv (zj wX);have CA:=yv cA;have CS:=yv cS;have INT:=yv inT;have LEN:=yv hl;obtain ⟨ar,au,av,aw,ax,ay,az,a0,a1,a2,a3,a4⟩:=ac.out.all6;obtain ⟨a5,a6,a7,a8,a9,ba⟩:=ad.out.all3;obtain ⟨bb,bc,bd,be,bf,bg,bh,bi,bj,bk,bl,bm⟩:=ae.out.all6;clear kA kB kC rU ab inT cA cS hin hS hA hM hz hl ht ho hn hp ha;go_enter func75,ntmps75;go_wp2_with fail;refine (CA.out _).mono ?_;rintro e w1 ⟨rfl,hb⟩;clear ar au av aw ax ay az a0 a1 a2 a3 a4 a5 a6 a7 a8 a9 ba bb bc bd be bf bg bh bi bj bk bl bm;have ag:=yv (ac.out.onto hb);have ah:=yv (ad.out.onto hb);have ai:=yv (ae.out.onto hb);have dt:=yv (dr.out.later hb);have du:=yv (af.out.trans (hb.mono af.out.size));have dv:=yv (zg ds.out hb.size);clear hb ac ad ae dr af ds;obtain ⟨bn,bo,bp,bq,br,bs,bu,bv,bw,bx,bz,b3⟩:=ag.out.all6;obtain ⟨b4,b5,b6,b7,b8,b9⟩:=ah.out.all3;obtain ⟨ca,cb,cc,cd,ce,cf,cg,ch,ci,cj,ck,cl⟩:=ai.out.all6;clear hwX;have kA:l6 (w1.setCell ⟨w,0,none⟩ (yx t')) (w) #[yx t',yw s.m.a s.m.l.length s.m.c,yw s.u.a s.u.l.length s.u.c,yw s.r.a s.r.l.length s.r.c,zd s.o,yw s.g.a s.g.l.length s.g.c] 26:=(ag.out.set 0 _);have kB:l6 (w1.setCell ⟨w,0,none⟩ (yx t')) (w+1) #[yy yz p,yx o,yx en] 92:=(ah.out.other ⟨w,0,none⟩ (by show w.heap.size≠w+1;omega) _);have kC:l6 (w1.setCell ⟨w,0,none⟩ (yx t')) (w+1+1) #[yx ⟨#[]⟩,yw none 0 0,yw none 0 0,yw none 0 0,zd false,yw none 0 0] 26:=(ai.out.other ⟨w,0,none⟩ (by show w.heap.size≠w+1+1;omega) _);have ap:lu (w::(w.heap.size+1)::(w.heap.size+1+1)::S) w1 (w1.setCell ⟨w,0,none⟩ (yx t')):=(lu.refl (w::(w.heap.size+1)::(w.heap.size+1+1)::S) w1).setCell (p:=⟨w,0,none⟩) (.inl lh) _;have rU:=dt.out.apart ap;have hB:=((du.out.setCell (p:=⟨w,0,none⟩) (by show w.heap.size≤w;omega) _):Below w w (w1.setCell ⟨w,0,none⟩ (yx t')));have hz:(w1.setCell ⟨w,0,none⟩ (yx t')).heap.size=w1:=lh;obtain ⟨v2,dw⟩:∃ V,(w1.setCell ⟨w,0,none⟩ (yx t'))=V:=⟨_,rfl⟩;rw [dw] at kA kB kC rU hB hz;have aj:=yv kA;have ak:=yv kB;have al:=yv kC;have dx:=yv rU;have aa:=yv hB;have am:=yv (zg dv.out (zr hz.symm));clear kA kB kC rU hB hz ap ag ah ai dt du dv;obtain ⟨cm,cn,co,cp,cq,cr,ct,cu,cv,cw,cx,cy⟩:=aj.out.all6;obtain ⟨cz,c3,c4,c5,c6,c7⟩:=ak.out.all3;obtain ⟨c8,c9,da,db,dc,dd,de,df,dg,dh,di,dj⟩:=al.out.all6;go_wp2_with fail;refine (CS.out _ aa.out).mono ?_;rintro e w3 ⟨ma,mc,rfl,hm,hb⟩;clear bn bo bp bq br bs bu bv bw bx bz b3 b4 b5 b6 b7 b8 b9 ca cb cc cd ce cf cg ch ci cj ck cl dw cm cn co cp cq cr ct cu cv cw cx cy cz c3 c4 c5 c6 c7 c8 c9 da db dc dd de df dg dh di dj;have an:=yv (aj.out.onto hb);have ao:=yv (ak.out.onto hb);have aq:=yv (al.out.onto hb);have dy:=yv (dx.out.later hb);have dz:=yv (aa.out.trans (hb.mono aa.out.size));have d0:=yv (zg am.out hb.size);have d1:=yv (hm.off (S:=(w.heap.size::(w.heap.size+1)::(w.heap.size+1+1)::S)) (fun i hi=>zm (INT.out i hi) am.out));clear hb hm aj ak al dx aa am;obtain ⟨d8,d9,ea,eb,ec,ed,ee,ef,eg,eh,ei,ej⟩:=an.out.all6;obtain ⟨ek,el,em,eo,ep,es⟩:=ao.out.all3;obtain ⟨et,eu,ev,ew,ey,e0,e3,e4,e5,e6,e7,e8⟩:=aq.out.all6;have kA:l6 (w3.setCell ⟨w,1,none⟩ (yw ma M.length mc)) (w) #[yx t',yw ma M.length mc,yw s.u.a s.u.l.length s.u.c,yw s.r.a s.r.l.length s.r.c,zd s.o,yw s.g.a s.g.l.length s.g.c] 26:=(an.out.set 1 _);have kB:l6 (w3.setCell ⟨w,1,none⟩ (yw ma M.length mc)) (w+1) #[yy yz p,yx o,yx en] 92:=(ao.out.other ⟨w,1,none⟩ (by show w.heap.size≠w+1;omega) _);have kC:l6 (w3.setCell ⟨w,1,none⟩ (yw ma M.length mc)) (w+1+1) #[yx ⟨#[]⟩,yw none 0 0,yw none 0 0,yw none 0 0,zd false,yw none 0 0] 26:=(aq.out.other ⟨w,1,none⟩ (by show w.heap.size≠w+1+1;omega) _);have ap:lu (w::(w.heap.size+1)::(w.heap.size+1+1)::S) w3 (w3.setCell ⟨w,1,none⟩ (yw ma M.length mc)):=(lu.refl (w::(w.heap.size+1)::(w.heap.size+1+1)::S) w3).setCell (p:=⟨w,1,none⟩) (.inl lh) _;have rU:=dy.out.apart ap;have rM:=d1.out.apart ap;have hB:=((dz.out.setCell (p:=⟨w,1,none⟩) (by show w.heap.size≤w;omega) _):Below w w (w3.setCell ⟨w,1,none⟩ (yw ma M.length mc)));have hz:(w3.setCell ⟨w,1,none⟩ (yw ma M.length mc)).heap.size=w3:=lh;obtain ⟨v4,d2⟩:∃ V,(w3.setCell ⟨w,1,none⟩ (yw ma M.length mc))=V:=⟨_,rfl⟩;rw [d2] at kA kB kC rU rM hB hz;have d3:=yv kA;have d4:=yv kB;have d5:=yv kC;have fy:=yv rU;have d6:=yv rM;have d7:=yv hB;have fz:=yv (zg d0.out (zr hz.symm));clear kA kB kC rU rM hB hz ap an ao aq dy d1 dz d0;obtain ⟨e9,fa,fb,fc,fd,fe,ff,fg,fh,fi,fj,fk⟩:=d3.out.all6;obtain ⟨fm,fn,fo,fp,fq,fr⟩:=d4.out.all3;obtain ⟨dk,dl,dm,dn,dp,dq,fs,ft,fu,fv,fw,fx⟩:=d5.out.all6;go_wp2;refine Ak (v:=xj t' (yw ma M.length mc) (yw s.u.a s.u.l.length s.u.c) (yw s.r.a s.r.l.length s.r.c) s.o (yw s.g.a s.g.l.length s.g.c)) (by simp [A3,results75,go_sem,dk,dl,dm,dn,dp,dq]) rfl ?_;refine ⟨ma,mc,rfl,(d6.out.apart ?_).wide (fun i hi=>.inl (by simp [hi])),?_⟩
 ·iterate 6 refine lu.setCell ?_ (.inl lh) _
  exact lu.refl _ _
 ·iterate 6 refine Below.setCell ?_ (by show w.heap.size≤w+1+1;omega) _
  exact d7.out
def oh (S:List Nat) (w:zh) (r:mb×Int) (e:A0) (w':zh):Prop:=∃ s':lz,e=zz (Ai #[s'.v,yy yz r.2])∧s'.d=r.1∧mq S w' s'∧Below w w w'
theorem dZ {B:Nat} (_:Below B w W) (cs:Array zs) (t:Aa) (hn:W=n):l6 (W.alloc (zk cs t)) n cs t:=hn ▸ l6.new W cs t
theorem eI {B:Nat} (hB:B≤W) (hn:W=n):(W.alloc (zk #[] 92)).ownsRow B 92 3 (yw (some ⟨n,0,none⟩) 0 0) 0 []:=by
 subst hn;have h:=World.ownsRow_made (size:=3) (e:=92) W #[] 0 hB (Ab _) lh;simpa using h
theorem blk3c {x y z:zs} {t:Aa} (h:l6 w b #[x,y,z] t):w ⟨b,0,none⟩=some x∧w ⟨b,1,none⟩=some y∧w ⟨b,2,none⟩=some z:=⟨h.cell 0 _ rfl,h.cell 1 _ rfl,h.cell 2 _ rfl⟩
theorem KD (a b:List l7):l7.flat (a++b)=l7.flat a++l7.flat b:=by simp [l7.flat]
theorem zR {l:List l7} (h:o4 w ⟨a,l,c⟩):xw w 3 (yw a l.length c) l.length (l7.flat l):=by
 cases a with
 | none =>
  have e0:l=[]:=h.len rfl;have e1:c=0:=h.nil rfl;subst e0;subst e1;exact .inl ⟨rfl,rfl,rfl⟩
 | some ad=>exact .inr ⟨ad,c,rfl,l7.flat_len l,lP h.row,mC l⟩
theorem MF {p:Int} {o n:ByteArray} {t:Aa} (h:l6 w b #[yy yz p,yx o,yx n] t):xw w 3 (yw (some ⟨b,0,none⟩) 1 1) 1 [yy yz p,yx o,yx n]:=by
 have h2:=zR (su.in (S:=[]) (x:=⟨some ⟨b,0,none⟩,[⟨p,o,n⟩],1⟩) ⟨eone h ⟨h.lt,lh⟩,fun e=>by cases e⟩);simpa [l7.flat] using h2
set_option maxHeartbeats 6400000 in
theorem nS (s:lz) (p:Int) (o en:ByteArray) (S:List Nat) (w:zh) (hin:mq S w s) (hS:qf S w) (ht:s.t.size≤140737488355328) (ho:o.size≤140737488355328) (hn:en.size≤140737488355328) (hl:s.m.l.length≤1000000)
 (hp:-2305843009213693952≤p∧p≤2305843009213693952) (ha:∀ x∈s.m.l,-2305843009213693952≤x.p∧x.p≤2305843009213693952) (hu:s.u.l.length≤900) :
 zn prog 71 #[s.v,vj p o en] w (oh S w (ph s.d ⟨p,o,en⟩)):=by
 have cp:=fun W (hU:mq (w::(w.heap.size+1)::(w.heap.size+1+1)::S) W s) (hI:qf (w::(w.heap.size+1)::(w.heap.size+1+1)::S) W)=>jS s p o en (w::(w.heap.size+1)::(w.heap.size+1+1)::S) W hU hI ht ho hn hl hp ha;obtain ⟨i0,hi,bw,bx,bz⟩:=info_parts eU;obtain ⟨t,m,u,r,so,g⟩:=s;replace hu:u.l.length≤900:=hu;cases so with
 | true =>
  by_cases h1:32≤g.l.length
  ·have e1:ph (lz.d ⟨t,m,u,r,true,g⟩) ⟨p,o,en⟩=(lz.d ⟨t,m,u,r,true,g⟩,9):=by unfold ph;rw [if_pos ⟨rfl,h1⟩]
   rw [e1];clear e1 cp ht ho hn hl hp ha hu hi bw bx bz;have CP:=yv True.intro;obtain ⟨wX,hwX,kA,kB,kC,aa,hz⟩:=xi w #[yx t,yw m.a m.l.length m.c,yw u.a u.l.length u.c,yw r.a r.l.length r.c,zd true,yw g.a g.l.length g.c] #[yy yz p,yx o,yx en] #[yx ⟨#[]⟩,yw none 0 0,yw none 0 0,yw none 0 0,zd false,yw none 0 0] 26 92 26;have inT:=gR hS hz rfl;have rU:mq (w::(w.heap.size+1)::(w.heap.size+1+1)::S) wX ⟨t,m,u,r,true,g⟩:=(hin.wide (S':=(w.heap.size::(w.heap.size+1)::(w.heap.size+1+1)::S)) (fun i hi=>by simp only [zf] at hi;rcases hi with rfl|rfl|rfl|hi;exact .inr (zj _);exact .inr (Ar _);exact .inr lf;exact .inl hi)).later aa;have ac:=yv (kA);have ad:=yv (kB);have ae:=yv (kC);have af:=yv (rU);have ag:=yv (aa);have ao:=yv (zj wX);have INT:=yv inT;obtain ⟨aq,ar,au,av,aw,ax,ay,az,a1,a3,a4,a6⟩:=ac.out.all6;obtain ⟨a7,a8,ba,bb,bc,bd⟩:=ad.out.all3;obtain ⟨ah,ai,aj,ak,al,am,be,bf,bg,bh,bi,bj⟩:=ae.out.all6;have c0:(32:Int)≤(g.l.length:Int):=lf;clear kA kB kC rU aa inT hin hS hz CP h1;go_enter func71,ntmps71;go_wp2;refine Ak (v:=Ai #[(lz.v ⟨t,m,u,r,true,g⟩),yy yz 9]) (by simp [A3,results71,go_sem,ah,ai,aj,ak,al,am]) rfl ?_;refine ⟨⟨t,m,u,r,true,g⟩,rfl,rfl,?_,?_⟩
   ·refine mq.wide (S:=(w.heap.size::(w.heap.size+1)::(w.heap.size+1+1)::S)) (mq.apart (w:=wX) af.out ?_) (fun i hi=>.inl (by simp [hi]))
    iterate 6 refine lu.setCell ?_ (.inl lh) _
    exact lu.refl _ _
   ·iterate 6 refine Below.setCell ?_ (by show w.heap.size≤w+1+1;omega) _
    exact ag.out
  ·have e1:ph (lz.d ⟨t,m,u,r,true,g⟩) ⟨p,o,en⟩=(⟨(ot t p o en).1,pd m.l (mw p o.size en.size),mf u.l,[],true,g.l++[⟨p,o,en⟩]⟩,0):=by unfold ph;rw [if_neg (fun h=>h1 h.2)];rfl
   rw [e1];replace h1:g.l.length<32:=lf;obtain ⟨t',ht'⟩:∃ y,(ot t p o en).1=y:=⟨_,rfl⟩;obtain ⟨M,hM⟩:∃ M,pd m.l (mw p o.size en.size)=M:=⟨_,rfl⟩;simp only [ht',hM] at cp ⊢;have CP:=yv cp;clear e1 cp ht ho hn hl hp ha hu ht' hM;obtain ⟨wX,hwX,kA,kB,kC,aa,hz⟩:=xi w #[yx t,yw m.a m.l.length m.c,yw u.a u.l.length u.c,yw r.a r.l.length r.c,zd true,yw g.a g.l.length g.c] #[yy yz p,yx o,yx en] #[yx ⟨#[]⟩,yw none 0 0,yw none 0 0,yw none 0 0,zd false,yw none 0 0] 26 92 26;have inT:=gR hS hz rfl;have rU:mq (w::(w.heap.size+1)::(w.heap.size+1+1)::S) wX ⟨t,m,u,r,true,g⟩:=(hin.wide (S':=(w.heap.size::(w.heap.size+1)::(w.heap.size+1+1)::S)) (fun i hi=>by simp only [zf] at hi;rcases hi with rfl|rfl|rfl|hi;exact .inr (zj _);exact .inr (Ar _);exact .inr lf;exact .inl hi)).later aa;have ac:=yv (kA);have ad:=yv (kB);have ae:=yv (kC);have af:=yv (rU);have ag:=yv (aa);have ao:=yv (zj wX);have INT:=yv inT;obtain ⟨aq,ar,au,av,aw,ax,ay,az,a1,a3,a4,a6⟩:=ac.out.all6;obtain ⟨a7,a8,ba,bb,bc,bd⟩:=ad.out.all3;obtain ⟨ah,ai,aj,ak,al,am,be,bf,bg,bh,bi,bj⟩:=ae.out.all6;have c0:¬ (32:Int)≤(g.l.length:Int):=lf;have GL:=yv h1;clear kA kB kC rU aa inT hin hS hz h1;go_enter func71,ntmps71;go_wp2_with fail;refine (CP.out _ af.out (fun i hi=>zm (INT.out i hi) ao.out)).mono ?_;rintro e w1 ⟨ma,mc,rfl,hm,hb⟩;clear aq ar au av aw ax ay az a1 a3 a4 a6 a7 a8 ba bb bc bd ah ai aj ak al am be bf bg bh bi bj;have bl:=yv (ac.out.onto hb);have bm:=yv (ad.out.onto hb);have bn:=yv (ae.out.onto hb);have e6:=yv (af.out.later hb);have e7:=yv (ag.out.trans (hb.mono ag.out.size));have e8:=yv (zg ao.out hb.size);have e9:=yv (hm);clear hb hm ac ad ae af ag ao;obtain ⟨b8,b9,ca,cb,cc,cd,ce,cf,ch,ci,cj,ck⟩:=bl.out.all6;obtain ⟨cl,cm,cn,co,cq,cr⟩:=bm.out.all3;obtain ⟨ct,cu,cv,cw,cx,cy,cz,c3,c4,c5,c6,c7⟩:=bn.out.all6;clear hwX CP;have kA:l6 ((((((w1.setCell ⟨w,0,none⟩ (yx t')).setCell ⟨w,1,none⟩ (yw ma M.length mc)).setCell ⟨w,2,none⟩ (yw u.a u.l.length u.c)).setCell ⟨w,3,none⟩ (yw r.a r.l.length r.c)).setCell ⟨w,4,none⟩ (zd true)).setCell ⟨w,5,none⟩ (yw g.a g.l.length g.c)) (w) #[yx t',yw ma M.length mc,yw u.a u.l.length u.c,yw r.a r.l.length r.c,zd true,yw g.a g.l.length g.c] 26:=((((((bl.out.set 0 _).set 1 _).set 2 _).set 3 _).set 4 _).set 5 _);have kB:l6 ((((((w1.setCell ⟨w,0,none⟩ (yx t')).setCell ⟨w,1,none⟩ (yw ma M.length mc)).setCell ⟨w,2,none⟩ (yw u.a u.l.length u.c)).setCell ⟨w,3,none⟩ (yw r.a r.l.length r.c)).setCell ⟨w,4,none⟩ (zd true)).setCell ⟨w,5,none⟩ (yw g.a g.l.length g.c)) (w+1) #[yy yz p,yx o,yx en] 92:=((((((bm.out.other ⟨w,0,none⟩ (by show w.heap.size≠w+1;omega) _).other ⟨w,1,none⟩ (by show w.heap.size≠w+1;omega) _).other ⟨w,2,none⟩ (by show w.heap.size≠w+1;omega) _).other ⟨w,3,none⟩ (by show w.heap.size≠w+1;omega) _).other ⟨w,4,none⟩ (by show w.heap.size≠w+1;omega) _).other ⟨w,5,none⟩ (by show w.heap.size≠w+1;omega) _);have kC:l6 ((((((w1.setCell ⟨w,0,none⟩ (yx t')).setCell ⟨w,1,none⟩ (yw ma M.length mc)).setCell ⟨w,2,none⟩ (yw u.a u.l.length u.c)).setCell ⟨w,3,none⟩ (yw r.a r.l.length r.c)).setCell ⟨w,4,none⟩ (zd true)).setCell ⟨w,5,none⟩ (yw g.a g.l.length g.c)) (w+1+1) #[yx ⟨#[]⟩,yw none 0 0,yw none 0 0,yw none 0 0,zd false,yw none 0 0] 26:=((((((bn.out.other ⟨w,0,none⟩ (by show w.heap.size≠w+1+1;omega) _).other ⟨w,1,none⟩ (by show w.heap.size≠w+1+1;omega) _).other ⟨w,2,none⟩ (by show w.heap.size≠w+1+1;omega) _).other ⟨w,3,none⟩ (by show w.heap.size≠w+1+1;omega) _).other ⟨w,4,none⟩ (by show w.heap.size≠w+1+1;omega) _).other ⟨w,5,none⟩ (by show w.heap.size≠w+1+1;omega) _);have ap:lu (w::(w.heap.size+1)::(w.heap.size+1+1)::S) w1 ((((((w1.setCell ⟨w,0,none⟩ (yx t')).setCell ⟨w,1,none⟩ (yw ma M.length mc)).setCell ⟨w,2,none⟩ (yw u.a u.l.length u.c)).setCell ⟨w,3,none⟩ (yw r.a r.l.length r.c)).setCell ⟨w,4,none⟩ (zd true)).setCell ⟨w,5,none⟩ (yw g.a g.l.length g.c)):=((((((lu.refl (w::(w.heap.size+1)::(w.heap.size+1+1)::S) w1).setCell (p:=⟨w,0,none⟩) (.inl lh) _).setCell (p:=⟨w,1,none⟩) (.inl lh) _).setCell (p:=⟨w,2,none⟩) (.inl lh) _).setCell (p:=⟨w,3,none⟩) (.inl lh) _).setCell (p:=⟨w,4,none⟩) (.inl lh) _).setCell (p:=⟨w,5,none⟩) (.inl lh) _;have rU:=e6.out.apart ap;have rM:=e9.out.apart ap;have hB:=(((((((e7.out.setCell (p:=⟨w,0,none⟩) (by show w.heap.size≤w;omega) _).setCell (p:=⟨w,1,none⟩) (by show w.heap.size≤w;omega) _).setCell (p:=⟨w,2,none⟩) (by show w.heap.size≤w;omega) _).setCell (p:=⟨w,3,none⟩) (by show w.heap.size≤w;omega) _).setCell (p:=⟨w,4,none⟩) (by show w.heap.size≤w;omega) _).setCell (p:=⟨w,5,none⟩) (by show w.heap.size≤w;omega) _):Below w w ((((((w1.setCell ⟨w,0,none⟩ (yx t')).setCell ⟨w,1,none⟩ (yw ma M.length mc)).setCell ⟨w,2,none⟩ (yw u.a u.l.length u.c)).setCell ⟨w,3,none⟩ (yw r.a r.l.length r.c)).setCell ⟨w,4,none⟩ (zd true)).setCell ⟨w,5,none⟩ (yw g.a g.l.length g.c)));have hz:((((((w1.setCell ⟨w,0,none⟩ (yx t')).setCell ⟨w,1,none⟩ (yw ma M.length mc)).setCell ⟨w,2,none⟩ (yw u.a u.l.length u.c)).setCell ⟨w,3,none⟩ (yw r.a r.l.length r.c)).setCell ⟨w,4,none⟩ (zd true)).setCell ⟨w,5,none⟩ (yw g.a g.l.length g.c)).heap.size=w1:=lh;obtain ⟨v2,fa⟩:∃ V,((((((w1.setCell ⟨w,0,none⟩ (yx t')).setCell ⟨w,1,none⟩ (yw ma M.length mc)).setCell ⟨w,2,none⟩ (yw u.a u.l.length u.c)).setCell ⟨w,3,none⟩ (yw r.a r.l.length r.c)).setCell ⟨w,4,none⟩ (zd true)).setCell ⟨w,5,none⟩ (yw g.a g.l.length g.c))=V:=⟨_,rfl⟩;rw [fa] at kA kB kC rU rM hB hz;have bo:=yv kA;have bp:=yv kB;have bq:=yv kC;have fb:=yv rU;have fc:=yv rM;have fd:=yv hB;have fe:=yv (zg e8.out (zr hz.symm));clear kA kB kC rU rM hB hz ap bl bm bn e6 e9 e7 e8;obtain ⟨c8,da,db,dc,dd,de,df,dg,dh,di,dj,dk⟩:=bo.out.all6;obtain ⟨dl,dm,dn,dp,dq,dr⟩:=bp.out.all3;obtain ⟨ds,dt,du,dv,dw,dx,dy,dz,d0,d3,d4,d5⟩:=bq.out.all6;have kA:l6 (v2.setCell ⟨w,3,none⟩ (yw none 0 0)) (w) #[yx t',yw ma M.length mc,yw u.a u.l.length u.c,yw none 0 0,zd true,yw g.a g.l.length g.c] 26:=(bo.out.set 3 _);have kB:l6 (v2.setCell ⟨w,3,none⟩ (yw none 0 0)) (w+1) #[yy yz p,yx o,yx en] 92:=(bp.out.other ⟨w,3,none⟩ (by show w.heap.size≠w+1;omega) _);have kC:l6 (v2.setCell ⟨w,3,none⟩ (yw none 0 0)) (w+1+1) #[yx ⟨#[]⟩,yw none 0 0,yw none 0 0,yw none 0 0,zd false,yw none 0 0] 26:=(bq.out.other ⟨w,3,none⟩ (by show w.heap.size≠w+1+1;omega) _);have ap:lu (w::(w.heap.size+1)::(w.heap.size+1+1)::S) v2 (v2.setCell ⟨w,3,none⟩ (yw none 0 0)):=(lu.refl (w::(w.heap.size+1)::(w.heap.size+1+1)::S) v2).setCell (p:=⟨w,3,none⟩) (.inl lh) _;have rU:=fb.out.apart ap;have rM:=fc.out.apart ap;have hB:=((fd.out.setCell (p:=⟨w,3,none⟩) (by show w.heap.size≤w;omega) _):Below w w (v2.setCell ⟨w,3,none⟩ (yw none 0 0)));have hz:(v2.setCell ⟨w,3,none⟩ (yw none 0 0)).heap.size=v2:=lh;obtain ⟨v3,ff⟩:∃ V,(v2.setCell ⟨w,3,none⟩ (yw none 0 0))=V:=⟨_,rfl⟩;rw [ff] at kA kB kC rU rM hB hz;have br:=yv kA;have an:=yv kB;have b3:=yv kC;have fg:=yv rU;have fm:=yv rM;have b4:=yv hB;have b5:=yv (zg fe.out (zr hz.symm));clear kA kB kC rU rM hB hz ap bo bp bq fb fc fd fe;obtain ⟨d6,d7,d8,d9,ea,bk,eb,ec,ed,ee,ef,eg⟩:=br.out.all6;obtain ⟨eh,ei,ej,ek,el,em⟩:=an.out.all3;obtain ⟨eo,ep,er,es,et,eu,ew,ey,e0,e3,e4,e5⟩:=b3.out.all6;have hcg:∀ W,Below v3 v3 W→W ⟨w,5,none⟩=some (yw g.a g.l.length g.c):=fun W h=>(br.out.onto h).cell 5 _ rfl;have hfs:∀ W,Below v3 v3 W→W ⟨w+1,0,none⟩=some (yy yz p)∧W ⟨w+1,1,none⟩=some (yx o)∧W ⟨w+1,2,none⟩=some (yx en):=fun W h=>⟨(an.out.onto h).cell 0 _ rfl,(an.out.onto h).cell 1 _ rfl,(an.out.onto h).cell 2 _ rfl⟩;have hsr:∀ W,Below v3 v3 W→xw W 3 (yw g.a g.l.length g.c) g.l.length (l7.flat g.l):=fun W h=>zR ((fg.out.g.later h).in);obtain ⟨n,hn⟩:∃ n,g.l.length=n:=⟨_,rfl⟩;have HN:=yv hn;obtain ⟨L,hL⟩:∃ L,g.l++[(⟨p,o,en⟩:l7)]=L:=⟨_,rfl⟩;have hLL:L.length=n+1:=by rw [← hL,Ag,hn];rfl
   have hFL:l7.flat L=l7.flat g.l++[yy yz p,yx o,yx en]:=by rw [← hL,KD];rfl
   rw [hn] at hcg hsr GL bk;have HL:=yv hL;have ib:=yv hLL;have ic:=yv hFL;have CG:=yv hcg;have FS:=yv hfs;have gu:=yv hsr;have h32:n<32:=GL.out;clear hn hL hLL hFL hcg hfs hsr;go_wp2_with fail;clear b8 b9 ca cb cc cd ce cf ch ci cj ck cl cm cn co cq cr ct cu cv cw cx cy cz c3 c4 c5 c6 c7 fa c8 da db dc dd de df dg dh di dj dk dl dm dn dp dq dr ds dt du dv dw dx dy dz d0 d3 d4 d5 ff d6 d7 d8 d9 ea bk eb ec ed ee ef eg eh ei ej ek el em eo ep er es et eu ew ey e0 e3 e4 e5;refine zt (S:=(fun W:zh=>W ⟨w+1,0,none⟩=some (yy yz p)∧W ⟨w+1,1,none⟩=some (yx o)∧W ⟨w+1,2,none⟩=some (yx en))) lg (FS.out _ (Below.refl v3 v3).drew) (fun hHeld=>?_);refine ly 1 ?_;refine ly 4 ?_;have BS:=yv (Below.refl v3 v3).drew;refine zw (rs:=[0,2,5]) lg lh ?_;refine zp (by simp only [qz];rfl) (fun K hK=>?a0) (zp (by simp only [qz];rfl) (fun K hK=>?a2) (zp (by simp only [qz];rfl) (fun K hK=>?a5) (zx)))
   case' a0 =>
    go_simp;have HO:=yv (eI BS.out.size (n:=v3.heap.size) lh);have BS:=yv (BS.out.alloc BS.out.size (zk #[] 92))
    try go_wp2_with fail
    refine hK.out _ _ ?_ (fun hHeld=>?_)
    ·exact FS.out _ BS.out
    clear hK K
    try simp only [zi,mj]
    refine zw (rs:=[2,5]) lg lh ?_;refine zp (by simp only [qz];rfl) (fun K hK=>?b02) (zp (by simp only [qz];rfl) (fun K hK=>?b05) (zx))
   case' a2 =>
    have cg:Aj (Au v3) ⟨w,5,none⟩=_:=CG.out _ BS.out;go_simp
    try go_wp2_with fail
    refine hK.out _ _ ?_ (fun hHeld=>?_)
    ·exact hHeld
    clear hK K cg
    try simp only [zi,mj]
    refine zw (rs:=[0,5]) lg lh ?_;refine zp (by simp only [qz];rfl) (fun K hK=>?b20) (zp (by simp only [qz];rfl) (fun K hK=>?b25) (zx))
   case' a5 =>
    go_simp;have HE:=yv (dZ BS.out #[yy yz p,yx o,yx en] 92 (n:=v3.heap.size) lh);have BS:=yv (BS.out.alloc BS.out.size (zk #[yy yz p,yx o,yx en] 92))
    try go_wp2_with fail
    refine hK.out _ _ ?_ (fun hHeld=>?_)
    ·exact FS.out _ BS.out
    clear hK K
    try simp only [zi,mj]
    refine zw (rs:=[0,2]) lg lh ?_;refine zp (by simp only [qz];rfl) (fun K hK=>?b50) (zp (by simp only [qz];rfl) (fun K hK=>?b52) (zx))
   case' b02 =>
    have cg:Aj (Au (zy v3 (zk #[] 92))) ⟨w,5,none⟩=_:=CG.out _ BS.out;go_simp
    try go_wp2_with fail
    refine hK.out _ _ ?_ (fun hHeld=>?_)
    ·exact hHeld
    clear hK K cg
    try simp only [zi,mj]
    refine zw (rs:=[3,5]) lg lh ?_;refine zp (by simp only [qz];rfl) (fun K hK=>?c1) (zp (by simp only [qz];rfl) (fun K hK=>?d1) (zx))
   case' b20 =>
    go_simp;have HO:=yv (eI BS.out.size (n:=v3.heap.size) lh);have BS:=yv (BS.out.alloc BS.out.size (zk #[] 92))
    try go_wp2_with fail
    refine hK.out _ _ ?_ (fun hHeld=>?_)
    ·exact FS.out _ BS.out
    clear hK K
    try simp only [zi,mj]
    refine zw (rs:=[3,5]) lg lh ?_;refine zp (by simp only [qz];rfl) (fun K hK=>?c2) (zp (by simp only [qz];rfl) (fun K hK=>?d2) (zx))
   case' d1 =>
    go_simp;have HE:=yv (dZ BS.out #[yy yz p,yx o,yx en] 92 (n:=v3.heap.size+1) lh);have BS:=yv (BS.out.alloc BS.out.size (zk #[yy yz p,yx o,yx en] 92));have HO:=yv (HO.out.alloc (zk #[yy yz p,yx o,yx en] 92))
    try go_wp2_with fail
    refine hK.out _ _ ?_ (fun hHeld=>?_)
    ·exact FS.out _ BS.out
    clear hK K
    try simp only [zi,mj]
   case' d2 =>
    go_simp;have HE:=yv (dZ BS.out #[yy yz p,yx o,yx en] 92 (n:=v3.heap.size+1) lh);have BS:=yv (BS.out.alloc BS.out.size (zk #[yy yz p,yx o,yx en] 92));have HO:=yv (HO.out.alloc (zk #[yy yz p,yx o,yx en] 92))
    try go_wp2_with fail
    refine hK.out _ _ ?_ (fun hHeld=>?_)
    ·exact FS.out _ BS.out
    clear hK K
    try simp only [zi,mj]
   case' b05 =>
    go_simp;have HE:=yv (dZ BS.out #[yy yz p,yx o,yx en] 92 (n:=v3.heap.size+1) lh);have BS:=yv (BS.out.alloc BS.out.size (zk #[yy yz p,yx o,yx en] 92));have HO:=yv (HO.out.alloc (zk #[yy yz p,yx o,yx en] 92))
    try go_wp2_with fail
    refine hK.out _ _ ?_ (fun hHeld=>?_)
    ·exact FS.out _ BS.out
    clear hK K
    try simp only [zi,mj]
    refine zw (rs:=[2]) lg lh ?_;refine zp (by simp only [qz];rfl) (fun K hK=>?_) (zx);have cg:Aj (Au (zy (zy v3 (zk #[] 92)) (zk #[yy yz p,yx o,yx en] 92))) ⟨w,5,none⟩=_:=CG.out _ BS.out;go_simp
    try go_wp2_with fail
    refine hK.out _ _ ?_ (fun hHeld=>?_)
    ·exact hHeld
    clear hK K cg
    try simp only [zi,mj]
   case' b25 =>
    go_simp;have HE:=yv (dZ BS.out #[yy yz p,yx o,yx en] 92 (n:=v3.heap.size) lh);have BS:=yv (BS.out.alloc BS.out.size (zk #[yy yz p,yx o,yx en] 92))
    try go_wp2_with fail
    refine hK.out _ _ ?_ (fun hHeld=>?_)
    ·exact FS.out _ BS.out
    clear hK K
    try simp only [zi,mj]
    refine zw (rs:=[0]) lg lh ?_;refine zp (by simp only [qz];rfl) (fun K hK=>?_) (zx);go_simp;have HO:=yv (eI BS.out.size (n:=v3.heap.size+1) lh);have BS:=yv (BS.out.alloc BS.out.size (zk #[] 92));have HE:=yv (HE.out.alloc (zk #[] 92))
    try go_wp2_with fail
    refine hK.out _ _ ?_ (fun hHeld=>?_)
    ·exact FS.out _ BS.out
    clear hK K
    try simp only [zi,mj]
   case' b50 =>
    go_simp;have HO:=yv (eI BS.out.size (n:=v3.heap.size+1) lh);have BS:=yv (BS.out.alloc BS.out.size (zk #[] 92));have HE:=yv (HE.out.alloc (zk #[] 92))
    try go_wp2_with fail
    refine hK.out _ _ ?_ (fun hHeld=>?_)
    ·exact FS.out _ BS.out
    clear hK K
    try simp only [zi,mj]
    refine zw (rs:=[2]) lg lh ?_;refine zp (by simp only [qz];rfl) (fun K hK=>?_) (zx);have cg:Aj (Au (zy (zy v3 (zk #[yy yz p,yx o,yx en] 92)) (zk #[] 92))) ⟨w,5,none⟩=_:=CG.out _ BS.out;go_simp
    try go_wp2_with fail
    refine hK.out _ _ ?_ (fun hHeld=>?_)
    ·exact hHeld
    clear hK K cg
    try simp only [zi,mj]
   case' b52 =>
    have cg:Aj (Au (zy v3 (zk #[yy yz p,yx o,yx en] 92))) ⟨w,5,none⟩=_:=CG.out _ BS.out;go_simp
    try go_wp2_with fail
    refine hK.out _ _ ?_ (fun hHeld=>?_)
    ·exact hHeld
    clear hK K cg
    try simp only [zi,mj]
    refine zw (rs:=[0]) lg lh ?_;refine zp (by simp only [qz];rfl) (fun K hK=>?_) (zx);go_simp;have HO:=yv (eI BS.out.size (n:=v3.heap.size+1) lh);have BS:=yv (BS.out.alloc BS.out.size (zk #[] 92));have HE:=yv (HE.out.alloc (zk #[] 92))
    try go_wp2_with fail
    refine hK.out _ _ ?_ (fun hHeld=>?_)
    ·exact FS.out _ BS.out
    clear hK K
    try simp only [zi,mj]
   case' c1|c2 =>
    refine aJ _ lj (.tmp 21) (.tmp 23) 24 rfl v3.heap.size 92 i0 _ 3 40 underlying24 hi bw bx bz rfl li (yw (some ⟨v3,0,none⟩) 0 0) 0 ([]) rfl HO.out (yw g.a n g.c) n (l7.flat g.l) rfl (gu.out _ BS.out) ln lf BS.out.size ?_;intro yr xr ho hg;have BS:=yv (BS.out.grown hg BS.out.size (aA HO.out));have HO:=yv (show xr.ownsRow v3.heap.size 92 3 yr n (l7.flat g.l) by simpa using ho);clear ho hg
    try go_wp2_with fail
    refine hK.out _ _ ?_ (fun hHeld=>?_)
    ·exact FS.out _ BS.out
    clear hK K
    try simp only [zi,mj]
    refine zw (rs:=[5]) lg lh ?_;refine zp (by simp only [qz];rfl) (fun K hK=>?_) (zx);go_simp;have HE:=yv (dZ BS.out #[yy yz p,yx o,yx en] 92 (n:=xr.heap.size) lh);have BS:=yv (BS.out.alloc BS.out.size (zk #[yy yz p,yx o,yx en] 92));have HO:=yv (HO.out.alloc (zk #[yy yz p,yx o,yx en] 92))
    try go_wp2_with fail
    refine hK.out _ _ ?_ (fun hHeld=>?_)
    ·exact FS.out _ BS.out
    clear hK K
    try simp only [zi,mj]
   case' d1|d2|b05 =>
    refine zw (rs:=[3]) lg lh ?_;refine zp (by simp only [qz];rfl) (fun K hK=>?_) (zx);refine aJ _ lj (.tmp 21) (.tmp 23) 24 rfl v3.heap.size 92 i0 _ 3 40 underlying24 hi bw bx bz rfl li (yw (some ⟨v3,0,none⟩) 0 0) 0 ([]) rfl HO.out (yw g.a n g.c) n (l7.flat g.l) rfl (gu.out _ BS.out) ln lf BS.out.size ?_;intro yr xr ho hg;have BS:=yv (BS.out.grown hg BS.out.size (aA HO.out));have HO:=yv (show xr.ownsRow v3.heap.size 92 3 yr n (l7.flat g.l) by simpa using ho);have HE:=yv (dB HE.out hg (by simp [Bz]));clear ho hg
    try go_wp2_with fail
    refine hK.out _ _ ?_ (fun hHeld=>?_)
    ·exact FS.out _ BS.out
    clear hK K
    try simp only [zi,mj]
   case' b25|b50|b52 =>
    refine zw (rs:=[3]) lg lh ?_;refine zp (by simp only [qz];rfl) (fun K hK=>?_) (zx);refine aJ _ lj (.tmp 21) (.tmp 23) 24 rfl v3.heap.size 92 i0 _ 3 40 underlying24 hi bw bx bz rfl li (yw (some ⟨v3+1,0,none⟩) 0 0) 0 ([]) rfl HO.out (yw g.a n g.c) n (l7.flat g.l) rfl (gu.out _ BS.out) ln lf BS.out.size ?_;intro yr xr ho hg;have BS:=yv (BS.out.grown hg BS.out.size (aA HO.out));have HO:=yv (show xr.ownsRow v3.heap.size 92 3 yr n (l7.flat g.l) by simpa using ho);have HE:=yv (dB HE.out hg (by simp [Bz]));clear ho hg
    try go_wp2_with fail
    refine hK.out _ _ ?_ (fun hHeld=>?_)
    ·exact FS.out _ BS.out
    clear hK K
    try simp only [zi,mj]
   all_goals
    refine zw (rs:=[6]) lg lh ?_;refine zp (by simp only [qz];rfl) (fun K hK=>?_) (zx);refine aJ _ lj (.tmp 24) (.tmp 26) 24 rfl v3.heap.size 92 i0 _ 3 40 underlying24 hi bw bx bz rfl li _ n (l7.flat g.l) rfl HO.out _ 1 [yy yz p,yx o,yx en] rfl (MF HE.out) ln lf BS.out.size ?_;intro y9 w9 ho hg;have hbb:=BS.out.grown hg BS.out.size (aA HO.out);have h6:w9.ownsRow v3 92 3 y9 L.length (l7.flat L):=by rw [ib.out,ic.out];exact ho
    obtain ⟨a9,c9,ev,h7⟩:=dH h6;subst ev;have bs:=yv (br.out.onto hbb);have ab:=yv (an.out.onto hbb);have bu:=yv (b3.out.onto hbb);have bv:=yv (fg.out.later hbb);have fh:=yv (fm.out.later hbb);have b6:=yv (b4.out.trans (hbb.mono b4.out.size));have b7:=yv (zg b5.out hbb.size);have h8:=yv (h7.off (S:=(w.heap.size::(w.heap.size+1)::(w.heap.size+1+1)::S)) (fun i hi=>zm (INT.out i hi) b5.out));clear ho h6 hg h7 hbb br an b3 fg fm b4 b5;refine hK.out _ _ ?_ (fun hHeld=>?_)
    ·exact ⟨ab.out.cell 0 _ rfl,ab.out.cell 1 _ rfl,ab.out.cell 2 _ rfl⟩
    clear hK K
    try simp only [zi,mj]
    obtain ⟨fn,fo,fp,fq,fr,fs,ft,fu,fv,fw,fx,fy⟩:=bs.out.all6;obtain ⟨fz,f0,f1,f2,f3,f4⟩:=ab.out.all3;obtain ⟨f5,f6,f7,f8,f9,ga,gb,gc,gd,gf,gg,gh⟩:=bu.out.all6;refine ly 7 ?_;refine m8 8 fun K hK=>?_;go_simp;skip
    try go_wp2_with fail
    refine hK.out _ _ ?_ (fun hHeld=>?_)
    ·exact blk3c (ab.out.other ⟨w,5,none⟩ (by show w.heap.size≠w+1;omega) _)
    clear hK K
    try simp only [zi,mj]
    refine zq lg ?_ _;have kA:l6 (w9.setCell ⟨w,5,none⟩ (yw a9 L.length c9)) (w) #[yx t',yw ma M.length mc,yw u.a u.l.length u.c,yw none 0 0,zd true,yw a9 L.length c9] 26:=(bs.out.set 5 _);have kB:l6 (w9.setCell ⟨w,5,none⟩ (yw a9 L.length c9)) (w+1) #[yy yz p,yx o,yx en] 92:=(ab.out.other ⟨w,5,none⟩ (by show w.heap.size≠w+1;omega) _);have kC:l6 (w9.setCell ⟨w,5,none⟩ (yw a9 L.length c9)) (w+1+1) #[yx ⟨#[]⟩,yw none 0 0,yw none 0 0,yw none 0 0,zd false,yw none 0 0] 26:=(bu.out.other ⟨w,5,none⟩ (by show w.heap.size≠w+1+1;omega) _);have ap:lu (w::(w.heap.size+1)::(w.heap.size+1+1)::S) w9 (w9.setCell ⟨w,5,none⟩ (yw a9 L.length c9)):=(lu.refl (w::(w.heap.size+1)::(w.heap.size+1+1)::S) w9).setCell (p:=⟨w,5,none⟩) (.inl lh) _;have rU:=bv.out.apart ap;have rM:=fh.out.apart ap;have rG:=h8.out.apart ap;have hB:=((b6.out.setCell (p:=⟨w,5,none⟩) (by show w.heap.size≤w;omega) _):Below w w (w9.setCell ⟨w,5,none⟩ (yw a9 L.length c9)));have hz:(w9.setCell ⟨w,5,none⟩ (yw a9 L.length c9)).heap.size=w9:=lh;obtain ⟨v5,ie⟩:∃ V,(w9.setCell ⟨w,5,none⟩ (yw a9 L.length c9))=V:=⟨_,rfl⟩;rw [ie] at kA kB kC rU rM rG hB hz;have fi:=yv kA;have fj:=yv kB;have fk:=yv kC;have gi:=yv rU;have gj:=yv rM;have ig:=yv rG;have gk:=yv hB;have gv:=yv (zg b7.out (zr hz.symm));clear kA kB kC rU rM rG hB hz ap bs ab bu bv fh h8 b6 b7;obtain ⟨gw,gx,gy,gz,g0,g1,g2,g3,g4,g5,g6,g7⟩:=fi.out.all6;obtain ⟨g8,g9,hc,hd,he,hf⟩:=fj.out.all3;obtain ⟨gm,gn,gp,gq,gs,gt,hj,hk,hq,hs,hv,hw⟩:=fk.out.all6;go_wp2;refine Ak (v:=Ai #[(lz.v ⟨t',⟨ma,M,mc⟩,u,⟨none,[],0⟩,true,⟨a9,L,c9⟩⟩),yy yz 0]) (by simp [A3,results71,go_sem,gm,gn,gp,gq,gs,gt]) rfl ?_;refine ⟨⟨t',⟨ma,M,mc⟩,u,⟨none,[],0⟩,true,⟨a9,L,c9⟩⟩,rfl,(by unfold lz.d;simp only [← HL.out];rfl),?_,?_⟩
    ·refine mq.wide (S:=(w.heap.size::(w.heap.size+1)::(w.heap.size+1+1)::S)) (mq.apart (w:=v5) ⟨gj.out,gi.out.u,ti.empty _ _,ig.out⟩ ?_) (fun i hi=>.inl (by simp [hi]))
     iterate 6 refine lu.setCell ?_ (.inl lh) _
     exact lu.refl _ _
    ·iterate 6 refine Below.setCell ?_ (by show w.heap.size≤w+1+1;omega) _
     exact gk.out
 | false =>
  have e1:ph (lz.d ⟨t,m,u,r,false,g⟩) ⟨p,o,en⟩=(⟨(ot t p o en).1,pd m.l (mw p o.size en.size),np (mf u.l) [⟨p,o,en⟩],[],false,g.l⟩,0):=by unfold ph;rw [if_neg (fun h=>by cases h.1)];rfl
  rw [e1];obtain ⟨t',ht'⟩:∃ y,(ot t p o en).1=y:=⟨_,rfl⟩;obtain ⟨M,hM⟩:∃ M,pd m.l (mw p o.size en.size)=M:=⟨_,rfl⟩;simp only [ht',hM] at cp ⊢;have CP:=yv cp;clear e1 cp ht ho hn hl hp ha ht' hM hi bw bx bz;obtain ⟨wX,hwX,kA,kB,kC,aa,hz⟩:=xi w #[yx t,yw m.a m.l.length m.c,yw u.a u.l.length u.c,yw r.a r.l.length r.c,zd false,yw g.a g.l.length g.c] #[yy yz p,yx o,yx en] #[yx ⟨#[]⟩,yw none 0 0,yw none 0 0,yw none 0 0,zd false,yw none 0 0] 26 92 26;have inT:=gR hS hz rfl;have rU:mq (w::(w.heap.size+1)::(w.heap.size+1+1)::S) wX ⟨t,m,u,r,false,g⟩:=(hin.wide (S':=(w.heap.size::(w.heap.size+1)::(w.heap.size+1+1)::S)) (fun i hi=>by simp only [zf] at hi;rcases hi with rfl|rfl|rfl|hi;exact .inr (zj _);exact .inr (Ar _);exact .inr lf;exact .inl hi)).later aa;have ac:=yv (kA);have ad:=yv (kB);have ae:=yv (kC);have af:=yv (rU);have ag:=yv (aa);have ao:=yv (zj wX);have INT:=yv inT;obtain ⟨aq,ar,au,av,aw,ax,ay,az,a1,a3,a4,a6⟩:=ac.out.all6;obtain ⟨a7,a8,ba,bb,bc,bd⟩:=ad.out.all3;obtain ⟨ah,ai,aj,ak,al,am,be,bf,bg,bh,bi,bj⟩:=ae.out.all6;have UL:=yv hu;clear kA kB kC rU aa inT hin hS hz hu;go_enter func71,ntmps71;go_wp2_with fail;refine (CP.out _ af.out (fun i hi=>zm (INT.out i hi) ao.out)).mono ?_;rintro e w1 ⟨ma,mc,rfl,hm,hb⟩;clear aq ar au av aw ax ay az a1 a3 a4 a6 a7 a8 ba bb bc bd ah ai aj ak al am be bf bg bh bi bj;have bl:=yv (ac.out.onto hb);have bm:=yv (ad.out.onto hb);have bn:=yv (ae.out.onto hb);have e6:=yv (af.out.later hb);have e7:=yv (ag.out.trans (hb.mono ag.out.size));have e8:=yv (zg ao.out hb.size);have e9:=yv (hm);clear hb hm ac ad ae af ag ao;obtain ⟨b8,b9,ca,cb,cc,cd,ce,cf,ch,ci,cj,ck⟩:=bl.out.all6;obtain ⟨cl,cm,cn,co,cq,cr⟩:=bm.out.all3;obtain ⟨ct,cu,cv,cw,cx,cy,cz,c3,c4,c5,c6,c7⟩:=bn.out.all6;clear hwX CP;have kA:l6 ((((((w1.setCell ⟨w,0,none⟩ (yx t')).setCell ⟨w,1,none⟩ (yw ma M.length mc)).setCell ⟨w,2,none⟩ (yw u.a u.l.length u.c)).setCell ⟨w,3,none⟩ (yw r.a r.l.length r.c)).setCell ⟨w,4,none⟩ (zd false)).setCell ⟨w,5,none⟩ (yw g.a g.l.length g.c)) (w) #[yx t',yw ma M.length mc,yw u.a u.l.length u.c,yw r.a r.l.length r.c,zd false,yw g.a g.l.length g.c] 26:=((((((bl.out.set 0 _).set 1 _).set 2 _).set 3 _).set 4 _).set 5 _);have kB:l6 ((((((w1.setCell ⟨w,0,none⟩ (yx t')).setCell ⟨w,1,none⟩ (yw ma M.length mc)).setCell ⟨w,2,none⟩ (yw u.a u.l.length u.c)).setCell ⟨w,3,none⟩ (yw r.a r.l.length r.c)).setCell ⟨w,4,none⟩ (zd false)).setCell ⟨w,5,none⟩ (yw g.a g.l.length g.c)) (w+1) #[yy yz p,yx o,yx en] 92:=((((((bm.out.other ⟨w,0,none⟩ (by show w.heap.size≠w+1;omega) _).other ⟨w,1,none⟩ (by show w.heap.size≠w+1;omega) _).other ⟨w,2,none⟩ (by show w.heap.size≠w+1;omega) _).other ⟨w,3,none⟩ (by show w.heap.size≠w+1;omega) _).other ⟨w,4,none⟩ (by show w.heap.size≠w+1;omega) _).other ⟨w,5,none⟩ (by show w.heap.size≠w+1;omega) _);have kC:l6 ((((((w1.setCell ⟨w,0,none⟩ (yx t')).setCell ⟨w,1,none⟩ (yw ma M.length mc)).setCell ⟨w,2,none⟩ (yw u.a u.l.length u.c)).setCell ⟨w,3,none⟩ (yw r.a r.l.length r.c)).setCell ⟨w,4,none⟩ (zd false)).setCell ⟨w,5,none⟩ (yw g.a g.l.length g.c)) (w+1+1) #[yx ⟨#[]⟩,yw none 0 0,yw none 0 0,yw none 0 0,zd false,yw none 0 0] 26:=((((((bn.out.other ⟨w,0,none⟩ (by show w.heap.size≠w+1+1;omega) _).other ⟨w,1,none⟩ (by show w.heap.size≠w+1+1;omega) _).other ⟨w,2,none⟩ (by show w.heap.size≠w+1+1;omega) _).other ⟨w,3,none⟩ (by show w.heap.size≠w+1+1;omega) _).other ⟨w,4,none⟩ (by show w.heap.size≠w+1+1;omega) _).other ⟨w,5,none⟩ (by show w.heap.size≠w+1+1;omega) _);have ap:lu (w::(w.heap.size+1)::(w.heap.size+1+1)::S) w1 ((((((w1.setCell ⟨w,0,none⟩ (yx t')).setCell ⟨w,1,none⟩ (yw ma M.length mc)).setCell ⟨w,2,none⟩ (yw u.a u.l.length u.c)).setCell ⟨w,3,none⟩ (yw r.a r.l.length r.c)).setCell ⟨w,4,none⟩ (zd false)).setCell ⟨w,5,none⟩ (yw g.a g.l.length g.c)):=((((((lu.refl (w::(w.heap.size+1)::(w.heap.size+1+1)::S) w1).setCell (p:=⟨w,0,none⟩) (.inl lh) _).setCell (p:=⟨w,1,none⟩) (.inl lh) _).setCell (p:=⟨w,2,none⟩) (.inl lh) _).setCell (p:=⟨w,3,none⟩) (.inl lh) _).setCell (p:=⟨w,4,none⟩) (.inl lh) _).setCell (p:=⟨w,5,none⟩) (.inl lh) _;have rU:=e6.out.apart ap;have rM:=e9.out.apart ap;have hB:=(((((((e7.out.setCell (p:=⟨w,0,none⟩) (by show w.heap.size≤w;omega) _).setCell (p:=⟨w,1,none⟩) (by show w.heap.size≤w;omega) _).setCell (p:=⟨w,2,none⟩) (by show w.heap.size≤w;omega) _).setCell (p:=⟨w,3,none⟩) (by show w.heap.size≤w;omega) _).setCell (p:=⟨w,4,none⟩) (by show w.heap.size≤w;omega) _).setCell (p:=⟨w,5,none⟩) (by show w.heap.size≤w;omega) _):Below w w ((((((w1.setCell ⟨w,0,none⟩ (yx t')).setCell ⟨w,1,none⟩ (yw ma M.length mc)).setCell ⟨w,2,none⟩ (yw u.a u.l.length u.c)).setCell ⟨w,3,none⟩ (yw r.a r.l.length r.c)).setCell ⟨w,4,none⟩ (zd false)).setCell ⟨w,5,none⟩ (yw g.a g.l.length g.c)));have hz:((((((w1.setCell ⟨w,0,none⟩ (yx t')).setCell ⟨w,1,none⟩ (yw ma M.length mc)).setCell ⟨w,2,none⟩ (yw u.a u.l.length u.c)).setCell ⟨w,3,none⟩ (yw r.a r.l.length r.c)).setCell ⟨w,4,none⟩ (zd false)).setCell ⟨w,5,none⟩ (yw g.a g.l.length g.c)).heap.size=w1:=lh;obtain ⟨v2,fa⟩:∃ V,((((((w1.setCell ⟨w,0,none⟩ (yx t')).setCell ⟨w,1,none⟩ (yw ma M.length mc)).setCell ⟨w,2,none⟩ (yw u.a u.l.length u.c)).setCell ⟨w,3,none⟩ (yw r.a r.l.length r.c)).setCell ⟨w,4,none⟩ (zd false)).setCell ⟨w,5,none⟩ (yw g.a g.l.length g.c))=V:=⟨_,rfl⟩;rw [fa] at kA kB kC rU rM hB hz;have bo:=yv kA;have bp:=yv kB;have bq:=yv kC;have fb:=yv rU;have fc:=yv rM;have fd:=yv hB;have fe:=yv (zg e8.out (zr hz.symm));clear kA kB kC rU rM hB hz ap bl bm bn e6 e9 e7 e8;obtain ⟨c8,da,db,dc,dd,de,df,dg,dh,di,dj,dk⟩:=bo.out.all6;obtain ⟨dl,dm,dn,dp,dq,dr⟩:=bp.out.all3;obtain ⟨ds,dt,du,dv,dw,dx,dy,dz,d0,d3,d4,d5⟩:=bq.out.all6;have kA:l6 (v2.setCell ⟨w,3,none⟩ (yw none 0 0)) (w) #[yx t',yw ma M.length mc,yw u.a u.l.length u.c,yw none 0 0,zd false,yw g.a g.l.length g.c] 26:=(bo.out.set 3 _);have kB:l6 (v2.setCell ⟨w,3,none⟩ (yw none 0 0)) (w+1) #[yy yz p,yx o,yx en] 92:=(bp.out.other ⟨w,3,none⟩ (by show w.heap.size≠w+1;omega) _);have kC:l6 (v2.setCell ⟨w,3,none⟩ (yw none 0 0)) (w+1+1) #[yx ⟨#[]⟩,yw none 0 0,yw none 0 0,yw none 0 0,zd false,yw none 0 0] 26:=(bq.out.other ⟨w,3,none⟩ (by show w.heap.size≠w+1+1;omega) _);have ap:lu (w::(w.heap.size+1)::(w.heap.size+1+1)::S) v2 (v2.setCell ⟨w,3,none⟩ (yw none 0 0)):=(lu.refl (w::(w.heap.size+1)::(w.heap.size+1+1)::S) v2).setCell (p:=⟨w,3,none⟩) (.inl lh) _;have rU:=fb.out.apart ap;have rM:=fc.out.apart ap;have hB:=((fd.out.setCell (p:=⟨w,3,none⟩) (by show w.heap.size≤w;omega) _):Below w w (v2.setCell ⟨w,3,none⟩ (yw none 0 0)));have hz:(v2.setCell ⟨w,3,none⟩ (yw none 0 0)).heap.size=v2:=lh;obtain ⟨v3,ff⟩:∃ V,(v2.setCell ⟨w,3,none⟩ (yw none 0 0))=V:=⟨_,rfl⟩;rw [ff] at kA kB kC rU rM hB hz;have br:=yv kA;have an:=yv kB;have b3:=yv kC;have fg:=yv rU;have fm:=yv rM;have b4:=yv hB;have b5:=yv (zg fe.out (zr hz.symm));clear kA kB kC rU rM hB hz ap bo bp bq fb fc fd fe;obtain ⟨d6,d7,d8,d9,ea,bk,eb,ec,ed,ee,ef,eg⟩:=br.out.all6;obtain ⟨eh,ei,ej,ek,el,em⟩:=an.out.all3;obtain ⟨eo,ep,er,es,et,eu,ew,ey,e0,e3,e4,e5⟩:=b3.out.all6;obtain ⟨wE,hwE,kE,hb,hzE⟩:=nu v3 #[yy yz p,yx o,yx en] 92;have bs:=yv (br.out.onto hb);have ab:=yv (an.out.onto hb);have bu:=yv (b3.out.onto hb);have bv:=yv (fg.out.later hb);have fh:=yv (fm.out.later hb);have b6:=yv (b4.out.trans (hb.mono b4.out.size));have b7:=yv (zg b5.out hb.size);have KE:=yv kE;have ih:=yv hzE;have cpu:=eY u.a u.l u.c ⟨some ⟨v3,0,none⟩,[⟨p,o,en⟩],1⟩ wE bv.out.u.in (su.in (S:=[]) ⟨eone kE ⟨lf,lh⟩,fun e=>by cases e⟩) UL.out;have h9:=yv (show zn prog 76 #[yw u.a u.l.length u.c,oz (some ⟨v3,0,none⟩) (1:Nat) 1] wE _ from cpu);clear cpu kE hzE hb;obtain ⟨Q,hQ⟩:∃ Q,(u.l++[(⟨some ⟨v3,0,none⟩,[⟨p,o,en⟩],1⟩:mo)]).drop (u.l.length+1 - 16)=Q:=⟨_,rfl⟩;rw [hQ] at h9;have HQ:=yv hQ;clear hQ;obtain ⟨fn,fo,fp,fq,fr,fs,ft,fu,fv,fw,fx,fy⟩:=bs.out.all6;obtain ⟨fz,f0,f1,f2,f3,f4⟩:=ab.out.all3;obtain ⟨f5,f6,f7,f8,f9,ga,gb,gc,gd,gf,gg,gh⟩:=bu.out.all6;go_wp2_with fail;refine (h9.out).mono ?_;rintro e w5 ⟨ua,uc,rfl,hr,hb⟩;clear b8 b9 ca cb cc cd ce cf ch ci cj ck cl cm cn co cq cr ct cu cv cw cx cy cz c3 c4 c5 c6 c7 fa c8 da db dc dd de df dg dh di dj dk dl dm dn dp dq dr ds dt du dv dw dx dy dz d0 d3 d4 d5 ff d6 d7 d8 d9 ea bk eb ec ed ee ef eg eh ei ej ek el em eo ep er es et eu ew ey e0 e3 e4 e5 hwE fn fo fp fq fr fs ft fu fv fw fx fy fz f0 f1 f2 f3 f4 f5 f6 f7 f8 f9 ga gb gc gd gf gg gh;have fi:=yv (bs.out.onto hb);have fj:=yv (ab.out.onto hb);have fk:=yv (bu.out.onto hb);have gi:=yv (bv.out.later hb);have gj:=yv (fh.out.later hb);have gk:=yv (b6.out.trans (hb.mono b6.out.size));have gv:=yv (zg b7.out hb.size);have ia:=yv (hr.off (S:=(w.heap.size::(w.heap.size+1)::(w.heap.size+1+1)::S)) (fun i hi=>zm (INT.out i hi) b7.out) (fun y hy=>by
   rw [← HQ.out] at hy;rcases Ay.1 (Ax hy) with h|h
   ·exact (bv.out.u.all y h).later hb
   ·obtain rfl:=Ah.1 h;exact su.later (S:=(w.heap.size::(w.heap.size+1)::(w.heap.size+1+1)::S)) ⟨eone KE.out ⟨by have:=ih.out;omega,fun h=>by have:=INT.out _ h;have:=b5.out;omega⟩,fun e=>by cases e⟩ hb))
  clear hb hr bs ab bu bv fh b6 b7;obtain ⟨gw,gx,gy,gz,g0,g1,g2,g3,g4,g5,g6,g7⟩:=fi.out.all6;obtain ⟨g8,g9,hc,hd,he,hf⟩:=fj.out.all3;obtain ⟨gm,gn,gp,gq,gs,gt,hj,hk,hq,hs,hv,hw⟩:=fk.out.all6;have kA:l6 (w5.setCell ⟨w,2,none⟩ (yw ua Q.length uc)) (w) #[yx t',yw ma M.length mc,yw ua Q.length uc,yw none 0 0,zd false,yw g.a g.l.length g.c] 26:=(fi.out.set 2 _);have kB:l6 (w5.setCell ⟨w,2,none⟩ (yw ua Q.length uc)) (w+1) #[yy yz p,yx o,yx en] 92:=(fj.out.other ⟨w,2,none⟩ (by show w.heap.size≠w+1;omega) _);have kC:l6 (w5.setCell ⟨w,2,none⟩ (yw ua Q.length uc)) (w+1+1) #[yx ⟨#[]⟩,yw none 0 0,yw none 0 0,yw none 0 0,zd false,yw none 0 0] 26:=(fk.out.other ⟨w,2,none⟩ (by show w.heap.size≠w+1+1;omega) _);have ap:lu (w::(w.heap.size+1)::(w.heap.size+1+1)::S) w5 (w5.setCell ⟨w,2,none⟩ (yw ua Q.length uc)):=(lu.refl (w::(w.heap.size+1)::(w.heap.size+1+1)::S) w5).setCell (p:=⟨w,2,none⟩) (.inl lh) _;have rU:=gi.out.apart ap;have rM:=gj.out.apart ap;have rP:=ia.out.apart ap;have hB:=((gk.out.setCell (p:=⟨w,2,none⟩) (by show w.heap.size≤w;omega) _):Below w w (w5.setCell ⟨w,2,none⟩ (yw ua Q.length uc)));have hz:(w5.setCell ⟨w,2,none⟩ (yw ua Q.length uc)).heap.size=w5:=lh;obtain ⟨v6,ii⟩:∃ V,(w5.setCell ⟨w,2,none⟩ (yw ua Q.length uc))=V:=⟨_,rfl⟩;rw [ii] at kA kB kC rU rM rP hB hz;have ij:=yv kA;have ik:=yv kB;have il:=yv kC;have im:=yv rU;have io:=yv rM;have ip:=yv rP;have iq:=yv hB;have jh:=yv (zg gv.out (zr hz.symm));clear kA kB kC rU rM rP hB hz ap fi fj fk gi gj ia gk gv;obtain ⟨ir,it,iu,iv,iw,ix,iy,iz,i1,i2,i3,i4⟩:=ij.out.all6;obtain ⟨i5,i6,i7,i8,i9,ja⟩:=ik.out.all3;obtain ⟨hx,h0,h2,h3,h4,h5,jb,jc,jd,je,jf,jg⟩:=il.out.all6;go_wp2;refine Ak (v:=Ai #[(lz.v ⟨t',⟨ma,M,mc⟩,⟨ua,Q,uc⟩,⟨none,[],0⟩,false,g⟩),yy yz 0]) (by simp [A3,results71,go_sem,hx,h0,h2,h3,h4,h5]) rfl ?_;refine ⟨⟨t',⟨ma,M,mc⟩,⟨ua,Q,uc⟩,⟨none,[],0⟩,false,g⟩,rfl,(by unfold lz.d;simp only [← HQ.out,gN,eX,np,aC];rfl),?_,?_⟩
  ·refine mq.wide (S:=(w.heap.size::(w.heap.size+1)::(w.heap.size+1+1)::S)) (mq.apart (w:=v6) ⟨io.out,ip.out,ti.empty _ _,im.out.g⟩ ?_) (fun i hi=>.inl (by simp [hi]))
   iterate 6 refine lu.setCell ?_ (.inl lh) _
   exact lu.refl _ _
  ·iterate 6 refine Below.setCell ?_ (by show w.heap.size≤w+1+1;omega) _
   exact iq.out
end Go.Proofs.YtbagenpobcgjnaaGreat
