/-
  Joined: EdrMath, EdrMem, RplMath, RplOps, EdrMath2, RplMem, EdrNow, EdrDev, EdrDev2, EdrDev3, EdrDev4, EdrMath3, EdrRef, EdrRef2.
-/
import Derived.Test.YtbagenpobcgjnaaGreatJStaRight
import Derived.Test.YtbagenpobcgjnaaGreatJWeldOf
import Derived.Test.YtbagenpobcgjnaaGreatJMarkDev3
import Derived.Test.YtbagenpobcgjnaaGreatIter
open And renaming intro->Aj
open Go renaming Addr->Ab,Calls->Aa,Ending->Bh,TypeId->Ao,Value->Ag,World->zv,bodyPost_ret->Az,maxLen->Aq,results->Bi,undef->A6,wpAnyH_done->Ae,wpAnyH_ready->Ak,wpAnyH_take->A5,wp_region_held_drew->Ah
open Go.Act renaming put->zw
open Go.AllReadyH renaming cons->Ad,nil->Al
open Go.Ending renaming returned->An
open Go.IntKind renaming i64->zp
open Go.Lib renaming hid->zk
open Go.Obj renaming cells->zy
open Go.Value renaming agg->Ai,bool->zq,int->zo,ownBlock->Cg,pointer->zr,slice->zm,string->zn,tuple->Ax
open Go.World renaming alloc->Am,cell?->Ay,cell?_of_block->Bt,drew->A9,putObj_heap_other->Cf,setCell->Ar,size_alloc->Cc
open Int renaming eq_ofNat_of_zero_le->A3
open List renaming append_assoc->Bo,drop_eq_getElem_cons->Cd,eq_nil_of_length_eq_zero->Bn,getElem?_eq_getElem->B5,getElem_mem->Bl,getElem_of_mem->Bc,length->B9,length_append->Av,length_drop->Bp,length_singleton->Bd,length_take->Au,mem_append->Bf,mem_cons->zt,mem_cons_of_mem->Bq,mem_map->Bm,mem_of_mem_drop->Be,mem_of_mem_take->A4,mem_reverse->Br,mem_singleton->Aw,not_lt->Ca,not_mem_nil->Bv,pairwise_append->Bg,pairwise_cons->Cb,reverse_append->Bw,singleton_append->A0,take_add_one->Bz,take_append_drop->Bk,take_length->B7,take_succ_cons->B6
open Nat renaming le_of_eq->Af,le_refl->zx,le_succ->A8,le_trans->zu,lt_of_lt_of_le->zz,zero_add->Bs,zero_le->Ap
variable {made o so:Bool} {s t t' x:ByteArray} {i:Int} {L:List ByteArray} {S S':List Nat} {b c k l n rb:Nat} {D:Nat→Prop} {a p r:Option Go.Addr} {x0 x1 x2 x3:Go.Value} {A B W w w':Go.World}
namespace Go.Proofs.YtbagenpobcgjnaaGreat
open Go.RowKit
set_option linter.unusedVariables false
set_option linter.unusedSimpArgs false
theorem JF (x:l8) (r:List l8):md (x::r)=md r++[x.back]:=by unfold md;rw [List.map_cons,List.reverse_cons]
theorem PJ (a b:List l8):md (a++b)=md b++md a:=by unfold md;rw [List.map_append,Bw]
theorem PD (l:List l8):md (md l)=l:=by
 unfold md;rw [← List.map_reverse,List.reverse_reverse,List.map_map];have:(l8.back ∘ l8.back)=id:=by funext x;rfl
 rw [this,List.map_id]
theorem jO {x:l8} (h:oq t x.p x.o x.n=(s,0)):ms t [x]=(s,0):=by rw [eP h,dR]
theorem iY {x:l8} {r:List l8} (h:ms t (x::r)=(s,0)):∃ u,oq t x.p x.o x.n=(u,0)∧ms u r=(s,0):=by
 obtain ⟨⟨u,e⟩,hu⟩:∃ y,oq t x.p x.o x.n=y:=⟨_,rfl⟩;by_cases he:e=0
 ·subst he;rw [eP hu] at h;exact ⟨u,hu,h⟩
 ·rw [gX hu he] at h;exact absurd (congrArg Prod.snd h) he
theorem oQ {l:List l8} (h:(ms t l).2=0):ms t l=((ms t l).1,0):=by rw [← h]
theorem kZ {l:List l8} (hv:nx t.data.toList=true) (ht:t.size≤4096) (h:ms t l=(s,0)):nx s.data.toList=true∧s.size≤4096∧ms s (md l)=(t,0):=by
 induction l generalizing t with
 | nil =>
  rw [dR] at h;obtain rfl:t=s:=congrArg Prod.fst h;exact ⟨hv,ht,dR _⟩
 | cons x r ih =>
  obtain ⟨u,hu,hr⟩:=iY h;obtain ⟨hb,huv⟩:=pC hv ht hu;obtain ⟨h1,h2,h3⟩:=ih huv (bS hu) hr;refine ⟨h1,h2,?_⟩;rw [JF,oZ,h3,if_pos rfl];exact jO (x:=x.back) hb
theorem wC {l:List l8} (h:ms t l=(s,0)) (k:Nat):∃ u,ms t (l.take k)=(u,0)∧ms u (l.drop k)=(s,0):=by
 have e:=oZ t (l.take k) (l.drop k);rw [Bk,h] at e;by_cases g:(ms t (l.take k)).2=0
 ·rw [if_pos g] at e;exact ⟨_,oQ g,e.symm⟩
 ·rw [if_neg g] at e;exact absurd (congrArg Prod.snd e).symm g
theorem wD {u:ByteArray} {l:List l8} (hk:k<l.length) (h:ms t l=(s,0)) (hu:ms t (l.take k)=(u,0)):∃ v,oq u (l[k]!).p (l[k]!).o (l[k]!).n=(v,0)∧ms t (l.take (k+1))=(v,0):=by
 obtain ⟨u',h1,h2⟩:=wC h k;rw [hu] at h1;obtain rfl:u=u':=congrArg Prod.fst h1;rw [edrop l k hk] at h2;obtain ⟨v,h3,-⟩:=iY h2;refine ⟨v,h3,?_⟩;rw [Bz,B5 hk,← tu hk,oZ,hu,if_pos rfl];exact jO h3
theorem jQ {l:List l8} (ht:t.size≤4096) (h:ms t l=(s,0)):∀ x∈l,0≤x.p∧x.p≤4096:=by
 induction l generalizing t with
 | nil=>exact fun x hx=>absurd hx li
 | cons y r ih =>
  obtain ⟨u,hu,hr⟩:=iY h;intro x hx;rcases zt.1 hx with rfl|hx
  ·obtain ⟨k,e,hk,-⟩:=nA hu;omega
  ·exact ih (bS hu) hr x hx
def rq (m:List l9) (l:List l8):List l9:=l.foldl (fun m x=>pb m (mu x.p x.o.size x.n.size)) m
theorem tK (m:List l9) (x:l8) (l:List l8):rq m (x::l)=rq (pb m (mu x.p x.o.size x.n.size)) l:=rfl
theorem mK (m:List l9) (l:List l8) (k:Nat) (hk:k<l.length):rq m (l.take (k+1))=pb (rq m (l.take k)) (mu (l[k]!).p (l[k]!).o.size (l[k]!).n.size):=by
 unfold rq;rw [Bz,B5 hk,← tu hk,List.foldl_append];rfl
theorem pR (m:List l9) (l:List l8):(rq m l).length=m.length:=by
 induction l generalizing m with
 | nil=>rfl
 | cons x r ih=>rw [tK,ih,bO]
theorem sQ {x:l9} (h:xw t x=true):mv x.name.data.toList=true∧me t.data.toList x.p=true:=by
 unfold xw at h;simpa using h
theorem QL {p:Int} (h:me t.data.toList p=true):0≤p∧p≤t.size:=by
 have:=nN h;have e:t.data.toList.length=t.size:=li;omega
theorem yD {l:List l9} (h:nf l t=true):∀ x∈l,0≤x.p∧x.p≤t.size:=fun x hx=>by
 obtain ⟨i,hi,rfl⟩:=Bc hx;have:=((aZ l t).1 h).1 i hi;rw [o3 hi] at this;exact QL (sQ this).2
theorem oM {l:List l9} {o n:ByteArray} {p:Int} (hv:nx t.data.toList=true) (h:oq t p o n=(s,0)) (hr:nf l t=true):nf (pb l (mu p o.size n.size)) s=true:=by
 obtain ⟨h1,h2,h3⟩:=(aZ l t).1 hr;rw [aZ];refine ⟨fun i hi=>?_,by rw [bO];exact h2,by rw [JD];exact h3⟩;rw [bO] at hi;rw [iM l _ i hi];have hk:=sQ (h1 i hi);unfold xw;rw [show mv (l[i]!).name.data.toList=true from hk.1,Bool.true_and];exact EY hv h hk.2
theorem mH {l:List l8} {m:List l9} (hv:nx t.data.toList=true) (ht:t.size≤4096) (h:ms t l=(s,0)) (hr:nf m t=true):nf (rq m l) s=true:=by
 induction l generalizing t m with
 | nil =>
  rw [dR] at h;obtain rfl:t=s:=congrArg Prod.fst h;exact hr
 | cons x r ih =>
  obtain ⟨u,hu,h2⟩:=iY h;rw [tK];exact ih (pC hv ht hu).2 (bS hu) h2 (oM hv hu hr)
theorem GI {f:List l8→List l8} {L:List (List l8)} (h:qi f t L=true) (k:Nat):qi f t (L.take k)=true:=by
 induction L generalizing t k with
 | nil=>rw [List.take_nil];rfl
 | cons x r ih =>
  cases k with
  | zero=>rw [List.take_zero];rfl
  | succ k =>
   rw [B6];cases hx:m9 t (f x)
   ·rw [fH hx] at h;cases h
   ·rw [eF hx] at h ⊢;exact ih h k
theorem eC {f:List l8→List l8} {L:List (List l8)}:mq f t L=true↔qi f t L.reverse=true∧L.length≤16:=by unfold mq;simp
theorem gI (f:List l8→List l8) (t:ByteArray):mq f t []=true:=rfl
theorem fP {f:List l8→List l8} {L:List (List l8)} {st:List l8} (hs:m9 t' (f st)=true) (ht:(ms t' (f st)).1=t) (h:mq f t L=true):mq f t' (np L st)=true:=by
 obtain ⟨h1,h2⟩:=eC.1 h;rw [eC];refine ⟨?_,by rw [MD];omega⟩;have e:(np L st).reverse=st::(L.reverse.take (min L.length 15)):=by
  unfold np;rw [List.reverse_drop,Bw,List.reverse_singleton,A0,Av,Bd,show L.length+1 - (L.length+1 - 16)=min L.length 15+1 by omega,B6]
 rw [e,eF hs,ht];exact GI h1 _
theorem fT {f:List l8→List l8} {L:List (List l8)} (hk:L.length=k+1) (h:mq f t L=true):m9 t (f L[k]!)=true∧mq f (ms t (f L[k]!)).1 (L.take k)=true:=by
 obtain ⟨h1,h2⟩:=eC.1 h;have e:=lB L k lg;rw [← hk,B7] at e;rw [e] at h1;cases hx:m9 t (f L[k]!)
 ·rw [fH hx] at h1;cases h1
 ·rw [eF hx] at h1;exact ⟨rfl,eC.2 ⟨h1,by rw [Au];omega⟩⟩
theorem dX {l:List l8}:m9 t l=true↔1≤l.length∧l.length≤32∧(ms t l).2=0:=by
 unfold m9;simp [and_assoc]
theorem lJ {L:List (List l8)} {st x:List l8} (h:x∈np L st):x∈L∨x=st:=by
 unfold np at h;have:=Be h;simpa using this
theorem dH {L:List (List l8)} (h:k<L.length):L[k]! ∈ L:=by rw [getElem!_pos L k h];exact Bl h
structure mx (s:mg):Prop where
 v:nx s.t.data.toList=true
 z:s.t.size≤4096
 m:nf s.m s.t=true
 r:mq id s.t s.r=true
 go:s.g=[]∨(s.o=true∧s.r=[])
 gl:s.g.length≤32
 gr:(ms s.t (md s.g)).2=0
 u:mq md (ms s.t (md s.g)).1 s.u=true
 ue:∀ l∈s.u,∀ x∈l,o8 x=true
 re:∀ l∈s.r,∀ x∈l,o8 x=true
 ge:∀ x∈s.g,o8 x=true
theorem kU {l:List mo}:oz l=true↔∀ x∈mf l,∀ y∈x,o8 y=true:=by
 unfold oz mf;simp only [List.all_eq_true,Bm];exact ⟨fun h x ⟨y,hy,e⟩ z hz=>h y hy z (by rw [e];exact hz),fun h y hy z hz=>h y.l ⟨y,hy,rfl⟩ z hz⟩
theorem jR (s:l7):pz s=true↔mx s.d:=by
 unfold pz yx vk;rw [qK];have hg:oz [s.g]=true↔∀ x∈s.g.l,o8 x=true:=by rw [kU];simp [mf]
 by_cases g0:s.g.l.length=0
 ·have e:s.g.l=[]:=Bn g0;rw [if_pos g0];simp only [Bool.and_eq_true,decide_eq_true_eq,kU];constructor
  ·rintro ⟨⟨h1,h2⟩,h3,h4,h5,h6,h7,h8⟩;exact ⟨h2,h1,h3,h4,.inl e,by show s.g.l.length≤32;omega,by show (ms s.t (md s.g.l)).2=0;rw [e];rfl,by show mq md (ms s.t (md s.g.l)).1 _=true;rw [e];exact h5,h6,h7,by show ∀ x∈s.g.l,_;rw [e];simp⟩
  ·intro h;have hu:mq md (ms s.t (md s.g.l)).1 (mf s.u.l)=true:=h.u;rw [e] at hu;exact ⟨⟨h.z,h.v⟩,h.m,h.r,hu,h.ue,h.re,by simp [mf,e]⟩
 ·rw [if_neg g0];simp only [Bool.and_eq_true,decide_eq_true_eq,kU,dX,aF];have aa:(∀ x∈mf [s.g],∀ y∈x,o8 y=true)↔∀ x∈s.g.l,o8 x=true:=by simp [mf]
  rw [aa];constructor
  ·rintro ⟨⟨h1,h2⟩,h3,h4,h5,h6,⟨h7,h8,h9⟩,h10,h11,h12,h13⟩;exact ⟨h2,h1,h3,h4,.inr ⟨h5,by show mf s.r.l=[];rw [Bn h6];rfl⟩,h8,h9,h10,h11,h12,h13⟩
  ·intro h;have hgo:=h.go;rcases hgo with hgo|⟨h1,h2⟩
   ·exact absurd (congrArg B9 hgo) g0
   ·have h2:mf s.r.l=[]:=h2;have h2:=congrArg B9 h2;rw [aD] at h2;exact ⟨⟨h.z,h.v⟩,h.m,h.r,h1,h2,⟨lg,h.gl,h.gr⟩,h.u,h.ue,h.re,h.ge⟩
def pf (s:mg) (x:l8):mg×Int:=
 if s.o=true∧32≤s.g.length then (s,9)
 else (⟨(oq s.t x.p x.o x.n).1,pb s.m (mu x.p x.o.size x.n.size),if s.o=true then s.u else np s.u [x],[],s.o,if s.o=true then s.g++[x] else s.g⟩,0)
def insX (i:Int) (x:ByteArray):l8:=⟨i,⟨#[]⟩,x⟩
def vl (t:ByteArray) (i n:Int):l8:=⟨i,t.extract i.toNat (i+n).toNat,⟨#[]⟩⟩
def vd (s:mg) (i:Int) (x:ByteArray):mg×Int:=
 if oj s.t i x≠0 then (s,oj s.t i x) else if 512<x.size then (s,6) else if x.size=0 then (s,0) else pf s (insX i x)
def ve (s:mg) (i n:Int):mg×Int:=
 if pa s.t i n≠0 then (s,pa s.t i n) else if 512<n then (s,6) else if n=0 then (s,0) else pf s (vl s.t i n)
def sc (s:mg) (r:List l9×Int):mg×Int:=(if r.2=0 then ⟨s.t,r.1,s.u,s.r,s.o,s.g⟩ else s,r.2)
def va (s:mg) (i:Int) (x:ByteArray):mg×Int:=
 if mv x.data.toList=false then (s,7) else if i<0∨(s.t.size:Int)<i then (s,3) else if me s.t.data.toList i=false then (s,4) else sc s (qy s.m ⟨x,i⟩)
def te (s:mg) (x:ByteArray):mg×Int:=sc s (pk s.m x)
def po (s:mg):mg×Int:=
 if s.o=true then (s,11) else if s.u.length=0 then (s,10)
 else (⟨(ms s.t (md s.u[s.u.length - 1]!)).1,rq s.m (md s.u[s.u.length - 1]!),s.u.take (s.u.length - 1),np s.r s.u[s.u.length - 1]!,s.o,s.g⟩,0)
def pq (s:mg):mg×Int:=
 if s.o=true then (s,11) else if s.r.length=0 then (s,10)
 else (⟨(ms s.t s.r[s.r.length - 1]!).1,rq s.m s.r[s.r.length - 1]!,np s.u s.r[s.r.length - 1]!,s.r.take (s.r.length - 1),s.o,s.g⟩,0)
def tw (s:mg):mg×Int:=if s.o=true then (s,11) else (⟨s.t,s.m,s.u,s.r,true,s.g⟩,0)
def s7 (s:mg):mg×Int:=if s.o=false then (s,11) else (⟨s.t,s.m,if s.g.length=0 then s.u else np s.u s.g,s.r,false,[]⟩,0)
def yb (s:mg) (k i n:Int) (x:ByteArray):mg×Int:=
 if k=1 then vd s i x else if k=2 then ve s i n else if k=3 then va s i x else if k=4 then te s x
 else if k=5 then po s else if k=6 then pq s else if k=7 then tw s else if k=8 then s7 s else (s,2)
theorem BE (h:oj t i x=0):oq t (insX i x).p (insX i x).o (insX i x).n=(s8 t i x,0):=by
 obtain ⟨h1,h2,h3,h4⟩:=sY h;obtain ⟨g1,-,g3⟩:=bB.1 h1;obtain ⟨k,rfl⟩:=A3 g1;have hv:nx (⟨#[]⟩:ByteArray).data.toList=true:=lj;show oq t k ⟨#[]⟩ x=_;have hs:(⟨#[]⟩:ByteArray).size=0:=rfl;rw [gZ lg (by
  have:t.extract k (k+(⟨#[]⟩:ByteArray).size)=⟨#[]⟩:=by
   apply aW;rw [aH,hs];simp
  exact this) h2 (by rw [hs];exact h2) hv h3 (by rw [hs];omega)]
 unfold s8;rw [if_pos h,hs];rfl
theorem SD {a:Nat} (hv:nx t.data.toList=true) (hab:a≤b) (hb:b≤t.size) (ha:me t.data.toList a=true) (hb2:me t.data.toList b=true):nx (t.extract a b).data.toList=true:=by
 rw [bI] at hv ⊢;rw [bT] at ha hb2;rw [aH];have h1:=(iJ _ b hv hb2).1;have e:(t.data.toList.take b).drop a=(t.data.toList.drop a).take (b - a):=by rw [List.drop_take]
 rw [← e];refine (iJ _ a h1 ?_).2;have hl:t.data.toList.length=t.size:=li;rcases Nat.lt_or_ge a b with g|g
 ·rcases ha with h|h|⟨h,hc⟩
  ·exact .inl h
  ·omega
  ·refine .inr (.inr ⟨by rw [Au];omega,?_⟩);have:=bF (t.data.toList.take b) (t.data.toList.drop b) a (by rw [Au];omega);rw [Bk] at this;rw [← this];exact hc
 ·exact .inr (.inl (by rw [Au];omega))
theorem BI {n:Int} (hv:nx t.data.toList=true) (ht:t.size≤4096) (h:pa t i n=0):oq t (vl t i n).p (vl t i n).o (vl t i n).n=(ux t i n,0)∧((vl t i n).o.size:Int)=n:=by
 obtain ⟨h1,h2,h3⟩:=jF h;obtain ⟨g1,g2,g3⟩:=bB.1 h1;obtain ⟨k,rfl⟩:=A3 g1;obtain ⟨m,rfl⟩:=A3 g2;have e1:((k:Int)+(m:Int)).toNat=k+m:=lg;have e3:((k:Int)+(m:Int))=((k+m:Nat):Int):=lg;have hs:(t.extract k (k+m)).size=m:=by rw [ByteArray.size_extract];omega
 have hx:vl t k m=⟨k,t.extract k (k+m),⟨#[]⟩⟩:=by unfold vl;rw [e1,Int.toNat_natCast]
 rw [hx];rw [e3] at h3;refine ⟨?_,by show ((t.extract k (k+m)).size:Int)=m;rw [hs]⟩;show oq t k (t.extract k (k+m)) ⟨#[]⟩=_;rw [gZ lg (by rw [hs]) h2 (by rw [hs];exact h3) (SD hv lg lg h2 h3) lj (by rw [hs];show ¬ 4096+m<t.size+0;omega),hs];unfold ux;rw [if_pos h,e1]
 congr 1
 apply aW;simp
theorem mx.runs {s:mg} (h:mx s) {st:List l8} (hr:m9 s.t st=true):∃ t',ms s.t st=(t',0)∧nx t'.data.toList=true∧t'.size≤4096∧m9 t' (md st)=true∧(ms t' (md st)).1=s.t:=by
 obtain ⟨h1,h2,h3⟩:=dX.1 hr;obtain ⟨a,b,c⟩:=kZ h.v h.z (oQ h3);exact ⟨_,oQ h3,a,b,dX.2 ⟨by rw [aF];exact h1,by rw [aF];exact h2,by rw [c]⟩,by rw [c]⟩
theorem kI {s:mg} {x:l8} (h:mx s) (hx:oq s.t x.p x.o x.n=(t',0)) (ho:o8 x=true):mx (pf s x).1:=by
 unfold pf;by_cases hc:s.o=true∧32≤s.g.length
 ·rw [if_pos hc];exact h
 rw [if_neg hc,hx];obtain ⟨hb,hv⟩:=pC h.v h.z hx;have hm:=oM h.v hx h.m;by_cases hp:s.o=true
 ·have hgr:ms t' (md (s.g++[x]))=ms s.t (md s.g):=by
   rw [PJ];exact eP (x:=x.back) hb
  refine ⟨hv,bS hx,hm,gI _ _,.inr ⟨hp,rfl⟩,?_,?_,?_,?_,fun l hl=>absurd hl li,?_⟩
  ·show (if s.o=true then s.g++[x] else s.g).length≤32;rw [if_pos hp,Av,Bd];have:¬ 32≤s.g.length:=fun g=>hc ⟨hp,g⟩;omega
  ·show (ms t' (md (if s.o=true then s.g++[x] else s.g))).2=0;rw [if_pos hp,hgr];exact h.gr
  ·show mq md (ms t' (md (if s.o=true then s.g++[x] else s.g))).1 (if s.o=true then s.u else np s.u [x])=true;rw [if_pos hp,if_pos hp,hgr];exact h.u
  ·show ∀ l∈(if s.o=true then s.u else np s.u [x]),_;rw [if_pos hp];exact h.ue
  ·show ∀ y∈(if s.o=true then s.g++[x] else s.g),_;rw [if_pos hp];intro y hy;rcases Bf.1 hy with hy|hy
   ·exact h.ge y hy
   ·rw [Aw.1 hy];exact ho
 ·have hg:s.g=[]:=by
   rcases h.go with g|g
   ·exact g
   ·exact absurd g.1 hp
  have hu:=h.u;rw [hg] at hu;refine ⟨hv,bS hx,hm,gI _ _,.inl (by show (if s.o=true then s.g++[x] else s.g)=[];rw [if_neg hp,hg]),?_,?_,?_,?_,fun l hl=>absurd hl li,?_⟩
  ·show (if s.o=true then s.g++[x] else s.g).length≤32;rw [if_neg hp];exact h.gl
  ·show (ms t' (md (if s.o=true then s.g++[x] else s.g))).2=0;rw [if_neg hp,hg];rfl
  ·show mq md (ms t' (md (if s.o=true then s.g++[x] else s.g))).1 (if s.o=true then s.u else np s.u [x])=true;rw [if_neg hp,if_neg hp,hg];have aa:ms t' (md [x])=(s.t,0):=jO (x:=x.back) hb;exact fP (t:=s.t) (dX.2 ⟨by rw [aF];exact zx _,by rw [aF];simp,by show (ms t' (md [x])).2=0;rw [aa]⟩) (by show (ms t' (md [x])).1=s.t;rw [aa]) hu
  ·show ∀ l∈(if s.o=true then s.u else np s.u [x]),_;rw [if_neg hp];intro l hl y hy;rcases lJ hl with g|g
   ·exact h.ue l g y hy
   ·rw [g] at hy;rw [Aw.1 hy];exact ho
  ·show ∀ y∈(if s.o=true then s.g++[x] else s.g),_;rw [if_neg hp];exact h.ge
theorem QZ {s:mg} (h:mx s) (i:Int) (x:ByteArray):mx (vd s i x).1:=by
 unfold vd;split
 ·exact h
 rename_i h1
 split
 ·exact h
 split
 ·exact h
 exact kI h (BE lg) ((dC _).2 ⟨Ap _,by show x.size≤512;omega,.inr (by show 1≤x.size;omega)⟩)
theorem RY {s:mg} (h:mx s) (i n:Int):mx (ve s i n).1:=by
 unfold ve;split
 ·exact h
 rename_i h1
 split
 ·exact h
 split
 ·exact h
 obtain ⟨h2,h3⟩:=BI h.v h.z (show pa s.t i n=0 by omega);have h4:=(bB.1 (jF (show pa s.t i n=0 by omega)).1).2.1;exact kI h h2 ((dC _).2 ⟨lg,Ap _,.inl lg⟩)
theorem iX {s:mg} (h:mx s) {l:List l9} (hl:nf l s.t=true):mx ⟨s.t,l,s.u,s.r,s.o,s.g⟩:=⟨h.v,h.z,hl,h.r,h.go,h.gl,h.gr,h.u,h.ue,h.re,h.ge⟩
theorem xO {s:mg} (h:mx s):mx (po s).1:=by
 unfold po;by_cases ho:s.o=true
 ·rw [if_pos ho];exact h
 rw [if_neg ho];by_cases hl:s.u.length=0
 ·rw [if_pos hl];exact h
 rw [if_neg hl];have hg:s.g=[]:=by
  rcases h.go with g|g
  ·exact g
  ·exact absurd g.1 ho
 have hu:=h.u;rw [hg] at hu;obtain ⟨k,hk⟩:∃ k,s.u.length=k+1:=⟨s.u.length - 1,lg⟩;rw [show s.u.length - 1=k by omega];obtain ⟨hr,hrest⟩:=fT hk hu;obtain ⟨t',e,hv,hz,hb,hbt⟩:=h.runs hr;rw [PD] at hb hbt;replace hrest:mq md (ms s.t (md s.u[k]!)).1 (s.u.take k)=true:=hrest;rw [e] at hrest ⊢;have hm:=h.ue _ (dH (L:=s.u) (k:=k) lg);refine ⟨hv,hz,mH h.v h.z e h.m,fP (f:=id) hb hbt h.r,.inl hg,h.gl,?_,?_,fun l hl=>h.ue l (A4 hl),fun l hl=>?_,h.ge⟩
 ·show (ms t' (md s.g)).2=0;rw [hg];rfl
 ·show mq md (ms t' (md s.g)).1 _=true;rw [hg];exact hrest
 ·rcases lJ hl with g|g
  ·exact h.re l g
  ·rw [g];exact hm
theorem wN {s:mg} (h:mx s):mx (pq s).1:=by
 unfold pq;by_cases ho:s.o=true
 ·rw [if_pos ho];exact h
 rw [if_neg ho];by_cases hl:s.r.length=0
 ·rw [if_pos hl];exact h
 rw [if_neg hl];have hg:s.g=[]:=by
  rcases h.go with g|g
  ·exact g
  ·exact absurd g.1 ho
 have hu:=h.u;rw [hg] at hu;obtain ⟨k,hk⟩:∃ k,s.r.length=k+1:=⟨s.r.length - 1,lg⟩;rw [show s.r.length - 1=k by omega];obtain ⟨hr,hrest⟩:=fT hk h.r;obtain ⟨t',e,hv,hz,hb,hbt⟩:=h.runs (st:=s.r[k]!) hr;replace hrest:mq id (ms s.t s.r[k]!).1 (s.r.take k)=true:=hrest;rw [e] at hrest ⊢;have hm:=h.re _ (dH (L:=s.r) (k:=k) lg);refine ⟨hv,hz,mH h.v h.z e h.m,hrest,.inl hg,h.gl,?_,?_,fun l hl=>?_,fun l hl=>h.re l (A4 hl),h.ge⟩
 ·show (ms t' (md s.g)).2=0;rw [hg];rfl
 ·show mq md (ms t' (md s.g)).1 _=true;rw [hg];exact fP (f:=md) hb hbt hu
 ·rcases lJ hl with g|g
  ·exact h.ue l g
  ·rw [g];exact hm
theorem sF {s:mg} (h:mx s):mx (tw s).1:=by
 unfold tw;by_cases ho:s.o=true
 ·rw [if_pos ho];exact h
 rw [if_neg ho];have hg:s.g=[]:=by
  rcases h.go with g|g
  ·exact g
  ·exact absurd g.1 ho
 exact ⟨h.v,h.z,h.m,h.r,.inl hg,h.gl,h.gr,h.u,h.ue,h.re,h.ge⟩
theorem qY {s:mg} (h:mx s):mx (s7 s).1:=by
 unfold s7;by_cases ho:s.o=false
 ·rw [if_pos ho];exact h
 rw [if_neg ho];refine ⟨h.v,h.z,h.m,h.r,.inl rfl,Ap _,rfl,?_,?_,h.re,fun x hx=>absurd hx li⟩
 ·show mq md s.t (if s.g.length=0 then s.u else np s.u s.g)=true;by_cases hg:s.g.length=0
  ·rw [if_pos hg];have e:s.g=[]:=Bn hg;have hu:=h.u;rw [e] at hu;exact hu
  ·rw [if_neg hg];exact fP (f:=md) (dX.2 ⟨by rw [aF];omega,by rw [aF];exact h.gl,h.gr⟩) rfl h.u
 ·show ∀ l∈(if s.g.length=0 then s.u else np s.u s.g),_;by_cases hg:s.g.length=0
  ·rw [if_pos hg];exact h.ue
  ·rw [if_neg hg];intro l hl;rcases lJ hl with g|g
   ·exact h.ue l g
   ·rw [g];exact h.ge
theorem KZ {l:List l9}:qp l=true↔l.Pairwise (fun a b=>yf a.name b.name):=by
 rw [List.pairwise_iff_getElem];constructor
 ·intro h i j hi hj hij;have:=jP h hij hj;rwa [o3 hi,o3 hj] at this
 ·intro h;refine (fV l).2 fun i hi=>(fM _ _).2 ?_;rw [o3 hi,o3 (show i<l.length by omega)];exact h i (i+1) lg hi (Nat.lt_succ_self i)
theorem gH {l:List l9}:nf l t=true↔(∀ y∈l,xw t y=true)∧l.length≤16∧l.Pairwise (fun a b=>yf a.name b.name):=by
 rw [aZ,KZ];constructor
 ·rintro ⟨h1,h2,h3⟩;refine ⟨fun y hy=>?_,h2,h3⟩;obtain ⟨i,hi,rfl⟩:=Bc hy;have:=h1 i hi;rwa [o3 hi] at this
 ·rintro ⟨h1,h2,h3⟩;exact ⟨fun i hi=>by rw [o3 hi];exact h1 _ (Bl hi),h2,h3⟩
theorem LH {a b:ByteArray} (h:¬ yf b a) (hn:¬ a=b):yf a b:=by
 unfold yf at h ⊢;rcases Decidable.em (a.data.toList<b.data.toList) with g|g
 ·exact g
 ·refine absurd ?_ hn;have:=List.le_antisymm (Ca.1 h) (Ca.1 g);exact ByteArray.ext (Array.toList_inj.1 this)
theorem GP {l:List l9} (h:nf l t=true) (s:ByteArray):nf (qb l s) t=true:=by
 rw [gH] at h ⊢;obtain ⟨h1,h2,h3⟩:=h;exact ⟨fun y hy=>h1 y (List.mem_filter.1 hy).1,zu (mS l s) h2,h3.filter _⟩
theorem sU {l:List l9} (h:nf l t=true) (s:ByteArray) (ho:(pk l s).2=0):nf (pk l s).1 t=true:=by
 unfold pk at ho ⊢;split
 ·exact GP h s
 ·rename_i hc
  rw [if_neg hc] at ho;cases ho
theorem yU {R:l9→l9→Prop} {a b:List l9} {x:l9} (h:(a++b).Pairwise R) (ha:∀ y∈a,R y x) (hb:∀ y∈b,R x y):(a++[x]++b).Pairwise R:=by
 rw [Bg] at h;rw [Bo,Bg];refine ⟨h.1,?_,?_⟩
 ·rw [A0,Cb];exact ⟨hb,h.2.1⟩
 ·intro y hy z hz;rw [A0] at hz;rcases zt.1 hz with rfl|hz
  ·exact ha y hy
  ·exact h.2.2 y hy z hz
theorem uB {l:List l9} {x:l9} (h:nf l t=true) (hx:me t.data.toList x.p=true) (ho:(qy l x).2=0):nf (qy l x).1 t=true:=by
 have hri:=((aZ l t).1 h).2.2;obtain ⟨h1,h2,h3⟩:=gH.1 h;unfold qy at ho ⊢;by_cases c1:mv x.name.data.toList=false
 ·rw [if_pos c1] at ho;cases ho
 rw [if_neg c1] at ho ⊢;have hok:xw t x=true:=by
  unfold xw;rw [aO c1,hx];rfl
 by_cases c2:l.findIdx (qq x.name)<l.length
 ·rw [if_pos c2];show nf (pc (qb l x.name) x) t=true;rw [yR hri c2];obtain ⟨i,he⟩:∃ i,l.findIdx (qq x.name)=i:=⟨_,rfl⟩;have hn:=jU c2;rw [he] at c2 hn ⊢;have hn':(l[i]!).name=x.name:=of_decide_eq_true hn;rw [o3 c2] at hn';have e:l=l.take i++l[i]::l.drop (i+1):=li;rw [e,Bg,Cb] at h3;obtain ⟨p1,⟨p2,p3⟩,p4⟩:=h3;rw [gH];refine ⟨fun y hy=>?_,?_,?_⟩
  ·rw [Bo,Bf,A0,zt] at hy;rcases hy with hy|rfl|hy
   ·exact h1 y (A4 hy)
   ·exact hok
   ·exact h1 y (Be hy)
  ·rw [Av,Av,Au,Bp,Bd];omega
  ·refine yU ?_ (fun y hy=>?_) (fun y hy=>?_)
   ·rw [Bg];exact ⟨p1,p3,fun y hy z hz=>p4 y hy z (Bq _ hz)⟩
   ·have:=p4 y hy l[i] (List.mem_cons_self ..);rwa [hn'] at this
   ·have:=p2 y hy;rwa [hn'] at this
 ·rw [if_neg c2] at ho ⊢;by_cases c3:16≤l.length
  ·rw [if_pos c3] at ho;cases ho
  rw [if_neg c3];show nf (pc l x) t=true;unfold pc;obtain ⟨i,he⟩:∃ i,l.findIdx (sf x.name)=i:=⟨_,rfl⟩;have hle:=jL l (sf x.name);have ha:=fun j=>fX (l:=l) (f:=sf x.name) (j:=j);have hat:=jU (l:=l) (f:=sf x.name);have hnn:∀ j,j<l.length→¬ (l[j]!).name=x.name:=fun j hj g=>by
   have h4:l.findIdx (qq x.name)=l.length:=Nat.le_antisymm (jL _ _) (Nat.not_lt.1 c2);have:=fX (l:=l) (f:=qq x.name) (j:=j) lg;unfold qq at this;exact of_decide_eq_false this g
  rw [he] at hle ha hat ⊢;rw [gH];unfold xf;have e:l=l.take i++l.drop i:=(Bk i l).symm;refine ⟨fun y hy=>?_,?_,?_⟩
  ·rw [Bo,Bf,A0,zt] at hy;rcases hy with hy|rfl|hy
   ·exact h1 y (A4 hy)
   ·exact hok
   ·exact h1 y (Be hy)
  ·rw [Av,Av,Au,Bp,Bd];omega
  ·refine yU (by rw [← e];exact h3) (fun y hy=>?_) (fun y hy=>?_)
   ·obtain ⟨j,hj,rfl⟩:=Bc hy;rw [Au] at hj;rw [List.getElem_take];have g1:=ha j lg;have g2:=hnn j lg;rw [o3 lg] at g1 g2;exact LH (fun g=>by rw [(nQ _ _).2 g] at g1;cases g1) g2
   ·obtain ⟨j,hj,rfl⟩:=Bc hy;rw [Bp] at hj;rw [List.getElem_drop];have hil:i<l.length:=lg;have g1:=(nQ _ _).1 (hat hil);rcases Nat.eq_zero_or_pos j with rfl|aa
    ·rw [o3 hil] at g1;exact g1
    ·have g2:=jP hri (show i<i+j by omega) lg;rw [o3 (show i+j<l.length by omega)] at g2;exact lS g1 g2
theorem QM {s:mg} (h:mx s) (i:Int) (x:ByteArray):mx (va s i x).1:=by
 unfold va;split
 ·exact h
 split
 ·exact h
 split
 ·exact h
 rename_i he
 unfold sc;by_cases ho:(qy s.m ⟨x,i⟩).2=0
 ·show mx (if (qy s.m ⟨x,i⟩).2=0 then _ else _);rw [if_pos ho];exact iX h (uB h.m (aO he) ho)
 ·show mx (if (qy s.m ⟨x,i⟩).2=0 then _ else _);rw [if_neg ho];exact h
theorem DU {s:mg} (h:mx s) (x:ByteArray):mx (te s x).1:=by
 unfold te sc;by_cases ho:(pk s.m x).2=0
 ·show mx (if (pk s.m x).2=0 then _ else _);rw [if_pos ho];exact iX h (sU h.m x ho)
 ·show mx (if (pk s.m x).2=0 then _ else _);rw [if_neg ho];exact h
theorem TL {s:mg} (h:mx s) (k i n:Int) (x:ByteArray):mx (yb s k i n x).1:=by
 unfold yb
 repeat' split
 ·exact QZ h i x
 ·exact RY h i n
 ·exact QM h i x
 ·exact DU h x
 ·exact xO h
 ·exact wN h
 ·exact sF h
 ·exact qY h
 ·exact h
def wl:mg:=⟨⟨#[]⟩,[],[],[],false,[]⟩
theorem DC:mx wl:=⟨lj,Ap _,lj,gI _ _,.inl rfl,Ap _,rfl,gI _ _,fun l hl=>absurd hl (by simp [wl]),fun l hl=>absurd hl (by simp [wl]),fun l hl=>absurd hl (by simp [wl])⟩
theorem DE {s:mg} {x:l8} (h:(pf s x).2≠0):(pf s x).1=s:=by
 unfold pf at h ⊢;split
 ·rfl
 ·rename_i c;rw [if_neg c] at h;exact absurd rfl h
theorem UE {s:mg} (h:(vd s i x).2≠0):(vd s i x).1=s:=by
 unfold vd at h ⊢;split
 ·rfl
 split
 ·rfl
 split
 ·rfl
 rename_i a b c
 rw [if_neg a,if_neg b,if_neg c] at h;exact DE h
theorem TA {s:mg} {n:Int} (h:(ve s i n).2≠0):(ve s i n).1=s:=by
 unfold ve at h ⊢;split
 ·rfl
 split
 ·rfl
 split
 ·rfl
 rename_i a b c
 rw [if_neg a,if_neg b,if_neg c] at h;exact DE h
theorem DB {s:mg} {r:List l9×Int} (h:(sc s r).2≠0):(sc s r).1=s:=by
 unfold sc at h ⊢;exact if_neg h
theorem SE {s:mg} (h:(va s i x).2≠0):(va s i x).1=s:=by
 unfold va at h ⊢;split
 ·rfl
 split
 ·rfl
 split
 ·rfl
 rename_i a b c
 rw [if_neg a,if_neg b,if_neg c] at h;exact DB h
theorem QU {s:mg} (h:(po s).2≠0):(po s).1=s:=by
 unfold po at h ⊢;split
 ·rfl
 split
 ·rfl
 rename_i a b
 rw [if_neg a,if_neg b] at h;exact absurd rfl h
theorem RU {s:mg} (h:(pq s).2≠0):(pq s).1=s:=by
 unfold pq at h ⊢;split
 ·rfl
 split
 ·rfl
 rename_i a b
 rw [if_neg a,if_neg b] at h;exact absurd rfl h
theorem OP {s:mg} (h:(tw s).2≠0):(tw s).1=s:=by
 unfold tw at h ⊢;split
 ·rfl
 rename_i a
 rw [if_neg a] at h;exact absurd rfl h
theorem TZ {s:mg} (h:(s7 s).2≠0):(s7 s).1=s:=by
 unfold s7 at h ⊢;split
 ·rfl
 rename_i a
 rw [if_neg a] at h;exact absurd rfl h
theorem UU {s:mg} {k n:Int} (h:(yb s k i n x).2≠0):(yb s k i n x).1=s:=by
 unfold yb at h ⊢;by_cases c1:k=1
 ·rw [if_pos c1] at h ⊢;exact UE h
 rw [if_neg c1] at h ⊢;by_cases c2:k=2
 ·rw [if_pos c2] at h ⊢;exact TA h
 rw [if_neg c2] at h ⊢;by_cases c3:k=3
 ·rw [if_pos c3] at h ⊢;exact SE h
 rw [if_neg c3] at h ⊢;by_cases c4:k=4
 ·rw [if_pos c4] at h ⊢;exact DB h
 rw [if_neg c4] at h ⊢;by_cases c5:k=5
 ·rw [if_pos c5] at h ⊢;exact QU h
 rw [if_neg c5] at h ⊢;by_cases c6:k=6
 ·rw [if_pos c6] at h ⊢;exact RU h
 rw [if_neg c6] at h ⊢;by_cases c7:k=7
 ·rw [if_pos c7] at h ⊢;exact OP h
 rw [if_neg c7] at h ⊢;by_cases c8:k=8
 ·rw [if_pos c8] at h ⊢;exact TZ h
 rw [if_neg c8]
theorem tI {f:List l8→List l8} (hf:∀ l,(f l).length=l.length) {L:List (List l8)} (h:qi f t L=true):∀ l∈L,1≤l.length∧l.length≤32:=by
 induction L generalizing t with
 | nil=>exact fun l hl=>absurd hl li
 | cons x r ih =>
  cases hx:m9 t (f x)
  ·rw [fH hx] at h;cases h
  ·rw [eF hx] at h;intro l hl;rcases zt.1 hl with rfl|hl
   ·have:=dX.1 hx;rw [hf] at this;exact ⟨this.1,this.2.1⟩
   ·exact ih h l hl
theorem mx.ul {s:mg} (h:mx s):s.u.length≤16∧∀ l∈s.u,1≤l.length∧l.length≤32:=by
 obtain ⟨h1,h2⟩:=eC.1 h.u;exact ⟨h2,fun l hl=>tI aF h1 l (Br.2 hl)⟩
theorem mx.rl {s:mg} (h:mx s):s.r.length≤16∧∀ l∈s.r,1≤l.length∧l.length≤32:=by
 obtain ⟨h1,h2⟩:=eC.1 h.r;exact ⟨h2,fun l hl=>tI (f:=id) (fun _=>rfl) h1 l (Br.2 hl)⟩
theorem mx.ml {s:mg} (h:mx s):s.m.length≤16:=((aZ _ _).1 h.m).2.1
theorem eH {l:List mo} {P:List l8→Prop} (h:∀ x∈mf l,P x):∀ x∈l,P x.l:=fun x hx=>h _ (Bm.2 ⟨x,hx,rfl⟩)
end Go.Proofs.YtbagenpobcgjnaaGreat
namespace Go.Proofs.YtbagenpobcgjnaaGreat
variable {T : List Nat}
open Go.RowKit
set_option linter.unusedVariables false
set_option linter.unusedSimpArgs false
structure sv (S:List Nat) (w:zv) (x:mo):Prop where
 row:qf w (ph S w) x.a x.l
 nil:x.a=none→x.c=0
structure tx (S:List Nat) (w:zv) (x:qx):Prop where
 row:o4 w (ph S w) x.a x.l
 nil:x.a=none→x.c=0
structure tf (S:List Nat) (w:zv) (x:o7):Prop where
 row:vj w (ph S w) x.a x.l
 all:∀ y∈x.l,sv S w y
 nil:x.a=none→x.c=0
 le:x.l.length≤x.c
 cap:x.c≤Aq
structure mm (S:List Nat) (w:zv) (s:l7):Prop where
 m:tx S w s.m
 u:tf S w s.u
 r:tf S w s.r
 g:sv S w s.g
theorem oT (hS:∀ i∈S',i∈S∨w.heap.size≤i) (hb:ph S w b):ph S' w b:=⟨hb.1,fun g=>by
 have h1:=hb.1;rcases hS b g with g|g
 ·exact hb.2 g
 ·omega⟩
theorem sv.in {x:mo} (h:sv S w x):o0 w x:=⟨h.row.more fun _ hb=>hb.1,h.nil⟩
theorem sv.apart {x:mo} (h:sv S w x) (ha:lx S w w'):sv S w' x:=⟨(h.row.keep fun p hp=>ha.cell hp.1 hp.2).more fun b hb=>hb.on ha.size,h.nil⟩
theorem sv.wide {x:mo} (h:sv S w x) (hS:∀ i∈S',i∈S∨w.heap.size≤i):sv S' w x:=⟨h.row.more fun b hb=>oT hS hb,h.nil⟩
theorem sv.later {x:mo} (h:sv S w x) (hb:Below w w w'):sv S w' x:=h.apart (.of_below hb)
theorem o0.bare {x:mo} (h:o0 w x):sv [] w x:=⟨h.row.more fun b hb=>⟨hb,li⟩,h.nil⟩
theorem rp.off {base:Nat} {x:mo} (h:rp w base x) (hS:∀ i∈S,i<base):sv S w x:=⟨h.row.more fun b hb=>⟨hb.2,fun g=>by have:=hS b g;have:=hb.1;omega⟩,h.nil⟩
theorem tx.in {x:qx} (h:tx S w x):vf w x:=⟨h.row.more fun _ hb=>hb.1,h.nil⟩
theorem tx.pcs {l:List l9} (h:tx S w ⟨a,l,c⟩):uy w ⟨a,l,c⟩:=⟨h.row.more fun _ hb=>hb.1,h.nil⟩
theorem tx.apart {x:qx} (h:tx S w x) (ha:lx S w w'):tx S w' x:=⟨(h.row.keep fun p hp=>ha.cell hp.1 hp.2).more fun b hb=>hb.on ha.size,h.nil⟩
theorem tx.wide {x:qx} (h:tx S w x) (hS:∀ i∈S',i∈S∨w.heap.size≤i):tx S' w x:=⟨h.row.more fun b hb=>oT hS hb,h.nil⟩
theorem tx.later {x:qx} (h:tx S w x) (hb:Below w w w'):tx S w' x:=h.apart (.of_below hb)
theorem vf.bare {x:qx} (h:vf w x):tx [] w x:=⟨h.row.more fun b hb=>⟨hb,li⟩,h.nil⟩
theorem td.off {base:Nat} {l:List l9} (h:td w base a l c) (hS:∀ i∈S,i<base):tx S w ⟨a,l,c⟩:=⟨h.row.more fun b hb=>⟨hb.2,fun g=>by have:=hS b g;have:=hb.1;omega⟩,h.nil⟩
theorem tf.in {x:o7} (h:tf S w x):nz w x:=⟨h.row.more fun _ hb=>hb.1,fun y hy=>(h.all y hy).in,h.nil,h.le,h.cap⟩
theorem tf.apart {x:o7} (h:tf S w x) (ha:lx S w w'):tf S w' x:=⟨(h.row.keep fun p hp=>ha.cell hp.1 hp.2).more fun b hb=>hb.on ha.size,fun y hy=>(h.all y hy).apart ha,h.nil,h.le,h.cap⟩
theorem tf.wide {x:o7} (h:tf S w x) (hS:∀ i∈S',i∈S∨w.heap.size≤i):tf S' w x:=⟨h.row.more fun b hb=>oT hS hb,fun y hy=>(h.all y hy).wide hS,h.nil,h.le,h.cap⟩
theorem tf.later {x:o7} (h:tf S w x) (hb:Below w w w'):tf S w' x:=h.apart (.of_below hb)
theorem nz.bare {x:o7} (h:nz w x):tf [] w x:=⟨h.row.more fun b hb=>⟨hb,li⟩,fun y hy=>(h.all y hy).bare,h.nil,h.le,h.cap⟩
theorem sg.off {base:Nat} {x:o7} (h:sg w base x) (hS:∀ i∈S,i<base) (ha:∀ y∈x.l,sv S w y):tf S w x:=⟨h.row.more fun b hb=>⟨hb.2,fun g=>by have:=hS b g;have:=hb.1;omega⟩,ha,h.nil,h.le,h.cap⟩
theorem tf.empty (S:List Nat) (w:zv):tf S w ⟨none,[],0⟩:=⟨fun k hk=>absurd hk li,fun x hx=>absurd hx li,fun _=>rfl,zx _,Ap _⟩
theorem sv.empty (S:List Nat) (w:zv):sv S w ⟨none,[],0⟩:=⟨fun k hk=>absurd hk li,fun _=>rfl⟩
theorem tx.empty (S:List Nat) (w:zv):tx S w ⟨none,[],0⟩:=⟨fun k hk=>absurd hk li,fun _=>rfl⟩
theorem mm.in {s:l7} (h:mm S w s):ol w s:=⟨h.m.in,h.u.in,h.r.in,h.g.in⟩
theorem mm.apart {s:l7} (h:mm S w s) (ha:lx S w w'):mm S w' s:=⟨h.m.apart ha,h.u.apart ha,h.r.apart ha,h.g.apart ha⟩
theorem mm.wide {s:l7} (h:mm S w s) (hS:∀ i∈S',i∈S∨w.heap.size≤i):mm S' w s:=⟨h.m.wide hS,h.u.wide hS,h.r.wide hS,h.g.wide hS⟩
theorem mm.later {s:l7} (h:mm S w s) (hb:Below w w w'):mm S w' s:=h.apart (.of_below hb)
theorem ol.bare {s:l7} (h:ol w s):mm [] w s:=⟨h.m.bare,h.u.bare,h.r.bare,h.g.bare⟩
theorem tf.take {l:List mo} (h:tf S w ⟨a,l,c⟩) (n:Nat):tf S w ⟨a,l.take n,c⟩:=
 ⟨vj.take h.row n,fun x hx=>h.all x (A4 hx),h.nil,by have:=h.le;show (l.take n).length≤c;rw [Au];have h2:l.length≤c:=this;omega,h.cap⟩
theorem jI {L:List (List l8)} {e:Bh} (h:yg w L e w') (hS:∀ i∈S,i<w.heap.size):∃ x:o7,e=An (zm x.a x.l.length x.c)∧mf x.l=L∧tf S w' x∧Below w w w':=by
 obtain ⟨a,c,l,rfl,hl,hr,⟨g,rfl,hg,ha⟩,-,hb⟩:=h;exact ⟨⟨_,l,c⟩,rfl,hl,hr.off hS fun y hy=>(ha y hy).off fun i hi=>by have:=hS i hi;omega,hb⟩
theorem oD {L:List (List l8)} {s:List l8} {e:Bh} (h:RetPop w L s e w') (hS:∀ i∈S,i<w.heap.size):∃ (x:o7) (a2:Option Ab) (c2:Nat),e=An (Ax #[zm x.a x.l.length x.c,oy a2 s.length c2,zo zp 0])∧mf x.l=L∧tf S w' x∧sv S w' ⟨a2,s,c2⟩∧Below w w w':=by
 obtain ⟨a,c,l,a2,c2,rfl,hl,hr,ha,h2,hb⟩:=h;exact ⟨⟨a,l,c⟩,a2,c2,rfl,hl,hr.off hS fun y hy=>(ha y hy).off hS,h2.off hS,hb⟩
theorem mb.offb {B:Nat→Prop} {cs:Array Ag} (hb:l6 w b cs 100) {m:Bool} (h0:cs[0]? = some (zq m)):∀ {h k:Nat} {L:List ByteArray},mb w B h k L→mb w (fun i=>B i∧i≠b) h k L
 | 0,k,L,⟨hk,s,e,hf,hB⟩=>⟨⟨hk,fun g=>by
  subst g;have:=hB.symm.trans hb;cases this⟩,s,e,hf,hB⟩
 | h+1,k,L,⟨hk,K,g,c,h2,h3,h4,h5,e,h6,h7,h8⟩=>⟨⟨hk,fun g=>by
  subst g;have:=h8.symm.trans hb;cases this⟩,K,g,c,h2,h3,h4,fun x hx=>(h5 x hx).offb hb h0,e,⟨h6,fun q=>by
  subst q;have h9:=h7.2 0 (by rw [aP];omega);have h10:=hb.cell 0 _ h0;rw [Bs] at h9;have h11:=h10.symm.trans h9;simp [nu] at h11⟩,h7,h8⟩
theorem n9.apart (h:n9 w r p L s) {cs:Array Ag} (hb:l6 w b cs 100) {m:Bool} (h0:cs[0]? = some (zq m)) (ha:lx [b] w w'):n9 w' r p L s:=by
 have hn:∀ i,i<w.heap.size→i≠b→w'.heap[i]? = w.heap[i]? :=fun i hi hne=>ha.block i hi (by simpa using hne);refine ⟨⟨?_,h.x.tight,h.x.txt,h.x.small⟩,?_⟩
 ·rcases h.x.t with t|⟨k,hh,e,hk⟩
  ·exact .inl t
  ·exact .inr ⟨k,hh,e,(((hk.offb hb h0).keep ha.size fun i hi=>hn i hi.1.1 hi.2).weak fun i hi=>hi.1.on ha.size)⟩
 ·rcases h.at' with t|⟨k,e,hl,hc⟩
  ·exact .inl t
  ·refine .inr ⟨k,e,zz hl ha.size,?_⟩;have hne:k≠b:=fun g=>by
    subst g;have:=(hb.cell 0 _ h0).symm.trans hc;cases this
   exact (Bt (w:=w) (hn k hl hne)).trans hc
theorem pr {T:List Nat} (hn:w≤n):∀ i∈b::n::T,i∈b::T∨w≤i:=fun i hi=>by
 simp only [zt] at hi ⊢;rcases hi with rfl|rfl|hi
 ·exact .inl (.inl rfl)
 ·exact .inr hn
 ·exact .inl (.inr hi)
theorem wide3 {m:Nat} {T:List Nat} (hn:w≤m):∀ i∈b::n::m::T,i∈b::n::T∨w≤i:=fun i hi=>by
 simp only [zt] at hi ⊢;rcases hi with rfl|rfl|rfl|hi
 ·exact .inl (.inl rfl)
 ·exact .inl (.inr (.inl rfl))
 ·exact .inr hn
 ·exact .inl (.inr (.inr hi))
abbrev edC (made:Bool) (r:Option Ab) (t:ByteArray) (m:qx) (u ro:o7) (o:Bool) (g:mo):Array Ag:=#[zq made,zr r,zn t,zm m.a m.l.length m.c,zm u.a u.l.length u.c,zm ro.a ro.l.length ro.c,zq o,zm g.a g.l.length g.c]
structure n7 (T:List Nat) (w:zv) (b:Nat) (s:l7) (rb:Nat) (p:Option Ab) (L:List ByteArray):Prop where
 blk:l6 w b (edC true (some ⟨rb,0,none⟩) ⟨#[]⟩ s.m s.u s.r s.o s.g) 100
 rope:n9 w (some ⟨rb,0,none⟩) p L s.t
 rows:mm (b::T) w s
 ml:s.m.l.length≤s.m.c
 mc:s.m.c≤Aq
 inv:mx s.d
 tlt:∀ i∈T,i<w.heap.size
theorem n7.lt {s:l7} (h:n7 T w b s rb p L):b<w:=h.blk.lt
theorem n7.later {s:l7} (h:n7 T w b s rb p L) (hb:Below w w w'):n7 T w' b s rb p L:=⟨h.blk.onto hb,h.rope.later hb,h.rows.later hb,h.ml,h.mc,h.inv,fun i hi=>zz (h.tlt i hi) hb.size⟩
def nk (T:List Nat) (w:zv) (b:Nat) (r:mg×Int) (e:Bh) (w':zv):Prop:=∃ (s':l7) (rb':Nat) (p':Option Ab) (L':List ByteArray),e=An (zo zp r.2)∧n7 T w' b s' rb' p' L'∧s'.d=r.1∧lx [b] w w'
theorem l6.eight {x4 x5 x6 x7:Ag} {t:Ao} (h:l6 w b #[x0,x1,x2,x3,x4,x5,x6,x7] t) :
 w ⟨b,0,none⟩=some x0∧w ⟨b,1,none⟩=some x1∧w ⟨b,2,none⟩=some x2∧w ⟨b,3,none⟩=some x3∧w ⟨b,4,none⟩=some x4∧w ⟨b,5,none⟩=some x5∧w ⟨b,6,none⟩=some x6∧w ⟨b,7,none⟩=some x7:=
 ⟨h.cell 0 _ rfl,h.cell 1 _ rfl,h.cell 2 _ rfl,h.cell 3 _ rfl,h.cell 4 _ rfl,h.cell 5 _ rfl,h.cell 6 _ rfl,h.cell 7 _ rfl⟩
theorem l6.all8 {x4 x5 x6 x7:Ag} {t:Ao} (h:l6 w b #[x0,x1,x2,x3,x4,x5,x6,x7] t) :
 w ⟨b,0,none⟩=some x0∧w ⟨b,1,none⟩=some x1∧w ⟨b,2,none⟩=some x2∧w ⟨b,3,none⟩=some x3∧w ⟨b,4,none⟩=some x4∧w ⟨b,5,none⟩=some x5∧w ⟨b,6,none⟩=some x6∧w ⟨b,7,none⟩=some x7 ∧
 w.frozen? ⟨b,0,none⟩=false∧w.frozen? ⟨b,1,none⟩=false∧w.frozen? ⟨b,2,none⟩=false∧w.frozen? ⟨b,3,none⟩=false∧w.frozen? ⟨b,4,none⟩=false∧w.frozen? ⟨b,5,none⟩=false∧w.frozen? ⟨b,6,none⟩=false∧w.frozen? ⟨b,7,none⟩=false:=
 ⟨h.cell 0 _ rfl,h.cell 1 _ rfl,h.cell 2 _ rfl,h.cell 3 _ rfl,h.cell 4 _ rfl,h.cell 5 _ rfl,h.cell 6 _ rfl,h.cell 7 _ rfl,h.free 0,h.free 1,h.free 2,h.free 3,h.free 4,h.free 5,h.free 6,h.free 7⟩
theorem l6.all6 {x4 x5:Ag} {t:Ao} (h:l6 w b #[x0,x1,x2,x3,x4,x5] t) :
 w ⟨b,0,none⟩=some x0∧w ⟨b,1,none⟩=some x1∧w ⟨b,2,none⟩=some x2∧w ⟨b,3,none⟩=some x3∧w ⟨b,4,none⟩=some x4∧w ⟨b,5,none⟩=some x5 ∧
 w.frozen? ⟨b,0,none⟩=false∧w.frozen? ⟨b,1,none⟩=false∧w.frozen? ⟨b,2,none⟩=false∧w.frozen? ⟨b,3,none⟩=false∧w.frozen? ⟨b,4,none⟩=false∧w.frozen? ⟨b,5,none⟩=false:=
 ⟨h.cell 0 _ rfl,h.cell 1 _ rfl,h.cell 2 _ rfl,h.cell 3 _ rfl,h.cell 4 _ rfl,h.cell 5 _ rfl,h.free 0,h.free 1,h.free 2,h.free 3,h.free 4,h.free 5⟩
theorem l6.all4 {t:Ao} (h:l6 w b #[x0,x1,x2,x3] t) :
 w ⟨b,0,none⟩=some x0∧w ⟨b,1,none⟩=some x1∧w ⟨b,2,none⟩=some x2∧w ⟨b,3,none⟩=some x3 ∧
 w.frozen? ⟨b,0,none⟩=false∧w.frozen? ⟨b,1,none⟩=false∧w.frozen? ⟨b,2,none⟩=false∧w.frozen? ⟨b,3,none⟩=false:=
 ⟨h.cell 0 _ rfl,h.cell 1 _ rfl,h.cell 2 _ rfl,h.cell 3 _ rfl,h.free 0,h.free 1,h.free 2,h.free 3⟩
theorem l6.all3 {t:Ao} (h:l6 w b #[x0,x1,x2] t) :
 w ⟨b,0,none⟩=some x0∧w ⟨b,1,none⟩=some x1∧w ⟨b,2,none⟩=some x2 ∧
 w.frozen? ⟨b,0,none⟩=false∧w.frozen? ⟨b,1,none⟩=false∧w.frozen? ⟨b,2,none⟩=false:=
 ⟨h.cell 0 _ rfl,h.cell 1 _ rfl,h.cell 2 _ rfl,h.free 0,h.free 1,h.free 2⟩
theorem l6.all1 {t:Ao} (h:l6 w b #[x0] t) :
 w ⟨b,0,none⟩=some x0 ∧
 w.frozen? ⟨b,0,none⟩=false:=
 ⟨h.cell 0 _ rfl,h.free 0⟩
theorem box3 (w:zv) (A B C:Array Ag) (ta tb tc:Ao):∃ W,((w.alloc (zy A ta)).alloc (zy B tb)).alloc (zy C tc)=W∧l6 W w A ta∧l6 W (w+1) B tb∧l6 W (w+1+1) C tc∧Below w w W∧W.heap.size=w+1+1+1:=by
 have e1:(w.alloc (zy A ta)).heap.size=w+1:=li;have h2:=l6.new (w.alloc (zy A ta)) B tb;have h3:=l6.new ((w.alloc (zy A ta)).alloc (zy B tb)) C tc;rw [e1] at h2;rw [Cc,e1] at h3;exact ⟨_,rfl,((l6.new w A ta).alloc _).alloc _,h2.alloc _,h3,(qk w _ _).trans ((ns _ _).mono lr),li⟩
theorem vo (w:zv) (A B:Array Ag) (ta tb:Ao):∃ W,(w.alloc (zy A ta)).alloc (zy B tb)=W∧l6 W w A ta∧l6 W (w+1) B tb∧Below w w W∧W.heap.size=w+1+1:=by
 have h2:=l6.new (w.alloc (zy A ta)) B tb;rw [Cc] at h2;exact ⟨_,rfl,(l6.new w A ta).alloc _,h2,qk w _ _,li⟩
theorem n8 (w:zv) (A:Array Ag) (ta:Ao):∃ W,w.alloc (zy A ta)=W∧l6 W w A ta∧Below w w W∧W.heap.size=w+1:=⟨_,rfl,l6.new w A ta,ns w _,li⟩
theorem iR (hS:qg S w) (hW:W.heap.size=n+1+1+1) (hn:w=n):∀ i∈(n::(n+1)::(n+1+1)::S),i<W.heap.size:=fun i hi=>by
 simp only [zt] at hi;rcases hi with rfl|rfl|rfl|hi
 ·omega
 ·omega
 ·omega
 ·have:=hS i hi;omega
end Go.Proofs.YtbagenpobcgjnaaGreat
namespace Go.Proofs.YtbagenpobcgjnaaGreat
open Go.RowKit
set_option linter.unusedVariables false
def rx (s:mg) (x:ru×Int):mg×Int:=if x.2=0 then yb s x.1.k x.1.a x.1.n x.1.s else (s,x.2)
def qm:mg→List (ru×Int)→mg×Nat×Int
 | s,[]=>(s,0,0)
 | s,x::t=>if (rx s x).2=0 then ((qm (rx s x).1 t).1,(qm (rx s x).1 t).2.1+1,(qm (rx s x).1 t).2.2) else (s,0,(rx s x).2)
def allR:mg→List (ru×Int)→List mg
 | s,[]=>[s]
 | s,x::t=>if (rx s x).2=0 then s::allR (rx s x).1 t else [s]
theorem xN {s:mg} (h:mx s) (x:ru×Int):mx (rx s x).1:=by
 unfold rx;split
 ·exact TL h _ _ _ _
 ·exact h
structure xz (s:mg) (l:List (ru×Int)) (k:Nat) (t:mg):Prop where
 le:k≤l.length
 run:qm s l=((qm t (l.drop k)).1,k+(qm t (l.drop k)).2.1,(qm t (l.drop k)).2.2)
 all:∃ pre:List mg,pre.length=k∧allR s l=pre++allR t (l.drop k)
 inv:mx s→mx t
theorem xz.zero (s:mg) (l:List (ru×Int)):xz s l 0 s:=⟨Ap _,li,⟨[],rfl,rfl⟩,id⟩
theorem xz.step {s t:mg} {l:List (ru×Int)} (h:xz s l k t) (hk:k<l.length) (h0:(rx t l[k]).2=0):xz s l (k+1) (rx t l[k]).1:=by
 have e:=Cd hk;obtain ⟨pre,hp,ha⟩:=h.all;have h1:=h.run;rw [e] at h1 ha;simp only [qm,allR,if_pos h0] at h1 ha;refine ⟨hk,?_,⟨pre++[t],by simp [hp],by rw [ha];simp⟩,fun hs=>xN (h.inv hs) _⟩;rw [h1];refine Prod.ext rfl (Prod.ext ?_ rfl);simp only;omega
theorem xz.no {s t:mg} {l:List (ru×Int)} (h:xz s l k t) (hk:k<l.length) (h0:(rx t l[k]).2≠0):qm s l=(t,k,(rx t l[k]).2):=by
 have h1:=h.run;rw [Cd hk] at h1;simp only [qm,if_neg h0] at h1;exact h1
theorem xz.done {s t:mg} {l:List (ru×Int)} (h:xz s l k t) (hk:k=l.length):qm s l=(t,k,0):=by
 have h1:=h.run;rw [List.drop_of_length_le lg] at h1;exact h1
theorem xz.most {s t:mg} {l:List (ru×Int)} (h:xz s l k t):k≤(qm s l).2.1:=by rw [h.run];exact Nat.le_add_right _ _
def uf (l:List ru):List (ru×Int):=l.map fun x=>(x,0)
theorem uY (l:List ru):(uf l).length=l.length:=by unfold uf;simp
theorem NN (l:List ru) (k:Nat) (h:k<(uf l).length):(uf l)[k]=(l[k]'(by rw [uY] at h;exact h),0):=List.getElem_map _
open Go.Proofs.Tryz
set_option maxRecDepth 100000
open Lib (hid)
set_option linter.unusedSimpArgs false
attribute [local go_sem] Oper.semAt_some
abbrev encO (x:ru×Int):Array Ag:=#[Ai #[zo zp x.1.k,zo zp x.1.a,zo zp x.1.n,zn x.1.s],zo zp x.2]
def YO (xs:List (ru×Int)) (k:Nat) (x:ru×Int) (k':Nat) (_:zv):Prop:=∃ h:k<xs.length,x=xs[k]∧k'=k+1
theorem YO.firm (xs:List (ru×Int)) (l k:Nat) (x:ru×Int) (k':Nat):Firm l (YO xs k x k'):=Firm.const l _
def tl (D:Nat→Prop) (w W:zv):Prop:=w.heap.size≤W∧∀ k,D k→k<w.heap.size→W.heap[k]? = w.heap[k]?
theorem tl.trans {C:zv} (h:tl D A B) (k:tl D B C):tl D A C:=⟨zu h.1 k.1,fun i hi hl=>(k.2 i hi (zz hl h.1)).trans (h.2 i hi hl)⟩
theorem tl.of_apart (h:lx S A B) (hS:∀ x∈S,¬ D x):tl D A B:=⟨h.size,fun k hk hl=>h.block k hl fun g=>hS k g hk⟩
theorem tl.of_below (h:Below A A B):tl D A B:=.of_apart (S:=[]) (.of_below h) li
def vr (gf:Nat) (lb:Array Ag) (xs:List (ru×Int)) (D:Nat→Prop) (w:zv):Prop:=
 ∀ (W:zv) (m l:Nat) (S:List Nat),tl D w W→(∀ x∈S,¬ D x)→Iter prog m l gf lb encO (YO xs) (fun _=>True) (fun A B=>Below A A B) S 0 xs.length W
theorem vr.later {gf:Nat} {lb:Array Ag} {xs:List (ru×Int)} (h:vr gf lb xs D w) (hb:tl D w w'):vr gf lb xs D w':=fun W m l S hW hS=>h W m l S (hb.trans hW) hS
theorem tF {l:List ru} (h:ud A D a l) (hD:∀ k,D k→k<A.heap.size) (hS:∀ x∈S,¬ D x) (hm:lx S A B):ud B D a l:=h.keep fun p hp=>hm.cell (hD _ hp) (fun g=>hS _ g hp)
set_option maxHeartbeats 1600000 in
theorem PX (l:List ru) (a:Option Ab) (c n:Nat) {bl:Nat} (hr:ud w D a l) (hn:l.length=n) (hbx:Boxed w bl 27 (zm a n c)) (hb0:D bl) (hD:∀ k,D k→k<w.heap.size) (hz:n≤1000000) :
 vr 36 #[zr (some ⟨bl,0,none⟩)] (uf l) D w:=by
 intro W m lp S hW hS J Jx hJ hJx hY h0;have hrW:ud W D a l:=hr.keep fun p hp=>Bt (hW.2 p.block hp (hD _ hp));have hbW:Boxed W bl 27 (zm a n c):=(hW.2 bl hb0 (hD _ hb0)).trans hbx;have q0:=hbW.cell;have hsz:=hW.1;have hlen:=uY l;have aj:=zk hrW;have HY:=zk hY;have HJ:=zk hJ;have HN:=zk hn;have HS:=zk hS;have H0:=zk h0;have aa:=zk hlen;have ag:=zk hD;clear hr hbx hrW hbW hY hJ hn hS h0 hJx hW hlen hD;refine callsIn_of_wp func36 rfl trivial ?_ rfl;simp only [ntmps36,List.size_toArray,List.length_cons,List.length_nil,Nat.reduceAdd,Nat.reduceSub,Array.replicate_succ,Array.replicate_zero,List.push_toArray,List.append_toArray,List.nil_append,List.cons_append]
 gi_wp2
 gi_loopw [7] (fun i wr=>∃ k:Nat,i=zo zp k∧k≤n∧J k wr∧W.heap.size≤wr∧ud wr D a l) (fun i _=>n - (intOf i).toNat)
 case atStart=>exact ⟨0,rfl,Ap _,H0.out,zx _,aj.out⟩
 case round =>
  obtain ⟨k,rfl,hk,hj,hs,ho⟩:=hrel;by_cases hlt:k<n
  ·have hkl:k<l.length:=by rw [HN.out];exact hlt
   obtain ⟨ad,rfl,hab,q0,q1,q2,q3⟩:=ho k hkl;have hbx:=ns wr (zy #[zo zp l[k].k,zo zp l[k].a,zo zp l[k].n,zn l[k].s] 50);have hx:(uf l)[k]'(by rw [aa.out];exact hkl)=(l[k],0):=NN l k _;have hy:=HY.out k (l[k],0) (k+1) _ ⟨by rw [aa.out];exact hkl,hx.symm,rfl⟩ (HJ.out _ _ _ hj hbx);have ab:=tF (S:=[]) ho (fun k hk=>by have:=ag.out k hk;omega) li (.of_below hbx);have ac:=zu hs hbx.size;generalize l[k]=x at q0 q1 q2 q3 hy ab ac;obtain ⟨xk,xa,xn,xs⟩:=x;simp only at q0 q1 q2 q3 hy ab ac;obtain ⟨fn,tmps,assign,body,hyr,hR⟩:=dW hy;have b0:(0:Int)≤(k:Int):=lg;have b1:(k:Int)<(n:Int):=lg;have HR:=zk hR;have HO:=zk ab;have ah:=zk ac;clear hy hR ho hj hbx hx hab ab ac
   gi_wp2_with fail
   refine ⟨fun e=>(by cases e),(HR.out none _).mono ?_⟩;rintro e W4 (⟨rfl,ai,ae⟩|⟨rfl,ak,ae⟩)
   ·have af:=zk ai;have al:=zk (zu ah.out ae.apart.size);have am:=zk (tF HO.out (fun k hk=>zz (ag.out k hk) (zu hsz ah.out)) HS.out ae.apart);clear ai ae HR HO
    gi_wp2
    go_roundw
    case rel=>exact ⟨k+1,by go_num,lg,af.out,al.out,am.out⟩
    case measure=>simp [intOf];omega
   ·gi_wp2
    refine Az (results_none rfl _ _ _) rfl ?_;exact ⟨⟨_,rfl⟩,.inr ak⟩
  ·obtain rfl:k=n:=lg;have af:=zk hj;clear hj ho
   gi_wp2
   go_end0
   exact ⟨⟨_,rfl⟩,.inl ⟨by rw [aa.out,HN.out];exact af.out,trivial⟩⟩
theorem KI (l:List ru) (a:Option Ab) (c n:Nat) (w:zv):Aa prog 20 #[zm a n c] w fun e w'=>e=An (.func (.func 36) #[] #[zr (some ⟨w,0,none⟩)])∧w'=w.alloc (zy #[zm a n c] 27):=by
 have hmf:∀ (fn:Fn) (first cap:Array Ag) (w:zv),(Instr.makeFunc fn first cap).run prog w=.ok (.func fn first cap) w:=fun _ _ _ _=>rfl;go_enter func20,ntmps20;go_wp2;go_ret;exact ⟨rfl,rfl⟩
theorem mx.shown {s:mg} (h:mx s) {l:List l8} (hr:ms s.t l=(t',0)):∀ k,k≤l.length→∀ y∈rq s.m (l.take k),-2305843009213693952≤y.p∧y.p≤2305843009213693952:=fun k hk y hy=>by
 obtain ⟨u,hu,-⟩:=wC hr k;have hm:=mH h.v h.z hu h.m;have hz:=(kZ h.v h.z hu).2.1;have:=yD hm y hy;omega
theorem mx.edz {s:mg} (h:mx s) {l:List l8} (hl:∀ x∈l,o8 x=true):sh l 140737488355328:=fun x hx=>by
 have:=(dC x).1 (hl x hx);omega
theorem mx.marks {s:mg} (h:mx s):∀ y∈s.m,-2305843009213693952≤y.p∧y.p≤2305843009213693952:=fun y hy=>by
 have:=yD h.m y hy;have:=h.z;omega
theorem uV {l:List l8} (h:∀ x∈l,o8 x=true):∀ x∈md l,o8 x=true:=fun x hx=>by
 unfold md at hx;obtain ⟨y,hy,rfl⟩:=Bm.1 (Br.1 hx);have:=(dC y).1 (h y hy);exact (dC _).2 ⟨this.2.1,this.1,this.2.2.elim .inr .inl⟩
theorem l6.apart {cs:Array Ag} {t:Ao} (h:l6 w b cs t) (ha:lx S w w') (hb:b ∉ S):l6 w' b cs t:=(ha.block b h.lt hb).trans h
theorem eone {B:Nat→Prop} {p:Int} {o n:ByteArray} {t:Ao} (h:l6 w b #[zo zp p,zn o,zn n] t) (hB:B b):qf w B (some ⟨b,0,none⟩) [⟨p,o,n⟩]:=fun k hk=>by
 obtain rfl:k=0:=by simpa using hk
 exact ⟨⟨b,0,none⟩,rfl,hB,h.cell 0 _ rfl,h.cell 1 _ rfl,h.cell 2 _ rfl⟩
theorem tG {p:Ab} {v:Ag} (h:w p=some v) {o:Obj} (hl:w.heap[p.block]? = some o) (ho:o.isCells=false):False:=by
 unfold Ay at h;rw [hl] at h;cases o <;> simp_all [Obj.isCells]
theorem pV {x:Nat} (hp:qz w x) (h:w ⟨x,0,none⟩=some (zr p)):False:=by
 have hlt:=World.block_lt_of_cell? w _ h;have hlt:x<w:=hlt;obtain ⟨o,ho⟩:∃ o,w.heap[x]? = some o:=⟨_,Array.getElem?_eq_getElem hlt⟩;cases o with
 | cells cs t z =>
  refine (hp cs t z ho).2 p ?_;unfold Ay at h;rw [ho] at h;simpa using h
 | _=>exact tG h ho rfl
theorem mb.offp {B Q:Nat→Prop} (hp:∀ x,Q x→qz w x):∀ {h k:Nat} {L:List ByteArray},mb w B h k L→mb w (fun i=>B i∧¬ Q i) h k L
 | 0,k,L,⟨hk,s,e,hf,hB⟩=>⟨⟨hk,fun g=>(hp k g _ _ _ hB).1 rfl⟩,s,e,hf,hB⟩
 | h+1,k,L,⟨hk,K,g,c,h2,h3,h4,h5,e,h6,h7,h8⟩=>⟨⟨hk,fun q=>(hp k q _ _ _ h8).1 rfl⟩,K,g,c,h2,h3,h4,fun x hx=>(h5 x hx).offp hp,e,⟨h6,fun q=>by
  have h9:=h7.2 0 (by rw [aP];omega);rw [Bs] at h9;have:∃ p,w ⟨g,0,none⟩=some (zr p):=by
   rw [h9];unfold nu;simp
  obtain ⟨p,hp'⟩:=this;exact pV (hp g q) hp'⟩,h7,h8⟩
theorem o9.kept (hm:o9 S w w') {i:Nat} (hi:i<w) (hn:¬ qz w i):w'.heap[i]? = w.heap[i]? :=by
 by_cases hs:i∈S
 ·exact (hm.plain i hs).resolve_left hn
 ·exact hm.apart.block i hi hs
theorem n9.mild (h:n9 w r p L s) (hm:o9 S w w'):n9 w' r p L s:=by
 refine ⟨⟨?_,h.x.tight,h.x.txt,h.x.small⟩,?_⟩
 ·rcases h.x.t with t|⟨k,hh,e,hk⟩
  ·exact .inl t
  ·exact .inr ⟨k,hh,e,(((hk.offp (Q:=qz w) fun _ h=>h).keep hm.apart.size fun i hi=>hm.kept hi.1.1 hi.2).weak fun i hi=>hi.1.on hm.apart.size)⟩
 ·rcases h.at' with t|⟨k,e,hl,hc⟩
  ·exact .inl t
  ·exact .inr ⟨k,e,zz hl hm.apart.size,(Bt (w:=w) (a:=⟨k,0,none⟩) (hm.kept hl (fun g=>pV g hc))).trans hc⟩
section
variable {T S : List Nat} {w w' : World} {b : Nat} {s : l7} {rb : Nat} {p : Option Addr} {L : List ByteArray}
theorem n7.mild (h:n7 T w b s rb p L) (hS:∀ x∈S,x∈T) (hb:b ∉ S) (hm:o9 S w w'):n7 T w' b s rb p L:=
 ⟨h.blk.apart hm.apart hb,h.rope.mild hm,h.rows.apart (hm.apart.more fun i hi=>Bq _ (hS i hi)),h.ml,h.mc,h.inv,fun i hi=>zz (h.tlt i hi) hm.apart.size⟩
theorem n7.less {T':List Nat} (h:n7 T w b s rb p L) (hT:∀ x∈T',x∈T):n7 T' w b s rb p L:=
 ⟨h.blk,h.rope,h.rows.wide fun i hi=>by simp only [zt] at hi ⊢;exact hi.elim (fun e=>.inl (.inl e)) (fun g=>.inl (.inr (hT i g))),h.ml,h.mc,h.inv,fun i hi=>h.tlt i (hT i hi)⟩
theorem n7.grow {T':List Nat} (h:n7 T w b s rb p L) (hb:Below w w w') (hT:∀ x∈T',x∈T∨w.heap.size≤x) (hz:∀ x∈T',x<w'.heap.size):n7 T' w' b s rb p L:=
 ⟨h.blk.onto hb,h.rope.later hb,(h.rows.wide fun i hi=>by simp only [zt] at hi ⊢;exact hi.elim (fun e=>.inl (.inl e)) (fun g=>(hT i g).elim (fun g=>.inl (.inr g)) .inr)).later hb,h.ml,h.mc,h.inv,hz⟩
theorem rY {o:Obj} (hl:w.heap[l]? = some o) (ho:o.isCells=false) {i:Nat} (hi:ph S w i) {q:Ab} {v:Ag} (hq:q.block=i) (hc:w q=some v):ph (l::S) w i:=⟨hi.1,fun g=>by
 rcases zt.1 g with rfl|g
 ·exact tG hc (by rw [hq];exact hl) ho
 ·exact hi.2 g⟩
theorem sv.non {x:mo} {o:Obj} (h:sv S w x) (hl:w.heap[l]? = some o) (ho:o.isCells=false):sv (l::S) w x:=⟨fun k hk=>by
 obtain ⟨ad,e,hb,q,r⟩:=h.row k hk;exact ⟨ad,e,rY hl ho hb (aX ad _) q,q,r⟩,h.nil⟩
theorem tx.non {x:qx} {o:Obj} (h:tx S w x) (hl:w.heap[l]? = some o) (ho:o.isCells=false):tx (l::S) w x:=⟨fun k hk=>by
 obtain ⟨ad,e,hb,q,r⟩:=h.row k hk;exact ⟨ad,e,rY hl ho hb (aX ad _) q,q,r⟩,h.nil⟩
theorem tf.non {x:o7} {o:Obj} (h:tf S w x) (hl:w.heap[l]? = some o) (ho:o.isCells=false):tf (l::S) w x:=⟨fun k hk=>by
 obtain ⟨ad,e,hb,q⟩:=h.row k hk;exact ⟨ad,e,rY hl ho hb (aX ad _) q,q⟩,fun y hy=>(h.all y hy).non hl ho,h.nil,h.le,h.cap⟩
theorem mm.non {o:Obj} (h:mm S w s) (hl:w.heap[l]? = some o) (ho:o.isCells=false):mm (l::S) w s:=⟨h.m.non hl ho,h.u.non hl ho,h.r.non hl ho,h.g.non hl ho⟩
theorem mm.putn {o:Obj} (h:mm S w s) (hl:w.heap[l]? = some o) (ho:o.isCells=false) (o':Obj):mm S (w.putObj l o') s:=
 mm.wide ((h.non hl ho).apart (S:=l::S) ⟨rfl,rfl,rfl,li,fun k _ hn=>Cf (fun e=>hn (by simp [e]))⟩) fun i hi=>.inl (Bq _ hi)
theorem n7.put {o:Obj} (h:n7 T w b s rb p L) (hl:w.heap[l]? = some o) (ho:o.isCells=false) (o':Obj):n7 T (w.putObj l o') b s rb p L:=by
 have hm:o9 [l] w (w.putObj l o'):=⟨⟨rfl,rfl,rfl,li,fun k _ hn=>Cf (by simpa using hn)⟩,fun x hx=>.inl (fun cs t z hc=>by rw [Aw.1 hx,hl] at hc;cases hc;cases ho)⟩;have hbl:b ∉ [l]:=fun g=>by
  have e:=h.blk;rw [Aw] at g;subst g;have e2:w.heap[b]? = _:=e;rw [hl] at e2;cases e2;cases ho
 exact ⟨h.blk.apart hm.apart hbl,h.rope.mild hm,h.rows.putn hl ho o',h.ml,h.mc,h.inv,fun i hi=>by rw [World.putObj_size];exact h.tlt i hi⟩
end
section
variable (made : Bool) (r : Option Addr) (t : ByteArray) (ma : Option Addr) (mn mc : Nat) (ua : Option Addr) (un uc : Nat) (ra : Option Addr) (rn rc : Nat) (o : Bool) (ga : Option Addr) (gn gc : Nat)
abbrev edN:Ag:=Ai #[zq made,zr r,zn t,zm ma mn mc,zm ua un uc,zm ra rn rc,zq o,zm ga gn gc]
theorem LE (w:zv):(Instr.field 100 (edN made r t ma mn mc ua un uc ra rn rc o ga gn gc) 0).run prog w=.ok (zq made) w:=lh
theorem SW (w:zv):(Instr.field 100 (edN made r t ma mn mc ua un uc ra rn rc o ga gn gc) 1).run prog w=.ok (zr r) w:=lh
theorem TQ (w:zv):(Instr.field 100 (edN made r t ma mn mc ua un uc ra rn rc o ga gn gc) 2).run prog w=.ok (Ai #[zn t,zm ma mn mc,zm ua un uc,zm ra rn rc,zq o,zm ga gn gc]) w:=lh
end
structure Nw (w:zv) (e:Option Ab) (v:Ag):Prop where
 out:∀ W,Below w w W→Aa prog 57 #[zr e] W fun x W'=>x=An v∧Below W.heap.size W W'
theorem Nw.later {e:Option Ab} {v:Ag} (h:Nw w e v) (hb:Below w w W):Nw W e v:=⟨fun W' hW'=>h.out W' (hb.trans (hW'.mono hb.size))⟩
set_option maxHeartbeats 800000 in
theorem oS {ma:Option Ab} {mn mc:Nat} {ua:Option Ab} {un uc:Nat} {ra:Option Ab} {rn rc:Nat} {ga:Option Ab} {gn gc:Nat}
 (h:l6 w b #[zq made,zr r,zn t,zm ma mn mc,zm ua un uc,zm ra rn rc,zq o,zm ga gn gc] 100) :
 Aa prog 57 #[zr (some ⟨b,0,none⟩)] w fun x w'=>x=An (edN made r t ma mn mc ua un uc ra rn rc o ga gn gc)∧Below w w w':=by
 obtain ⟨p0,p1,p2,p3,p4,p5,p6,p7⟩:=h.alloc (zy #[zq false,zr none,zn ⟨#[]⟩,zm none 0 0,zm none 0 0,zm none 0 0,zq false,zm none 0 0] 100) |>.eight;clear h;go_enter func57,ntmps57;go_wp2;refine Az (results_cell_row (P:=prog) (fn:=Tryz.f57) (p:=2) (ty:=100) rfl _ _ w.heap.size 100 _ (0,0) _ rfl (l6.new _ _ _) underlying100 rfl lh) rfl ?_;exact ⟨rfl,ns _ _⟩
theorem Nw.some {ma:Option Ab} {mn mc:Nat} {ua:Option Ab} {un uc:Nat} {ra:Option Ab} {rn rc:Nat} {ga:Option Ab} {gn gc:Nat}
 (h:l6 w b #[zq made,zr r,zn t,zm ma mn mc,zm ua un uc,zm ra rn rc,zq o,zm ga gn gc] 100):Nw w (.some ⟨b,0,none⟩) (edN made r t ma mn mc ua un uc ra rn rc o ga gn gc):=⟨fun W hW=>oS (h.onto hW)⟩
section
variable {w : World} {e : Option Addr} {made : Bool} {r : Option Addr} {t : ByteArray} {ma : Option Addr} {mn mc : Nat} {ua : Option Addr} {un uc : Nat} {ra : Option Addr} {rn rc : Nat} {o : Bool} {ga : Option Addr} {gn gc : Nat}
set_option maxHeartbeats 800000 in
theorem BH (h:Nw w e (edN made r t ma mn mc ua un uc ra rn rc o ga gn gc)) :
 Aa prog 58 #[zr e] w fun x w'=>x=An (zr r)∧Below w w w':=by
 have cn:=h.out w (Below.refl _ _);have cf:=SW made r t ma mn mc ua un uc ra rn rc o ga gn gc;have CN:=zk cn;clear cn h;go_enter func58,ntmps58;go_wp2_with fail;refine CN.out.mono ?_;rintro x w1 ⟨rfl,aa⟩;go_wp2;go_ret;exact ⟨rfl,aa⟩
set_option maxHeartbeats 800000 in
theorem qD (h:Nw w e (edN made r t ma mn mc ua un uc ra rn rc o ga gn gc)) (hr:n9 w r p L s) :
 Aa prog 149 #[zr e] w fun x w'=>x=An (zo zp s.size)∧Below w w w':=by
 have cn:=BH h;have cl:=fun W (hW:Below w w W)=>wU (hr.later hW);have CN:=zk cn;have CL:=zk cl;clear cn cl h hr;go_enter func149,ntmps149;go_wp2_with fail;refine CN.out.mono ?_;rintro x w1 ⟨rfl,aa⟩;have ab:=zk aa;clear aa;go_wp2_with fail;refine (mw ab.out (CL.out _ ab.out)).mono ?_;rintro x w2 ⟨rfl,ac⟩;go_wp2;go_ret;exact ⟨rfl,ac⟩
end
end Go.Proofs.YtbagenpobcgjnaaGreat
namespace Go.Proofs.YtbagenpobcgjnaaGreat
open Go.Proofs.Tryz
set_option maxRecDepth 100000
open Lib (hid)
variable {T : List Nat}
open Go.RowKit
set_option linter.unusedVariables false
set_option linter.unusedSimpArgs false
set_option maxHeartbeats 1600000 in
theorem BV {m:qx} {u ro:o7} {g:mo} (hk:l6 w b (edC made r t m u ro o g) 100) (hT:qg T w) (hu:tf (b::T) w u) (y:mo) (hy:sv (b::T) w y) (hl:u.l.length≤900) (hb:∀ x∈u.l,x.l.length≤1000000) (hb2:y.l.length≤1000000) :
 Aa prog 155 #[zr (some ⟨b,0,none⟩),oy y.a y.l.length y.c] w fun e w'=>e=An (Ax #[])∧∃ u':o7,mf u'.l=np (mf u.l) y.l∧l6 w' b (edC made r t m u' ro o g) 100∧tf (b::T) w' u'∧lx [b] w w':=by
 have hbl:b<w:=hk.lt;obtain ⟨ya,yl,yc⟩:=y;obtain ⟨n,hn⟩:∃ n,yl.length=n:=⟨_,rfl⟩;dsimp only at hb2 ⊢;rw [hn];obtain ⟨wX,hwX,kS,ab,hz⟩:=n8 w #[zm ya n yc] 54;have a1:=zk (hk.onto ab);have ac:=zk (kS);have ba:=zk ((lx.of_below ab:lx [b] w wX));have bb:=zk (zx wX);have af:∀ W:zv,wX.heap.size≤W→∀ i∈b::w::T,i<W:=fun W hWz i hi=>by simp only [zt] at hi;rcases hi with rfl|rfl|hi;all_goals first|omega|(have:=hT i hi;omega)|(have:=hT i hi;have:=hap.size;omega)
 have cP:=fun W (hW:Below wX wX W)=>(iL u.a u.l u.c ⟨ya,yl,yc⟩ W ((hu.later ab).later hW).in ((hy.later ab).later hW).in hl hb hb2).mono fun e w' h=>jI (S:=b::w::T) h (af W hW.size);simp only [hn] at cP;have HN:=zk hn;have CP:=zk cP;clear hk kS hu hy hl hb hb2 cP ab hz af;obtain ⟨ah,ai,aj,ak,ad,al,am,an,ao,aq,ar,au,av,aw,ax,ay⟩:=a1.out.all8;obtain ⟨az,a0⟩:=ac.out.all1;have q4:wX.drew ⟨b,4,none⟩=some (zm u.a u.l.length u.c):=ad;go_enter func155,ntmps155;go_wp2_with fail;clear ah ai aj ak ad al am an ao aq ar au av aw ax ay az a0;refine Ah (S:=(fun W:zv=>W ⟨w,0,none⟩=some (zm ya n yc))) lh (ac.out.cell 0 _ rfl) (fun hHeld=>?_);refine lz 0 ?_;refine lz 1 ?_;refine lz 2 ?_;refine lz 3 ?_;refine lz 4 ?_;refine lz 6 ?_;refine m8 5 fun K hK=>?_;go_simp;skip
 try go_wp2_with fail
 refine hK.out _ _ ?_ (fun hHeld=>?_)
 ·exact hHeld
 clear hK K
 try simp only [zw,mj]
 refine m8 7 fun K hK=>?_;go_simp
 (go_at_call 184;refine (CP.out _ (Below.refl _ _).drew).mono ?_;rintro e w1 ⟨⟨xa,xl,xc⟩,rfl,a2,a3,a4⟩;have aa:Below wX wX w1:=(Below.refl _ _).drew.trans a4)
 try go_wp2_with fail
 refine hK.out _ _ ?_ (fun hHeld=>?_)
 ·exact (aa.cell (p:=⟨w,0,none⟩) ac.out.lt).trans (ac.out.cell 0 _ rfl)
 clear hK K
 try simp only [zw,mj]
 clear q4 a4 hwX CP;have ag:=zk (a1.out.onto aa);have ae:=zk (ac.out.onto aa);have a5:=zk (ba.out.trans (S':=[]) (.of_below aa) li);have a6:=zk (zu bb.out aa.size);have HL:=zk a2;have a7:=zk a3;clear a2 a3 aa;obtain ⟨bf,bg,bh,bi,bj,bk,bl,bm,bn,bo,bp,bq,br,bs,bu,bv⟩:=ag.out.all8;obtain ⟨bw,bx⟩:=ae.out.all1;refine lz 8 ?_;refine lz 9 ?_;refine lz 10 ?_;refine m8 11 fun K hK=>?_;go_simp;skip
 try go_wp2_with fail
 refine hK.out _ _ ?_ (fun hHeld=>?_)
 ·exact (ae.out.other ⟨b,4,none⟩ (by show b≠w;omega) _).cell 0 _ rfl
 clear hK K
 try simp only [zw,mj]
 refine Ae lh ?_ _;have kO:l6 (w1.setCell ⟨b,4,none⟩ (zm xa xl.length xc)) (b) #[zq made,zr r,zn t,zm m.a m.l.length m.c,zm xa xl.length xc,zm ro.a ro.l.length ro.c,zq o,zm g.a g.l.length g.c] 100:=(ag.out.set 4 _);have kS:l6 (w1.setCell ⟨b,4,none⟩ (zm xa xl.length xc)) (w) #[zm ya n yc] 54:=(ae.out.other ⟨b,4,none⟩ (by show b≠w;omega) _);have ap:lx (b::w::T) w1 (w1.setCell ⟨b,4,none⟩ (zm xa xl.length xc)):=(lx.refl (b::w::T) w1).setCell (p:=⟨b,4,none⟩) (.inl li) _;have rP:=a7.out.apart ap;have hB:=((a5.out.setCell (p:=⟨b,4,none⟩) li _):lx [b] w (w1.setCell ⟨b,4,none⟩ (zm xa xl.length xc)));have hz:(w1.setCell ⟨b,4,none⟩ (zm xa xl.length xc)).heap.size=w1:=li;obtain ⟨v2,a8⟩:∃ V,(w1.setCell ⟨b,4,none⟩ (zm xa xl.length xc))=V:=⟨_,rfl⟩;rw [a8] at kO kS rP hB hz;rw [a8];have a9:=zk kO;have bc:=zk kS;have bd:=zk rP;have be:=zk hB;have ck:=zk (zu a6.out (Af hz.symm));clear kO kS rP hB hz ap ag ae a7 a5 a6;obtain ⟨bz,b3,b4,b5,b6,b7,b8,b9,ca,cb,cc,cd,ce,cf,cg,ch⟩:=a9.out.all8;obtain ⟨ci,cj⟩:=bc.out.all1;go_wp2
 go_end0
 exact ⟨rfl,⟨xa,xl,xc⟩,HL.out,a9.out,bd.out.wide (S':=b::T) (fun i hi=>.inl (by simp only [zt] at hi ⊢;rcases hi with h|h <;> simp [h])),be.out⟩
set_option maxHeartbeats 800000 in
theorem BR {m:qx} {u ro:o7} {g:mo} (hk:l6 w b (edC made r t m u ro o g) 100) (a:Option Ab) (n c:Nat) :
 Aa prog 150 #[zr (some ⟨b,0,none⟩),zm a n c,zo zp 0] w fun e w'=>e=An (zo zp 0)∧l6 w' b #[zq made,zr r,zn t,zm a n c,zm u.a u.l.length u.c,zm ro.a ro.l.length ro.c,zq o,zm g.a g.l.length g.c] 100∧lx [b] w w':=by
 have hbl:b<w:=hk.lt;have aa:=zk (hk);have ab:=zk ((lx.refl [b] w));have ac:=zk (zx w);clear hk;obtain ⟨ag,ah,ai,aj,ak,al,am,an,ao,aq,ar,au,av,aw,ax,ay⟩:=aa.out.all8;go_enter func150,ntmps150;have kO:l6 (w.setCell ⟨b,3,none⟩ (zm a n c)) (b) #[zq made,zr r,zn t,zm a n c,zm u.a u.l.length u.c,zm ro.a ro.l.length ro.c,zq o,zm g.a g.l.length g.c] 100:=(aa.out.set 3 _);have hB:=((ab.out.setCell (p:=⟨b,3,none⟩) li _):lx [b] w (w.setCell ⟨b,3,none⟩ (zm a n c)));have hz:(w.setCell ⟨b,3,none⟩ (zm a n c)).heap.size=w:=li;obtain ⟨v1,ae⟩:∃ V,(w.setCell ⟨b,3,none⟩ (zm a n c))=V:=⟨_,rfl⟩;rw [ae] at kO hB hz;have ad:=zk kO;have af:=zk hB;have bf:=zk (zu ac.out (Af hz.symm));clear kO hB hz aa ab ac;obtain ⟨az,a0,a1,a2,a3,a4,a5,a6,a7,a8,a9,ba,bb,bc,bd,be⟩:=ad.out.all8;go_wp2;go_ret;exact ⟨rfl,ad.out,af.out⟩
set_option maxHeartbeats 800000 in
theorem qA (w:zv) (p:Option Ab) (v:Ag) (E:Int) (hE:E≠0) :
 Aa prog 150 #[zr p,v,zo zp E] w fun e w'=>e=An (zo zp E)∧w=w':=by
 have h0:(E == 0)=false:=beq_eq_false_iff_ne.2 hE;go_enter func150,ntmps150;go_wp2;go_ret;exact ⟨rfl,rfl⟩
set_option maxHeartbeats 1600000 in
theorem nD {m:qx} {u ro:o7} {g:mo} (hk:l6 w b (edC made r t m u ro o g) 100) (hT:qg T w) (hm:tx (b::T) w m) (hml:m.l.length≤1000000) (hmc:m.l.length≤m.c∧m.c≤Aq) (r':Option Ab) (x:mo) (hx:sv (b::T) w x) (hxl:x.l.length≤100000) (hz:sh x.l 140737488355328) (hp:∀ y∈x.l,0≤y.p∧y.p≤4096)
 (hms:∀ k,k≤x.l.length→∀ y∈rq m.l (x.l.take k),-2305843009213693952≤y.p∧y.p≤2305843009213693952) :
 Aa prog 177 #[zr (some ⟨b,0,none⟩),zr r',zm x.a x.l.length x.c] w fun e w'=>e=An (Ax #[])∧∃ m':qx,m'.l=rq m.l x.l∧(m'.l.length≤m'.c∧m'.c≤Aq)∧l6 w' b (edC made r' t m' u ro o g) 100∧tx (b::T) w' m'∧lx [b] w w':=by
 have hbl:b<w:=hk.lt;obtain ⟨xa,l,xc⟩:=x;dsimp only at hxl hz hp hms ⊢;obtain ⟨n,hn⟩:∃ n,l.length=n:=⟨_,rfl⟩;rw [hn] at hxl hms ⊢;have ac:=zk (hk);have az:=zk ((lx.refl [b] w));have a0:=zk (zx w);clear hk;obtain ⟨ah,ai,aj,ab,ak,al,am,an,ao,aq,ar,au,av,aw,ax,ay⟩:=ac.out.all8;have HX:=zk hx;have HM:=zk hm;have HZ:=zk hz;have HP:=zk hp;have b4:=zk hms;have b5:=zk hml;have b6:=zk hmc;have HN:=zk hn;clear hx hm hz hp hms hml hmc hn;go_enter func177,ntmps177;have kO:l6 (w.setCell ⟨b,1,none⟩ (zr r')) (b) #[zq made,zr r',zn t,zm m.a m.l.length m.c,zm u.a u.l.length u.c,zm ro.a ro.l.length ro.c,zq o,zm g.a g.l.length g.c] 100:=(ac.out.set 1 _);have hB:=((az.out.setCell (p:=⟨b,1,none⟩) li _):lx [b] w (w.setCell ⟨b,1,none⟩ (zr r')));have hz:(w.setCell ⟨b,1,none⟩ (zr r')).heap.size=w:=li;obtain ⟨v1,bu⟩:∃ V,(w.setCell ⟨b,1,none⟩ (zr r'))=V:=⟨_,rfl⟩;rw [bu] at kO hB hz;have ae:=zk kO;have af:=zk hB;have bk:=zk (zu a0.out (Af hz.symm));clear kO hB hz ac az a0;obtain ⟨a1,a2,a4,a5,a6,a7,a8,a9,ba,bb,bc,bd,be,bf,bg,bh⟩:=ae.out.all8;go_wp2;clear ah ai aj ab ak al am an ao aq ar au av aw ax ay bu a1 a2 a4 a5 a6 a7 a8 a9 ba bb bc bd be bf bg bh
 go_loopw [14] (fun i wr=>∃ (k:Nat) (m':qx),k≤n∧i=zo zp k∧m'.l=rq m.l (l.take k)∧(m'.l.length≤m'.c∧m'.c≤Aq)∧l6 wr b #[zq made,zr r',zn t,zm m'.a m'.l.length m'.c,zm u.a u.l.length u.c,zm ro.a ro.l.length ro.c,zq o,zm g.a g.l.length g.c] 100∧tx (b::T) wr m'∧sv (b::T) wr ⟨xa,l,xc⟩∧lx [b] w wr) (fun i _=>n - (intOf i).toNat)
 case atStart=>exact ⟨0,m,Ap _,rfl,rfl,b6.out,ae.out,HM.out.apart (af.out.more li),HX.out.apart (af.out.more li),af.out⟩
 case round =>
  obtain ⟨k,⟨ma,ml,mc⟩,hk,rfl,hml,hmc,hblk,hkm,hkx,hap⟩:=hrel;dsimp only at hml hmc hblk;by_cases hlt:k<n
  ·have hkl:k<l.length:=by rw [HN.out];exact hlt
   obtain ⟨ad,rfl,hab,q0,q1,q2⟩:=hkx.in.row.at k hkl;obtain ⟨s1,s2⟩:=HZ.out.at k hkl;have sp:=HP.out (l[k]!) (by rw [tu hkl];exact Bl hkl);have sn:=mK m.l l k hkl;have sm:=b4.out k hk;rw [← hml] at sn sm;obtain ⟨x,hx⟩:∃ x,l[k]! = x:=⟨_,rfl⟩;rw [hx] at q0 q1 q2 s1 s2 sp sn;obtain ⟨p,eo,en⟩:=x;simp only at q0 q1 q2 s1 s2 sp sn;have da:b<wr:=hblk.lt;have mle:ml.length≤1000000:=by rw [hml,pR];exact b5.out
   obtain ⟨wE,hwE,kE,hb,hz⟩:=n8 wr #[zo zp p,zn eo,zn en] 92;have q3:wr ⟨b,3,none⟩=some (zm ma ml.length mc):=hblk.cell 3 _ rfl;have ac:=zk (hblk.onto hb);have ag:=zk (kE);have b7:=zk ((hkx.wide (S':=b::wr::T) (pr (zx _))).later hb);have az:=zk (hap.trans (S':=[]) (.of_below hb) li);have a0:=zk (zx wE);have bl:∀ W:zv,wE.heap.size≤W→∀ i∈b::wr::T,i<W:=fun W hWz i hi=>by simp only [zt] at hi;rcases hi with rfl|rfl|hi;all_goals first|omega|(have:=hT i hi;omega)|(have:=hT i hi;have:=hap.size;omega)
   have cs:=fun W (hW:Below wE wE W)=>zQ ma ml mc p eo en W (tx.pcs ((hkm.later hb).later hW)) mle s1 s2 lg sm;have CS:=zk cs;have SN:=zk sn;have b8:=zk bl;have db:=zk hap;have b0:(0:Int)≤(k:Int):=lg;have b1:(k:Int)<(n:Int):=lg;clear cs sn bl hkx hkm hblk hap hb hz kE hx s1 s2 sp sm hml mle hab hkl;obtain ⟨ah,ai,aj,ab,ak,al,am,an,ao,aq,ar,au,av,aw,ax,ay⟩:=ac.out.all8;obtain ⟨bn,bo,bp,bq,br,bs⟩:=ag.out.all3;have q5:wE.drew ⟨b,3,none⟩=some (zm ma ml.length mc):=ab;go_wp2_with fail;clear ah ai aj ab ak al am an ao aq ar au av aw ax ay bn bo bp bq br bs;refine Ah (S:=(fun W:zv=>W ⟨wr,0,none⟩=some (zo zp p)∧W ⟨wr,1,none⟩=some (zn eo)∧W ⟨wr,2,none⟩=some (zn en))) lh ⟨ag.out.cell 0 _ rfl,ag.out.cell 1 _ rfl,ag.out.cell 2 _ rfl⟩ (fun hHeld=>?_);refine lz 0 ?_;refine lz 1 ?_;refine lz 2 ?_;refine lz 3 ?_;refine lz 4 ?_;refine lz 6 ?_;clear q0 q1 q2 q3;refine m8 5 fun K hK=>?_;go_simp;skip
   try go_wp2_with fail
   refine hK.out _ _ ?_ (fun hHeld=>?_)
   ·exact hHeld
   clear hK K
   try simp only [zw,mj]
   refine m8 7 fun K hK=>?_;go_simp
   (go_at_call 202;refine (CS.out _ (Below.refl _ _).drew).mono ?_;rintro e w1 ⟨a3,c3,rfl,bi,bv⟩;have aa:Below wE wE w1:=(Below.refl _ _).drew.trans bv)
   try go_wp2_with fail
   refine hK.out _ _ ?_ (fun hHeld=>?_)
   ·exact (by have h:=ag.out.onto aa;exact ⟨h.cell 0 _ rfl,h.cell 1 _ rfl,h.cell 2 _ rfl⟩)
   clear hK K
   try simp only [zw,mj]
   clear q5 bv hwE CS;have ae:=zk (ac.out.onto aa);have bj:=zk (ag.out.onto aa);have bw:=zk (b7.out.later aa);have af:=zk (az.out.trans (S':=[]) (.of_below aa) li);have bk:=zk (zu a0.out aa.size);have bm:=zk (bi.off (S:=b::wr::T) (b8.out _ (zx _)));have bx:=zk (Aj bi.le bi.cap);clear bi aa;obtain ⟨q,hq⟩:∃ q,pb ml (mu p eo.size en.size)=q:=⟨_,rfl⟩;have HQ:=zk hq;rw [hq] at bm bx ⊢;clear hq;obtain ⟨a1,a2,a4,a5,a6,a7,a8,a9,ba,bb,bc,bd,be,bf,bg,bh⟩:=ae.out.all8;obtain ⟨cd,ce,cf,cg,ch,ci⟩:=bj.out.all3;refine lz 8 ?_;refine lz 9 ?_;refine lz 10 ?_;refine m8 11 fun K hK=>?_;go_simp;skip
   try go_wp2_with fail
   refine hK.out _ _ ?_ (fun hHeld=>?_)
   ·exact (by have h:=bj.out.other ⟨b,3,none⟩ (by show b≠wr;omega) (zm a3 q.length c3);exact ⟨h.cell 0 _ rfl,h.cell 1 _ rfl,h.cell 2 _ rfl⟩)
   clear hK K
   try simp only [zw,mj]
   refine Ae lh ?_ _;have kO:l6 (w1.setCell ⟨b,3,none⟩ (zm a3 q.length c3)) (b) #[zq made,zr r',zn t,zm a3 q.length c3,zm u.a u.l.length u.c,zm ro.a ro.l.length ro.c,zq o,zm g.a g.l.length g.c] 100:=(ae.out.set 3 _);have kE:l6 (w1.setCell ⟨b,3,none⟩ (zm a3 q.length c3)) (wr) #[zo zp p,zn eo,zn en] 92:=(bj.out.other ⟨b,3,none⟩ (by show b≠wr;omega) _);have ap:lx (b::wr::T) w1 (w1.setCell ⟨b,3,none⟩ (zm a3 q.length c3)):=(lx.refl (b::wr::T) w1).setCell (p:=⟨b,3,none⟩) (.inl li) _;have rX:=bw.out.apart ap;have rM:=bm.out.apart ap;have hB:=((af.out.setCell (p:=⟨b,3,none⟩) li _):lx [b] w (w1.setCell ⟨b,3,none⟩ (zm a3 q.length c3)));have hz:(w1.setCell ⟨b,3,none⟩ (zm a3 q.length c3)).heap.size=w1:=li;obtain ⟨v2,bz⟩:∃ V,(w1.setCell ⟨b,3,none⟩ (zm a3 q.length c3))=V:=⟨_,rfl⟩;rw [bz] at kO kE rX rM hB hz;rw [bz];have b3:=zk kO;have b9:=zk kE;have ca:=zk rX;have cb:=zk rM;have cc:=zk hB;have dc:=zk (zu bk.out (Af hz.symm));clear kO kE rX rM hB hz ap ae bj bw bm af bk;obtain ⟨cj,ck,cl,cm,cn,co,cp,cq,cr,ct,cu,cv,cw,cx,cy,cz⟩:=b3.out.all8;obtain ⟨c4,c5,c6,c7,c8,c9⟩:=b9.out.all3;go_wp2;go_roundw
   case rel=>exact ⟨k+1,⟨a3,q,c3⟩,lg,by go_num,by show q=_;rw [SN.out,HQ.out],bx.out,b3.out,cb.out.wide (S':=b::T) (fun i hi=>.inl (by simp only [zt] at hi ⊢;rcases hi with h|h <;> simp [h])),ca.out.wide (S':=b::T) (fun i hi=>.inl (by simp only [zt] at hi ⊢;rcases hi with h|h <;> simp [h])),cc.out⟩
   case measure=>simp [intOf];omega
  ·obtain rfl:k=n:=lg;rw [← HN.out,B7] at hml;have HR:=zk (Aj hml (Aj hmc (Aj hblk (Aj hkm hap))));clear hml hmc hblk hkm hkx hap;go_wp2
   go_end0
   exact ⟨rfl,⟨ma,ml,mc⟩,HR.out.1,HR.out.2.1,HR.out.2.2.1,HR.out.2.2.2.1,HR.out.2.2.2.2⟩
set_option maxHeartbeats 800000 in
theorem vK {m:qx} {u ro:o7} {g:mo} (h:n7 T w b ⟨t,m,u,ro,so,g⟩ rb p L) (r':Option Ab) (x:Int) (eo en:ByteArray) (ho:eo.size≤140737488355328) (hn:en.size≤140737488355328) (hx:512<eo.size+en.size):Aa prog 146 #[zr (some ⟨b,0,none⟩),zr r',vt x eo en] w (nk T w b ((l7.d ⟨t,m,u,ro,so,g⟩),6)):=by
 have hbl:b<w:=h.lt;obtain ⟨wX,hwX,kE,aa,hz⟩:=n8 w #[zo zp x,zn eo,zn en] 92;have ac:=zk (show l6 wX b #[zq true,zr (some ⟨rb,0,none⟩),zn ⟨#[]⟩,zm m.a m.l.length m.c,zm u.a u.l.length u.c,zm ro.a ro.l.length ro.c,zq so,zm g.a g.l.length g.c] 100 from h.blk.onto aa);have ad:=zk (kE);have a4:=zk ((h.rows.wide (S':=b::w::T) (pr (zx _))).later aa);have ae:=zk ((lx.of_below aa:lx [b] w wX));have a5:=zk (zx wX);have ab:∀ W:zv,wX.heap.size≤W→∀ i∈b::w::T,i<W:=fun W hWz i hi=>by simp only [zt] at hi;rcases hi with rfl|rfl|hi;all_goals first|omega|(have:=h.tlt i hi;omega)
 have a6:=zk ab;have H:=zk h;have HB:=zk aa;clear ab kE;obtain ⟨af,ag,ah,ai,aj,ak,al,am,an,ao,aq,ar,au,av,aw,ax⟩:=ac.out.all8;obtain ⟨ay,az,a0,a1,a2,a3⟩:=ad.out.all3;have gz:(512:Int)<(eo.size:Int)+(en.size:Int):=lg;clear h aa hz;go_enter func146,ntmps146;go_wp2;go_ret;exact ⟨⟨t,m,u,ro,so,g⟩,rb,p,L,rfl,H.out.later (by rw [← hwX];exact ns _ _),rfl,ae.out⟩
set_option maxHeartbeats 800000 in
theorem xQ {m:qx} {u ro:o7} {g:mo} (h:n7 T w b ⟨t,m,u,ro,so,g⟩ rb p L) (r':Option Ab) (x:Int) (eo en:ByteArray) (ho:eo.size≤140737488355328) (hn:en.size≤140737488355328) (hx:eo.size+en.size=0):Aa prog 146 #[zr (some ⟨b,0,none⟩),zr r',vt x eo en] w (nk T w b ((l7.d ⟨t,m,u,ro,so,g⟩),0)):=by
 have hbl:b<w:=h.lt;obtain ⟨wX,hwX,kE,aa,hz⟩:=n8 w #[zo zp x,zn eo,zn en] 92;have ac:=zk (show l6 wX b #[zq true,zr (some ⟨rb,0,none⟩),zn ⟨#[]⟩,zm m.a m.l.length m.c,zm u.a u.l.length u.c,zm ro.a ro.l.length ro.c,zq so,zm g.a g.l.length g.c] 100 from h.blk.onto aa);have ad:=zk (kE);have a4:=zk ((h.rows.wide (S':=b::w::T) (pr (zx _))).later aa);have ae:=zk ((lx.of_below aa:lx [b] w wX));have a5:=zk (zx wX);have ab:∀ W:zv,wX.heap.size≤W→∀ i∈b::w::T,i<W:=fun W hWz i hi=>by simp only [zt] at hi;rcases hi with rfl|rfl|hi;all_goals first|omega|(have:=h.tlt i hi;omega)
 have a6:=zk ab;have H:=zk h;have HB:=zk aa;clear ab kE;obtain ⟨af,ag,ah,ai,aj,ak,al,am,an,ao,aq,ar,au,av,aw,ax⟩:=ac.out.all8;obtain ⟨ay,az,a0,a1,a2,a3⟩:=ad.out.all3;have gz:(eo.size:Int)+(en.size:Int)≤512:=lg;have gy:(eo.size:Int)+(en.size:Int)=0:=lg;clear h aa hz;go_enter func146,ntmps146;go_wp2;go_ret;exact ⟨⟨t,m,u,ro,so,g⟩,rb,p,L,rfl,H.out.later (by rw [← hwX];exact ns _ _),rfl,ae.out⟩
set_option maxHeartbeats 1600000 in
theorem uW {m:qx} {u ro:o7} {g:mo} (h:n7 T w b ⟨t,m,u,ro,true,g⟩ rb p L) (r':Option Ab) (x:Int) (eo en:ByteArray) (ho:eo.size≤140737488355328) (hn:en.size≤140737488355328) (hx:eo.size+en.size≤512) (hy:1≤eo.size+en.size) (h2:32≤g.l.length):Aa prog 146 #[zr (some ⟨b,0,none⟩),zr r',vt x eo en] w (nk T w b ((l7.d ⟨t,m,u,ro,true,g⟩),9)):=by
 have hbl:b<w:=h.lt;have hgl:g.l.length≤32:=h.inv.gl;have hadd:wb g.l ⟨x,eo,en⟩=([],9):=by unfold wb;rw [if_pos h2]
 obtain ⟨wX,hwX,kE,af,hz⟩:=n8 w #[zo zp x,zn eo,zn en] 92;have aq:=zk (show l6 wX b #[zq true,zr (some ⟨rb,0,none⟩),zn ⟨#[]⟩,zm m.a m.l.length m.c,zm u.a u.l.length u.c,zm ro.a ro.l.length ro.c,zq true,zm g.a g.l.length g.c] 100 from h.blk.onto af);have ag:=zk (kE);have ar:=zk ((h.rows.wide (S':=b::w::T) (pr (zx _))).later af);have cg:=zk ((lx.of_below af:lx [b] w wX));have ch:=zk (zx wX);have au:∀ W:zv,wX.heap.size≤W→∀ i∈b::w::T,i<W:=fun W hWz i hi=>by simp only [zt] at hi;rcases hi with rfl|rfl|hi;all_goals first|omega|(have:=h.tlt i hi;omega)
 have cl:=zk au;have H:=zk h;have HB:=zk af;clear au kE;obtain ⟨az,a0,a1,a2,a3,a5,a6,a7,a8,a9,ba,bb,bc,bd,be,bf⟩:=aq.out.all8;obtain ⟨bg,bh,bi,bj,bk,bl⟩:=ag.out.all3;have ca:=fun W (hW:Below wX wX W)=>oO g.a g.l g.c ⟨x,eo,en⟩ W ((h.rows.g.later af).later hW).in lg;rw [hadd] at ca;have CA:=zk ca;have hzl:w.heap.size<wX:=lg;clear h af hz ca hadd;have gz:(eo.size:Int)+(en.size:Int)≤512:=lg;have gy:¬ (eo.size:Int)+(en.size:Int)=0:=lg;go_enter func146,ntmps146;have hfs:∀ W,Below wX wX W→W ⟨b,7,none⟩=some (zm g.a g.l.length g.c)∧W ⟨w,0,none⟩=some (zo zp x)∧W ⟨w,1,none⟩=some (zn eo)∧W ⟨w,2,none⟩=some (zn en):=fun W h=>⟨(aq.out.onto h).cell 7 _ rfl,(ag.out.onto h).cell 0 _ rfl,(ag.out.onto h).cell 1 _ rfl,(ag.out.onto h).cell 2 _ rfl⟩;have FS:=zk hfs;clear hfs;go_wp2_with fail;clear az a0 a1 a2 a3 a5 a6 a7 a8 a9 ba bb bc bd be bf bg bh bi bj bk bl;refine Ah (S:=(fun W:zv=>W ⟨b,7,none⟩=some (zm g.a g.l.length g.c)∧W ⟨w,0,none⟩=some (zo zp x)∧W ⟨w,1,none⟩=some (zn eo)∧W ⟨w,2,none⟩=some (zn en))) lh (FS.out _ (Below.refl _ _).drew) (fun hHeld=>?_);refine lz 0 ?_;refine lz 1 ?_;refine lz 2 ?_;refine lz 3 ?_;refine lz 4 ?_;refine lz 5 ?_;refine lz 6 ?_;clear hwX;refine Ak (rs:=[7,11]) lh li ?_;refine Ad (by simp only [rg];rfl) (fun K hK=>?_) (Ad (by simp only [rg];rfl) (fun K hK=>?_) Al)
 ·go_simp
  (go_at_call 176;refine (CA.out _ (Below.refl _ _).drew).mono ?_;rintro e w1 ⟨a4,c4,rfl,aj,ah⟩;have aa:Below wX wX w1:=(Below.refl _ _).drew.trans ah)
  try go_wp2_with fail
  refine hK.out _ _ ?_ (fun hHeld=>?_)
  ·exact FS.out _ aa
  clear hK K
  try simp only [zw,mj]
  have ac:=zk (aq.out.onto aa);have ab:=zk (ag.out.onto aa);have ai:=zk (ar.out.later aa);have ak:=zk (cg.out.trans (S':=[]) (.of_below aa) li);have al:=zk (zu ch.out aa.size);have am:=zk (aj.off (S:=b::w::T) (cl.out _ (zx _)));clear aj ah CA;refine lz 8 ?_;refine lz 9 ?_;refine lz 10 ?_;refine m8 11 fun K hK=>?_;go_simp;skip
  try go_wp2_with fail
  refine hK.out _ _ ?_ (fun hHeld=>?_)
  ·exact FS.out _ (aa.alloc aa.size _)
  clear hK K
  try simp only [zw,mj]
  refine m8 12 fun K hK=>?_;go_simp;skip
  try go_wp2_with fail
  refine hK.out _ _ ?_ (fun hHeld=>?_)
  ·exact FS.out _ (aa.alloc aa.size _)
  clear hK K
  try simp only [zw,mj]
  refine lz 13 ?_;refine Ae lh ?_ _;have dh:wX.heap.size≤w1:=aa.size;clear aa;obtain ⟨cm,hwA1,kA,hbA,hzA⟩:=n8 w1 #[zm a4 0 c4] 54;have an:=zk (ac.out.onto hbA);have av:=zk (ab.out.onto hbA);have ad:=zk (ai.out.later hbA);have ao:=zk (am.out.later hbA);have ae:=zk (ak.out.trans (S':=[]) (.of_below hbA) li);have cn:=zk (zu al.out hbA.size);have aw:=zk kA;have ax:w1.heap.size<cm:=lg;have di:=zk ax;clear kA hbA hzA ax ac ab ai am ak al;obtain ⟨bm,bn,bo,bp,bq,br,bs,bu,bv,bw,bx,bz,b3,b4,b5,b6⟩:=an.out.all8;obtain ⟨b7,b8,b9,cb,cc,cd⟩:=av.out.all3;obtain ⟨ce,cf⟩:=aw.out.all1;rw [hwA1];replace ad:=zk (ad.out.wide (S':=b::T) (fun i hi=>.inl (by simp only [zt] at hi ⊢;rcases hi with h|h <;> simp [h])));replace ao:=zk (ao.out.wide (S':=b::T) (fun i hi=>.inl (by simp only [zt] at hi ⊢;rcases hi with h|h <;> simp [h])));go_wp2;go_ret;exact ⟨⟨t,m,u,ro,true,g⟩,rb,p,L,rfl,⟨an.out,H.out.rope.apart H.out.blk rfl ae.out,ad.out,H.out.ml,H.out.mc,H.out.inv,fun i hi=>zz (H.out.tlt i hi) (ae.out).size⟩,rfl,ae.out⟩
 ·go_simp;have BSA:=zk ((Below.refl wX wX).drew.alloc (zx _) (zy #[zm none 0 0] 54));have ci:=zk (l6.new wX.drew #[zm none 0 0] 54)
  try go_wp2_with fail
  refine hK.out _ _ ?_ (fun hHeld=>?_)
  ·exact FS.out _ BSA.out
  clear hK K
  try simp only [zw,mj]
  refine m8 7 fun K hK=>?_;go_simp
  (go_at_call 176;refine (CA.out _ BSA.out).mono ?_;rintro e w1 ⟨a4,c4,rfl,aj,ah⟩;have aa:Below wX wX w1:=BSA.out.trans (ah.mono BSA.out.size))
  try go_wp2_with fail
  refine hK.out _ _ ?_ (fun hHeld=>?_)
  ·exact FS.out _ aa
  clear hK K
  try simp only [zw,mj]
  have ac:=zk (aq.out.onto aa);have ab:=zk (ag.out.onto aa);have ai:=zk (ar.out.later aa);have ak:=zk (cg.out.trans (S':=[]) (.of_below aa) li);have al:=zk (zu ch.out aa.size);have ay:=zk (show l6 w1 wX.heap.size #[zm none 0 0] 54 from ci.out.onto ah);have am:=zk (aj.off (S:=b::w::wX::T) (fun i hi=>by
   have hs:wX.heap.size+1≤(Am wX.drew (zy #[zm none 0 0] 54)):=li;simp only [zt,Bv,or_false] at hi;have dj:(Am wX.drew (zy #[zm none 0 0] 54)).heap.size=(Am wX (zy #[zm none 0 0] 54)):=li;rcases hi with rfl|rfl|rfl|hi
   ·exact zz lg hs
   ·exact zz lg hs
   ·exact hs
   ·exact zz (by have:=H.out.tlt i hi;omega) hs))
  replace ai:=zk (((ar.out.wide (S':=b::w::wX::T) (wide3 (zx _))).later aa));clear aj ah CA ci;refine lz 8 ?_;refine lz 9 ?_;refine lz 10 ?_;obtain ⟨co,cp,cq,cr,ct,cu,cv,cw,cx,cy,cz,c3,c5,c6,c7,c8⟩:=ac.out.all8;obtain ⟨c9,da,db,dc,dd,de⟩:=ab.out.all3;obtain ⟨df,dg⟩:=ay.out.all1;have ck:w1 ⟨b,7,none⟩=some (zm g.a g.l.length g.c):=ac.out.cell 7 _ rfl;refine m8 12 fun K hK=>?_;go_simp;skip
  try go_wp2_with fail
  refine hK.out _ _ ?_ (fun hHeld=>?_)
  ·exact ⟨(ac.out.other ⟨wX,0,none⟩ (by show wX≠b;omega) _).cell 7 _ rfl,(ab.out.other ⟨wX,0,none⟩ (by show wX.heap.size≠w;omega) _).cell 0 _ rfl,(ab.out.other ⟨wX,0,none⟩ (by show wX.heap.size≠w;omega) _).cell 1 _ rfl,(ab.out.other ⟨wX,0,none⟩ (by show wX.heap.size≠w;omega) _).cell 2 _ rfl⟩
  clear hK K
  try simp only [zw,mj]
  refine lz 13 ?_;refine Ae lh ?_ _;clear aa ck BSA;have kT:l6 (w1.setCell ⟨wX,0,none⟩ (zm a4 0 c4)) (wX) #[zm a4 0 c4] 54:=(ay.out.set 0 _);have kO:l6 (w1.setCell ⟨wX,0,none⟩ (zm a4 0 c4)) (b) #[zq true,zr (some ⟨rb,0,none⟩),zn ⟨#[]⟩,zm m.a m.l.length m.c,zm u.a u.l.length u.c,zm ro.a ro.l.length ro.c,zq true,zm g.a g.l.length g.c] 100:=(ac.out.other ⟨wX,0,none⟩ (by show wX≠b;omega) _);have kE:l6 (w1.setCell ⟨wX,0,none⟩ (zm a4 0 c4)) (w) #[zo zp x,zn eo,zn en] 92:=(ab.out.other ⟨wX,0,none⟩ (by show wX.heap.size≠w;omega) _);have ap:lx (b::w::wX::T) w1 (w1.setCell ⟨wX,0,none⟩ (zm a4 0 c4)):=(lx.refl (b::w::wX::T) w1).setCell (p:=⟨wX,0,none⟩) (.inl li) _;have rS:=ai.out.apart ap;have rG:=am.out.apart ap;have hB:=((ak.out.setCell (p:=⟨wX,0,none⟩) (by right;show w.heap.size≤wX;omega) _):lx [b] w (w1.setCell ⟨wX,0,none⟩ (zm a4 0 c4)));have hz:(w1.setCell ⟨wX,0,none⟩ (zm a4 0 c4)).heap.size=w1:=li;obtain ⟨v2,cj⟩:∃ V,(w1.setCell ⟨wX,0,none⟩ (zm a4 0 c4))=V:=⟨_,rfl⟩;rw [cj] at kO kE kT rS rG hB hz;rw [cj];have an:=zk kO;have av:=zk kE;have aw:=zk kT;have ad:=zk rS;have ao:=zk rG;have ae:=zk hB;have cn:=zk (zu al.out (Af hz.symm));clear kO kE kT rS rG hB hz ap ac ab ay ai am ak al;obtain ⟨bm,bn,bo,bp,bq,br,bs,bu,bv,bw,bx,bz,b3,b4,b5,b6⟩:=an.out.all8;obtain ⟨b7,b8,b9,cb,cc,cd⟩:=av.out.all3;obtain ⟨ce,cf⟩:=aw.out.all1;replace ad:=zk (ad.out.wide (S':=b::T) (fun i hi=>.inl (by simp only [zt] at hi ⊢;rcases hi with h|h <;> simp [h])));replace ao:=zk (ao.out.wide (S':=b::T) (fun i hi=>.inl (by simp only [zt] at hi ⊢;rcases hi with h|h <;> simp [h])));go_wp2;go_ret;exact ⟨⟨t,m,u,ro,true,g⟩,rb,p,L,rfl,⟨an.out,H.out.rope.apart H.out.blk rfl ae.out,ad.out,H.out.ml,H.out.mc,H.out.inv,fun i hi=>zz (H.out.tlt i hi) (ae.out).size⟩,rfl,ae.out⟩
set_option maxHeartbeats 3200000 in
theorem xU {m:qx} {u ro:o7} {g:mo} (h:n7 T w b ⟨t,m,u,ro,true,g⟩ rb p L) (x:Int) (eo en:ByteArray) (ho:eo.size≤140737488355328) (hn:en.size≤140737488355328) (hx:eo.size+en.size≤512) (hy:1≤eo.size+en.size) {rb':Nat} {p':Option Ab} {L':List ByteArray} (hap:oq t x eo en=(t',0)) (hr:n9 w (some ⟨rb',0,none⟩) p' L' t') (h2:g.l.length<32):Aa prog 146 #[zr (some ⟨b,0,none⟩),zr (some ⟨rb',0,none⟩),vt x eo en] w (nk T w b (pf (l7.d ⟨t,m,u,ro,true,g⟩) ⟨x,eo,en⟩)):=by
 have hbl:b<w:=h.lt;have hadd:wb g.l ⟨x,eo,en⟩=(g.l++[⟨x,eo,en⟩],0):=by unfold wb;rw [if_neg lg]
 have hok:o8 ⟨x,eo,en⟩=true:=(dC _).2 ⟨by show eo.size≤512;omega,by show en.size≤512;omega,by show 1≤eo.size∨1≤en.size;omega⟩;have hrun:ms t [⟨x,eo,en⟩]=(t',0):=jO hap;have hmx:=h.inv.shown hrun;have hpx:=jQ h.inv.z hrun;have hzx:=h.inv.edz (l:=[⟨x,eo,en⟩]) (fun y hy=>by rw [Aw.1 hy];exact hok);have hie:=kI (x:=⟨x,eo,en⟩) (t':=t') h.inv hap hok;have hml:m.l.length≤1000000:=zu h.inv.ml lj;have hmc:m.l.length≤m.c∧m.c≤Aq:=⟨h.ml,h.mc⟩;obtain ⟨l,hl⟩:∃ l,g.l++[(⟨x,eo,en⟩:l8)]=l:=⟨_,rfl⟩;have g2:=zk hzx;have g3:=zk hpx;have g4:=zk hmx;have g5:=zk hml;have g6:=zk hmc;have HI:=zk hie;have HR:=zk hr;have HL:=zk hl;rw [hl] at hadd;have he:pf (l7.d ⟨t,m,u,ro,true,g⟩) ⟨x,eo,en⟩=(⟨t',pb m.l (mu x eo.size en.size),mf u.l,[],true,l⟩,0):=by unfold pf;rw [if_neg (fun h=>by have:=h.2;have:32≤g.l.length:=this;omega)];simp only [hap,← hl];simp only [l7.d,hap];rfl
 have HE:=zk he;rw [he];clear he hmx hpx hzx hie hml hmc hap hr hrun hok hl;obtain ⟨wX,hwX,kE,ae,hz⟩:=n8 w #[zo zp x,zn eo,zn en] 92;have aq:=zk (show l6 wX b #[zq true,zr (some ⟨rb,0,none⟩),zn ⟨#[]⟩,zm m.a m.l.length m.c,zm u.a u.l.length u.c,zm ro.a ro.l.length ro.c,zq true,zm g.a g.l.length g.c] 100 from h.blk.onto ae);have af:=zk (kE);have ax:=zk ((h.rows.wide (S':=b::w::T) (pr (zx _))).later ae);have gc:=zk ((lx.of_below ae:lx [b] w wX));have gd:=zk (zx wX);have ay:∀ W:zv,wX.heap.size≤W→∀ i∈b::w::T,i<W:=fun W hWz i hi=>by simp only [zt] at hi;rcases hi with rfl|rfl|hi;all_goals first|omega|(have:=h.tlt i hi;omega)
 have g7:=zk ay;have H:=zk h;have HB:=zk ae;clear ay kE;obtain ⟨bl,bm,bn,bo,bp,bq,br,bs,bu,bv,bw,bx,bz,b3,b4,b5⟩:=aq.out.all8;obtain ⟨b6,b7,b8,b9,cb,cc⟩:=af.out.all3;have ca:=fun W (hW:Below wX wX W)=>oO g.a g.l g.c ⟨x,eo,en⟩ W ((h.rows.g.later ae).later hW).in lg;rw [hadd] at ca;have CA:=zk ca;have hzl:w.heap.size<wX:=lg;clear h ae hz ca hadd;have gz:(eo.size:Int)+(en.size:Int)≤512:=lg;have gy:¬ (eo.size:Int)+(en.size:Int)=0:=lg;go_enter func146,ntmps146;have hfs:∀ W,Below wX wX W→W ⟨b,7,none⟩=some (zm g.a g.l.length g.c)∧W ⟨w,0,none⟩=some (zo zp x)∧W ⟨w,1,none⟩=some (zn eo)∧W ⟨w,2,none⟩=some (zn en):=fun W h=>⟨(aq.out.onto h).cell 7 _ rfl,(af.out.onto h).cell 0 _ rfl,(af.out.onto h).cell 1 _ rfl,(af.out.onto h).cell 2 _ rfl⟩;have FS:=zk hfs;clear hfs;go_wp2_with fail;clear bl bm bn bo bp bq br bs bu bv bw bx bz b3 b4 b5 b6 b7 b8 b9 cb cc;refine Ah (S:=(fun W:zv=>W ⟨b,7,none⟩=some (zm g.a g.l.length g.c)∧W ⟨w,0,none⟩=some (zo zp x)∧W ⟨w,1,none⟩=some (zn eo)∧W ⟨w,2,none⟩=some (zn en))) lh (FS.out _ (Below.refl _ _).drew) (fun hHeld=>?_);refine lz 0 ?_;refine lz 1 ?_;refine lz 2 ?_;refine lz 3 ?_;refine lz 4 ?_;refine lz 5 ?_;refine lz 6 ?_;clear hwX;refine Ak (rs:=[7,11]) lh li ?_;refine Ad (by simp only [rg];rfl) (fun K hK=>?ga) (Ad (by simp only [rg];rfl) (fun K hK=>?gb) Al)
 case' gb =>
  go_simp;have BSA:=zk ((Below.refl wX wX).drew.alloc (zx _) (zy #[zm none 0 0] 54));have gf:=zk (l6.new wX.drew #[zm none 0 0] 54)
  try go_wp2_with fail
  refine hK.out _ _ ?_ (fun hHeld=>?_)
  ·exact FS.out _ BSA.out
  clear hK K
  try simp only [zw,mj]
  refine m8 7 fun K hK=>?_;go_simp
  (go_at_call 176;refine (CA.out _ BSA.out).mono ?_;rintro e w1 ⟨a4,c4,rfl,ai,ag⟩;have aa:Below wX wX w1:=BSA.out.trans (ag.mono BSA.out.size))
  try go_wp2_with fail
  refine hK.out _ _ ?_ (fun hHeld=>?_)
  ·exact FS.out _ aa
  clear hK K
  try simp only [zw,mj]
  have ac:=zk (aq.out.onto aa);have ab:=zk (af.out.onto aa);have ah:=zk (ax.out.later aa);have aj:=zk (gc.out.trans (S':=[]) (.of_below aa) li);have ak:=zk (zu gd.out aa.size);have az:=zk (show l6 w1 wX.heap.size #[zm none 0 0] 54 from gf.out.onto ag);have al:=zk (ai.off (S:=b::w::wX::T) (fun i hi=>by
   have hs:wX.heap.size+1≤(Am wX.drew (zy #[zm none 0 0] 54)):=li;simp only [zt,Bv,or_false] at hi;have iu:(Am wX.drew (zy #[zm none 0 0] 54)).heap.size=(Am wX (zy #[zm none 0 0] 54)):=li;rcases hi with rfl|rfl|rfl|hi
   ·exact zz lg hs
   ·exact zz lg hs
   ·exact hs
   ·exact zz (by have:=H.out.tlt i hi;omega) hs))
  replace ah:=zk (((ax.out.wide (S':=b::w::wX::T) (wide3 (zx _))).later aa));clear ai ag CA gf;refine lz 8 ?_;refine lz 9 ?_;refine lz 10 ?_;obtain ⟨cd,ce,cf,cg,ch,ci,cj,ck,cl,cm,cn,co,cp,cq,cr,ct⟩:=ac.out.all8;obtain ⟨cu,cv,cw,cx,cy,cz⟩:=ab.out.all3;obtain ⟨c3,c5⟩:=az.out.all1;have g1:w1 ⟨b,7,none⟩=some (zm g.a g.l.length g.c):=ac.out.cell 7 _ rfl;refine m8 12 fun K hK=>?_;go_simp;skip
  try go_wp2_with fail
  refine hK.out _ _ ?_ (fun hHeld=>?_)
  ·exact ⟨(ac.out.other ⟨wX,0,none⟩ (by show wX≠b;omega) _).cell 7 _ rfl,(ab.out.other ⟨wX,0,none⟩ (by show wX.heap.size≠w;omega) _).cell 0 _ rfl,(ab.out.other ⟨wX,0,none⟩ (by show wX.heap.size≠w;omega) _).cell 1 _ rfl,(ab.out.other ⟨wX,0,none⟩ (by show wX.heap.size≠w;omega) _).cell 2 _ rfl⟩
  clear hK K
  try simp only [zw,mj]
  refine lz 13 ?_;refine Ae lh ?_ _;clear aa g1 BSA;have kT:l6 (w1.setCell ⟨wX,0,none⟩ (zm a4 l.length c4)) (wX) #[zm a4 l.length c4] 54:=(az.out.set 0 _);have kO:l6 (w1.setCell ⟨wX,0,none⟩ (zm a4 l.length c4)) (b) #[zq true,zr (some ⟨rb,0,none⟩),zn ⟨#[]⟩,zm m.a m.l.length m.c,zm u.a u.l.length u.c,zm ro.a ro.l.length ro.c,zq true,zm g.a g.l.length g.c] 100:=(ac.out.other ⟨wX,0,none⟩ (by show wX≠b;omega) _);have kE:l6 (w1.setCell ⟨wX,0,none⟩ (zm a4 l.length c4)) (w) #[zo zp x,zn eo,zn en] 92:=(ab.out.other ⟨wX,0,none⟩ (by show wX.heap.size≠w;omega) _);have ap:lx (b::w::wX::T) w1 (w1.setCell ⟨wX,0,none⟩ (zm a4 l.length c4)):=(lx.refl (b::w::wX::T) w1).setCell (p:=⟨wX,0,none⟩) (.inl li) _;have rS:=ah.out.apart ap;have rG:=al.out.apart ap;have hB:=((aj.out.setCell (p:=⟨wX,0,none⟩) (by right;show w.heap.size≤wX;omega) _):lx [b] w (w1.setCell ⟨wX,0,none⟩ (zm a4 l.length c4)));have hz:(w1.setCell ⟨wX,0,none⟩ (zm a4 l.length c4)).heap.size=w1:=li;obtain ⟨vv,a0⟩:∃ V,(w1.setCell ⟨wX,0,none⟩ (zm a4 l.length c4))=V:=⟨_,rfl⟩;rw [a0] at kO kE kT rS rG hB hz;rw [a0];have ar:=zk kO;have au:=zk kE;have ad:=zk kT;have am:=zk rS;have an:=zk rG;have a1:=zk hB;have a2:=zk (zu ak.out (Af hz.symm));clear kO kE kT rS rG hB hz ap ac ab az ah al aj ak;obtain ⟨bt,hbt⟩:∃ x,wX.heap.size=x:=⟨_,rfl⟩;have hbx:wX≤bt:=Af hbt;rw [hbt] at ad ⊢;have gg:=zk ad.out.lt;clear hbt a0 cd ce cf cg ch ci cj ck cl cm cn co cp cq cr ct cu cv cw cx cy cz c3 c5
 case' ga =>
  go_simp
  (go_at_call 176;refine (CA.out _ (Below.refl _ _).drew).mono ?_;rintro e w1 ⟨a4,c4,rfl,ai,ag⟩;have aa:Below wX wX w1:=(Below.refl _ _).drew.trans ag)
  try go_wp2_with fail
  refine hK.out _ _ ?_ (fun hHeld=>?_)
  ·exact FS.out _ aa
  clear hK K
  try simp only [zw,mj]
  have ac:=zk (aq.out.onto aa);have ab:=zk (af.out.onto aa);have ah:=zk (ax.out.later aa);have aj:=zk (gc.out.trans (S':=[]) (.of_below aa) li);have ak:=zk (zu gd.out aa.size);have al:=zk (ai.off (S:=b::w::T) (g7.out _ (zx _)));clear ai ag CA;refine lz 8 ?_;refine lz 9 ?_;refine lz 10 ?_;refine m8 11 fun K hK=>?_;go_simp;skip
  try go_wp2_with fail
  refine hK.out _ _ ?_ (fun hHeld=>?_)
  ·exact FS.out _ (aa.alloc aa.size _)
  clear hK K
  try simp only [zw,mj]
  refine m8 12 fun K hK=>?_;go_simp;skip
  try go_wp2_with fail
  refine hK.out _ _ ?_ (fun hHeld=>?_)
  ·exact FS.out _ (aa.alloc aa.size _)
  clear hK K
  try simp only [zw,mj]
  refine lz 13 ?_;refine Ae lh ?_ _;have gh:wX.heap.size≤w1:=aa.size;clear aa;obtain ⟨vv,hwA1,kA,hbA,hzA⟩:=n8 w1 #[zm a4 l.length c4] 54;have ar:=zk (ac.out.onto hbA);have au:=zk (ab.out.onto hbA);have am:=zk (ah.out.later hbA);have an:=zk (al.out.later hbA);have a1:=zk (aj.out.trans (S':=[]) (.of_below hbA) li);have a2:=zk (zu ak.out hbA.size);have ad:=zk kA;have a3:w1.heap.size<vv:=lg;have gg:=zk a3;clear kA hbA hzA a3 ac ab ah al aj ak;rw [hwA1];obtain ⟨bt,hbt⟩:∃ x,w1.heap.size=x:=⟨_,rfl⟩;rw [hbt] at ad gg ⊢;have hbx:wX≤bt:=by rw [← hbt];exact gh
  clear hwA1 hbt gh
 all_goals
  obtain ⟨c6,c7,c8,c9,da,db,dc,dd,de,df,dg,dh,di,dj,dk,dl⟩:=ar.out.all8;obtain ⟨dm,dn,dp,dq,dr,ds⟩:=au.out.all3;obtain ⟨dt,du⟩:=ad.out.all1;replace am:=zk (am.out.wide (S':=b::T) (fun i hi=>.inl (by simp only [zt] at hi ⊢;rcases hi with h|h <;> simp [h])));replace an:=zk (an.out.wide (S':=b::T) (fun i hi=>.inl (by simp only [zt] at hi ⊢;rcases hi with h|h <;> simp [h])));have kO:l6 (vv.setCell ⟨b,7,none⟩ (zm a4 l.length c4)) (b) #[zq true,zr (some ⟨rb,0,none⟩),zn ⟨#[]⟩,zm m.a m.l.length m.c,zm u.a u.l.length u.c,zm ro.a ro.l.length ro.c,zq true,zm a4 l.length c4] 100:=(ar.out.set 7 _);have kE:l6 (vv.setCell ⟨b,7,none⟩ (zm a4 l.length c4)) (w) #[zo zp x,zn eo,zn en] 92:=(au.out.other ⟨b,7,none⟩ (by show b≠w;omega) _);have kT:l6 (vv.setCell ⟨b,7,none⟩ (zm a4 l.length c4)) (bt) #[zm a4 l.length c4] 54:=(ad.out.other ⟨b,7,none⟩ (by show b≠bt;omega) _);have ap:lx (b::T) vv (vv.setCell ⟨b,7,none⟩ (zm a4 l.length c4)):=(lx.refl (b::T) vv).setCell (p:=⟨b,7,none⟩) (.inl li) _;have rS:=am.out.apart ap;have rG:=an.out.apart ap;have hB:=((a1.out.setCell (p:=⟨b,7,none⟩) li _):lx [b] w (vv.setCell ⟨b,7,none⟩ (zm a4 l.length c4)));have hz:(vv.setCell ⟨b,7,none⟩ (zm a4 l.length c4)).heap.size=vv:=li;obtain ⟨v3,gi⟩:∃ V,(vv.setCell ⟨b,7,none⟩ (zm a4 l.length c4))=V:=⟨_,rfl⟩;rw [gi] at kO kE kT rS rG hB hz;have a5:=zk kO;have a6:=zk kE;have a7:=zk kT;have gj:=zk rS;have gk:=zk rG;have gm:=zk hB;have gn:=zk (zu a2.out (Af hz.symm));clear kO kE kT rS rG hB hz ap ar au ad am an a1 a2;obtain ⟨dv,dw,dx,dy,dz,d0,d1,d2,d3,d4,d5,d6,d7,d8,d9,ea⟩:=a5.out.all8;obtain ⟨eb,ec,ed,ee,ef,eg⟩:=a6.out.all3;obtain ⟨eh,ei⟩:=a7.out.all1;have kO:l6 (v3.setCell ⟨b,5,none⟩ (zm none 0 0)) (b) #[zq true,zr (some ⟨rb,0,none⟩),zn ⟨#[]⟩,zm m.a m.l.length m.c,zm u.a u.l.length u.c,zm none 0 0,zq true,zm a4 l.length c4] 100:=(a5.out.set 5 _);have kE:l6 (v3.setCell ⟨b,5,none⟩ (zm none 0 0)) (w) #[zo zp x,zn eo,zn en] 92:=(a6.out.other ⟨b,5,none⟩ (by show b≠w;omega) _);have kT:l6 (v3.setCell ⟨b,5,none⟩ (zm none 0 0)) (bt) #[zm a4 l.length c4] 54:=(a7.out.other ⟨b,5,none⟩ (by show b≠bt;omega) _);have ap:lx (b::T) v3 (v3.setCell ⟨b,5,none⟩ (zm none 0 0)):=(lx.refl (b::T) v3).setCell (p:=⟨b,5,none⟩) (.inl li) _;have rS:=gj.out.apart ap;have rG:=gk.out.apart ap;have hB:=((gm.out.setCell (p:=⟨b,5,none⟩) li _):lx [b] w (v3.setCell ⟨b,5,none⟩ (zm none 0 0)));have hz:(v3.setCell ⟨b,5,none⟩ (zm none 0 0)).heap.size=v3:=li;obtain ⟨v4,gp⟩:∃ V,(v3.setCell ⟨b,5,none⟩ (zm none 0 0))=V:=⟨_,rfl⟩;rw [gp] at kO kE kT rS rG hB hz;have av:=zk kO;have a8:=zk kE;have a9:=zk kT;have gq:=zk rS;have gs:=zk rG;have ba:=zk hB;have gt:=zk (zu gn.out (Af hz.symm));clear kO kE kT rS rG hB hz ap a5 a6 a7 gj gk gm gn;obtain ⟨ej,ek,el,em,er,es,et,eu,ev,ew,ey,e0,e3,e4,e5,e6⟩:=av.out.all8;obtain ⟨e7,e8,e9,fa,fb,fc⟩:=a8.out.all3;obtain ⟨fd,fe⟩:=a9.out.all1;have g8:=zk (show b<v4 from av.out.lt);have g9:=zk ba.out.size;obtain ⟨gu,hwA4,kA,hbA,hzA⟩:=n8 v4 #[zo zp x,zn eo,zn en] 92;have bb:=zk (av.out.onto hbA);have bc:=zk (a8.out.onto hbA);have bd:=zk (a9.out.onto hbA);have be:=zk (gq.out.later hbA);have gv:=zk (gs.out.later hbA);have bf:=zk (ba.out.trans (S':=[]) (.of_below hbA) li);have gw:=zk (zu gt.out hbA.size);have ao:=zk kA;have bg:v4.heap.size<gu:=lg;have iv:=zk bg;clear kA hbA hzA bg av a8 a9 gq gs ba gt;obtain ⟨ff,fg,fh,fi,fj,fk,fm,fn,fo,fp,fq,fr,fs,ft,fu,fv⟩:=bb.out.all8;obtain ⟨fw,fx,fy,fz,f0,f1⟩:=bc.out.all3;obtain ⟨f2,f3⟩:=bd.out.all1;obtain ⟨f4,f5,f6,f7,f8,f9⟩:=ao.out.all3;have hbv:b≠v4:=by have h1:=g8.out;omega
  have csh:=nD (made:=true) (r:=some ⟨rb,0,none⟩) (t:=⟨#[]⟩) (m:=m) (u:=u) (ro:=⟨none,[],0⟩) (o:=true) (g:=⟨a4,l,c4⟩) bb.out (fun i hi=>zz (H.out.tlt i hi) bf.out.size) be.out.m g5.out g6.out (some ⟨rb',0,none⟩) ⟨some ⟨v4,0,none⟩,[⟨x,eo,en⟩],1⟩ ⟨eone ao.out ⟨ao.out.lt,by simp only [zt,not_or];exact ⟨lg,fun hi=>by have h1:=H.out.tlt _ hi;have h2:=g9.out;(try dsimp only at h1 h2);omega⟩⟩,fun e=>by cases e⟩ li g2.out g3.out g4.out;have hb:=zk (show Aa prog 177 #[zr (some ⟨b,0,none⟩),zr (some ⟨rb',0,none⟩),zm (some ⟨v4,0,none⟩) (1:Nat) 1] gu _ from csh);clear csh;go_wp2_with fail;refine (hb.out).mono ?_;rintro e wZ ⟨rfl,⟨ma,ml,mc⟩,bh,bi,gx,bj,ha⟩;clear c6 c7 c8 c9 da db dc dd de df dg dh di dj dk dl dm dn dp dq dr ds dt du gi dv dw dx dy dz d0 d1 d2 d3 d4 d5 d6 d7 d8 d9 ea eb ec ed ee ef eg eh ei gp ej ek el em er es et eu ev ew ey e0 e3 e4 e5 e6 e7 e8 e9 fa fb fc fd fe hwA4 ff fg fh fi fj fk fm fn fo fp fq fr fs ft fu fv fw fx fy fz f0 f1 f2 f3 f4 f5 f6 f7 f8 f9;have g0:=zk (gx);have hc:=zk (bc.out.apart ha lu);have hd:=zk (bd.out.apart ha lu);have hf:=zk (ao.out.apart ha lu);have hg:=zk (be.out.apart (ha.more li));have hj:=zk (gv.out.apart (ha.more li));have bk:=zk (bf.out.trans ha li);have iw:=zk (zu gw.out ha.size);have aw:=zk (Aj bh bi);have hk:=zk (bj);clear ha bh bi gx bj bb bc bd ao be gv bf gw;obtain ⟨hm,hp,hq,ht,hu,hv,hw,h0,h4,h5,h6,h7,h8,h9,ia,ib⟩:=g0.out.all8;obtain ⟨ic,ie,ig,ih,ii,ij⟩:=hc.out.all3;obtain ⟨ik,il⟩:=hd.out.all1;obtain ⟨im,io,ip,iq,ir,it⟩:=hf.out.all3;go_wp2;go_ret;refine ⟨⟨t',⟨ma,ml,mc⟩,u,⟨none,[],0⟩,true,⟨a4,l,c4⟩⟩,rb',p',L',rfl,⟨g0.out,HR.out.apart H.out.blk rfl bk.out,⟨hk.out,hg.out.u,tf.empty _ _,hj.out⟩,aw.out.2.1,aw.out.2.2,?_,fun i hi=>zz (H.out.tlt i hi) (bk.out).size⟩,?_,bk.out⟩
  ·have e:=HI.out;rw [HE.out] at e;have h3:ml=pb m.l (mu x eo.size en.size):=aw.out.1;show mx (⟨t',ml,mf u.l,[],true,l⟩:mg);rw [h3];exact e
  ·have h3:ml=pb m.l (mu x eo.size en.size):=aw.out.1;show (⟨t',ml,mf u.l,[],true,l⟩:mg)=_;rw [h3]
set_option maxHeartbeats 3200000 in
theorem qZ {m:qx} {u ro:o7} {g:mo} (h:n7 T w b ⟨t,m,u,ro,false,g⟩ rb p L) (x:Int) (eo en:ByteArray) (ho:eo.size≤140737488355328) (hn:en.size≤140737488355328) (hx:eo.size+en.size≤512) (hy:1≤eo.size+en.size) {rb':Nat} {p':Option Ab} {L':List ByteArray} (hap:oq t x eo en=(t',0)) (hr:n9 w (some ⟨rb',0,none⟩) p' L' t'):Aa prog 146 #[zr (some ⟨b,0,none⟩),zr (some ⟨rb',0,none⟩),vt x eo en] w (nk T w b (pf (l7.d ⟨t,m,u,ro,false,g⟩) ⟨x,eo,en⟩)):=by
 have hbl:b<w:=h.lt;have hg:g.l=[]:=by
  rcases h.inv.go with e|e
  ·exact e
  ·have:=e.1;cases this
 have hadd:wb g.l ⟨x,eo,en⟩=([⟨x,eo,en⟩],0):=by unfold wb;rw [hg];rfl
 have hok:o8 ⟨x,eo,en⟩=true:=(dC _).2 ⟨by show eo.size≤512;omega,by show en.size≤512;omega,by show 1≤eo.size∨1≤en.size;omega⟩;have hrun:ms t [⟨x,eo,en⟩]=(t',0):=jO hap;have hmx:=h.inv.shown hrun;have hpx:=jQ h.inv.z hrun;have hzx:=h.inv.edz (l:=[⟨x,eo,en⟩]) (fun y hy=>by rw [Aw.1 hy];exact hok);have hie:=kI (x:=⟨x,eo,en⟩) (t':=t') h.inv hap hok;have hml:m.l.length≤1000000:=zu h.inv.ml lj;have hmc:m.l.length≤m.c∧m.c≤Aq:=⟨h.ml,h.mc⟩;obtain ⟨l,hl⟩:∃ l,[(⟨x,eo,en⟩:l8)]=l:=⟨_,rfl⟩;have g7:=zk hzx;have g8:=zk hpx;have g9:=zk hmx;have hb:=zk hml;have hc:=zk hmc;have HI:=zk hie;have HR:=zk hr;have HL:=zk hl;rw [hl] at hadd;have hll:l.length=1:=by rw [← hl];rfl
 have hul:u.l.length≤900∧∀ y∈u.l,y.l.length≤1000000:=by
  have h1:=h.inv.ul;have h2:(mf u.l).length≤16:=h1.1;rw [aD] at h2;exact ⟨lg,eH fun y hy=>zu (h1.2 y hy).2 lj⟩
 have hd:=zk hll;have gd:=zk hul;have he:pf (l7.d ⟨t,m,u,ro,false,g⟩) ⟨x,eo,en⟩=(⟨t',pb m.l (mu x eo.size en.size),np (mf u.l) [⟨x,eo,en⟩],[],false,g.l⟩,0):=by unfold pf;rw [if_neg (fun h=>by cases h.1)];simp only [l7.d,hap];rfl
 have HE:=zk he;rw [he];have hgz:g.l.length≤32:=by rw [hg];exact Ap _
 clear he hmx hpx hzx hie hml hmc hap hr hrun hok hl hll hul hg;obtain ⟨wX,hwX,kE,ae,hz⟩:=n8 w #[zo zp x,zn eo,zn en] 92;have aq:=zk (show l6 wX b #[zq true,zr (some ⟨rb,0,none⟩),zn ⟨#[]⟩,zm m.a m.l.length m.c,zm u.a u.l.length u.c,zm ro.a ro.l.length ro.c,zq false,zm g.a g.l.length g.c] 100 from h.blk.onto ae);have af:=zk (kE);have ay:=zk ((h.rows.wide (S':=b::w::T) (pr (zx _))).later ae);have gf:=zk ((lx.of_below ae:lx [b] w wX));have gg:=zk (zx wX);have az:∀ W:zv,wX.heap.size≤W→∀ i∈b::w::T,i<W:=fun W hWz i hi=>by simp only [zt] at hi;rcases hi with rfl|rfl|hi;all_goals first|omega|(have:=h.tlt i hi;omega)
 have hf:=zk az;have H:=zk h;have HB:=zk ae;clear az kE;obtain ⟨bm,bn,bo,bp,bq,br,bs,bu,bv,bw,bx,bz,b3,b4,b5,b6⟩:=aq.out.all8;obtain ⟨b7,b8,b9,cb,cc,cd⟩:=af.out.all3;have ca:=fun W (hW:Below wX wX W)=>oO g.a g.l g.c ⟨x,eo,en⟩ W ((h.rows.g.later ae).later hW).in lg;rw [hadd] at ca;have CA:=zk ca;have hzl:w.heap.size<wX:=lg;clear h ae hz ca hadd;have gz:(eo.size:Int)+(en.size:Int)≤512:=lg;have gy:¬ (eo.size:Int)+(en.size:Int)=0:=lg;go_enter func146,ntmps146;have hfs:∀ W,Below wX wX W→W ⟨b,7,none⟩=some (zm g.a g.l.length g.c)∧W ⟨w,0,none⟩=some (zo zp x)∧W ⟨w,1,none⟩=some (zn eo)∧W ⟨w,2,none⟩=some (zn en):=fun W h=>⟨(aq.out.onto h).cell 7 _ rfl,(af.out.onto h).cell 0 _ rfl,(af.out.onto h).cell 1 _ rfl,(af.out.onto h).cell 2 _ rfl⟩;have FS:=zk hfs;clear hfs;go_wp2_with fail;clear bm bn bo bp bq br bs bu bv bw bx bz b3 b4 b5 b6 b7 b8 b9 cb cc cd;refine Ah (S:=(fun W:zv=>W ⟨b,7,none⟩=some (zm g.a g.l.length g.c)∧W ⟨w,0,none⟩=some (zo zp x)∧W ⟨w,1,none⟩=some (zn eo)∧W ⟨w,2,none⟩=some (zn en))) lh (FS.out _ (Below.refl _ _).drew) (fun hHeld=>?_);refine lz 0 ?_;refine lz 1 ?_;refine lz 2 ?_;refine lz 3 ?_;refine lz 4 ?_;refine lz 5 ?_;refine lz 6 ?_;clear hwX;refine Ak (rs:=[7,11]) lh li ?_;refine Ad (by simp only [rg];rfl) (fun K hK=>?ga) (Ad (by simp only [rg];rfl) (fun K hK=>?gb) Al)
 case' gb =>
  go_simp;have BSA:=zk ((Below.refl wX wX).drew.alloc (zx _) (zy #[zm none 0 0] 54));have gh:=zk (l6.new wX.drew #[zm none 0 0] 54)
  try go_wp2_with fail
  refine hK.out _ _ ?_ (fun hHeld=>?_)
  ·exact FS.out _ BSA.out
  clear hK K
  try simp only [zw,mj]
  refine m8 7 fun K hK=>?_;go_simp
  (go_at_call 176;refine (CA.out _ BSA.out).mono ?_;rintro e w1 ⟨a4,c4,rfl,ak,ag⟩;have aa:Below wX wX w1:=BSA.out.trans (ag.mono BSA.out.size))
  try go_wp2_with fail
  refine hK.out _ _ ?_ (fun hHeld=>?_)
  ·exact FS.out _ aa
  clear hK K
  try simp only [zw,mj]
  have ac:=zk (aq.out.onto aa);have ab:=zk (af.out.onto aa);have ah:=zk (ay.out.later aa);have al:=zk (gf.out.trans (S':=[]) (.of_below aa) li);have am:=zk (zu gg.out aa.size);have a0:=zk (show l6 w1 wX.heap.size #[zm none 0 0] 54 from gh.out.onto ag);have an:=zk (ak.off (S:=b::w::wX::T) (fun i hi=>by
   have hs:wX.heap.size+1≤(Am wX.drew (zy #[zm none 0 0] 54)):=li;simp only [zt,Bv,or_false] at hi;have i3:(Am wX.drew (zy #[zm none 0 0] 54)).heap.size=(Am wX (zy #[zm none 0 0] 54)):=li;rcases hi with rfl|rfl|rfl|hi
   ·exact zz lg hs
   ·exact zz lg hs
   ·exact hs
   ·exact zz (by have:=H.out.tlt i hi;omega) hs))
  replace ah:=zk (((ay.out.wide (S':=b::w::wX::T) (wide3 (zx _))).later aa));clear ak ag CA gh;refine lz 8 ?_;refine lz 9 ?_;refine lz 10 ?_;obtain ⟨ce,cf,cg,ch,ci,cj,ck,cl,cm,cn,co,cp,cq,cr,ct,cu⟩:=ac.out.all8;obtain ⟨cv,cw,cx,cy,cz,c3⟩:=ab.out.all3;obtain ⟨c5,c6⟩:=a0.out.all1;have g6:w1 ⟨b,7,none⟩=some (zm g.a g.l.length g.c):=ac.out.cell 7 _ rfl;refine m8 12 fun K hK=>?_;go_simp;skip
  try go_wp2_with fail
  refine hK.out _ _ ?_ (fun hHeld=>?_)
  ·exact ⟨(ac.out.other ⟨wX,0,none⟩ (by show wX≠b;omega) _).cell 7 _ rfl,(ab.out.other ⟨wX,0,none⟩ (by show wX.heap.size≠w;omega) _).cell 0 _ rfl,(ab.out.other ⟨wX,0,none⟩ (by show wX.heap.size≠w;omega) _).cell 1 _ rfl,(ab.out.other ⟨wX,0,none⟩ (by show wX.heap.size≠w;omega) _).cell 2 _ rfl⟩
  clear hK K
  try simp only [zw,mj]
  refine lz 13 ?_;refine Ae lh ?_ _;clear aa g6 BSA;have kT:l6 (w1.setCell ⟨wX,0,none⟩ (zm a4 l.length c4)) (wX) #[zm a4 l.length c4] 54:=(a0.out.set 0 _);have kO:l6 (w1.setCell ⟨wX,0,none⟩ (zm a4 l.length c4)) (b) #[zq true,zr (some ⟨rb,0,none⟩),zn ⟨#[]⟩,zm m.a m.l.length m.c,zm u.a u.l.length u.c,zm ro.a ro.l.length ro.c,zq false,zm g.a g.l.length g.c] 100:=(ac.out.other ⟨wX,0,none⟩ (by show wX≠b;omega) _);have kE:l6 (w1.setCell ⟨wX,0,none⟩ (zm a4 l.length c4)) (w) #[zo zp x,zn eo,zn en] 92:=(ab.out.other ⟨wX,0,none⟩ (by show wX.heap.size≠w;omega) _);have ap:lx (b::w::wX::T) w1 (w1.setCell ⟨wX,0,none⟩ (zm a4 l.length c4)):=(lx.refl (b::w::wX::T) w1).setCell (p:=⟨wX,0,none⟩) (.inl li) _;have rS:=ah.out.apart ap;have rG:=an.out.apart ap;have hB:=((al.out.setCell (p:=⟨wX,0,none⟩) (by right;show w.heap.size≤wX;omega) _):lx [b] w (w1.setCell ⟨wX,0,none⟩ (zm a4 l.length c4)));have hz:(w1.setCell ⟨wX,0,none⟩ (zm a4 l.length c4)).heap.size=w1:=li;obtain ⟨vv,a1⟩:∃ V,(w1.setCell ⟨wX,0,none⟩ (zm a4 l.length c4))=V:=⟨_,rfl⟩;rw [a1] at kO kE kT rS rG hB hz;rw [a1];have ar:=zk kO;have au:=zk kE;have ad:=zk kT;have ai:=zk rS;have aj:=zk rG;have av:=zk hB;have a2:=zk (zu am.out (Af hz.symm));clear kO kE kT rS rG hB hz ap ac ab a0 ah an al am;obtain ⟨bt,hbt⟩:∃ x,wX.heap.size=x:=⟨_,rfl⟩;have hbx:wX≤bt:=Af hbt;rw [hbt] at ad ⊢;have gi:=zk ad.out.lt;clear hbt a1 ce cf cg ch ci cj ck cl cm cn co cp cq cr ct cu cv cw cx cy cz c3 c5 c6
 case' ga =>
  go_simp
  (go_at_call 176;refine (CA.out _ (Below.refl _ _).drew).mono ?_;rintro e w1 ⟨a4,c4,rfl,ak,ag⟩;have aa:Below wX wX w1:=(Below.refl _ _).drew.trans ag)
  try go_wp2_with fail
  refine hK.out _ _ ?_ (fun hHeld=>?_)
  ·exact FS.out _ aa
  clear hK K
  try simp only [zw,mj]
  have ac:=zk (aq.out.onto aa);have ab:=zk (af.out.onto aa);have ah:=zk (ay.out.later aa);have al:=zk (gf.out.trans (S':=[]) (.of_below aa) li);have am:=zk (zu gg.out aa.size);have an:=zk (ak.off (S:=b::w::T) (hf.out _ (zx _)));clear ak ag CA;refine lz 8 ?_;refine lz 9 ?_;refine lz 10 ?_;refine m8 11 fun K hK=>?_;go_simp;skip
  try go_wp2_with fail
  refine hK.out _ _ ?_ (fun hHeld=>?_)
  ·exact FS.out _ (aa.alloc aa.size _)
  clear hK K
  try simp only [zw,mj]
  refine m8 12 fun K hK=>?_;go_simp;skip
  try go_wp2_with fail
  refine hK.out _ _ ?_ (fun hHeld=>?_)
  ·exact FS.out _ (aa.alloc aa.size _)
  clear hK K
  try simp only [zw,mj]
  refine lz 13 ?_;refine Ae lh ?_ _;have gj:wX.heap.size≤w1:=aa.size;clear aa;obtain ⟨vv,hwA1,kA,hbA,hzA⟩:=n8 w1 #[zm a4 l.length c4] 54;have ar:=zk (ac.out.onto hbA);have au:=zk (ab.out.onto hbA);have ai:=zk (ah.out.later hbA);have aj:=zk (an.out.later hbA);have av:=zk (al.out.trans (S':=[]) (.of_below hbA) li);have a2:=zk (zu am.out hbA.size);have ad:=zk kA;have a3:w1.heap.size<vv:=lg;have gi:=zk a3;clear kA hbA hzA a3 ac ab ah an al am;rw [hwA1];obtain ⟨bt,hbt⟩:∃ x,w1.heap.size=x:=⟨_,rfl⟩;rw [hbt] at ad gi ⊢;have hbx:wX≤bt:=by rw [← hbt];exact gj
  clear hwA1 hbt gj
 all_goals
  obtain ⟨c7,c8,c9,da,db,dc,dd,de,df,dg,dh,di,dj,dk,dl,dm⟩:=ar.out.all8;obtain ⟨dn,dp,dq,dr,ds,dt⟩:=au.out.all3;obtain ⟨du,dv⟩:=ad.out.all1;replace ai:=zk (ai.out.wide (S':=b::T) (fun i hi=>.inl (by simp only [zt] at hi ⊢;rcases hi with h|h <;> simp [h])));replace aj:=zk (aj.out.wide (S':=b::T) (fun i hi=>.inl (by simp only [zt] at hi ⊢;rcases hi with h|h <;> simp [h])));have cpu:=BV (made:=true) (r:=some ⟨rb,0,none⟩) (t:=⟨#[]⟩) (m:=m) (u:=u) (ro:=ro) (o:=false) (g:=g) ar.out (fun i hi=>zz (H.out.tlt i hi) av.out.size) ai.out.u ⟨a4,l,c4⟩ aj.out gd.out.1 gd.out.2 (by rw [hd.out];decide);have hj:=zk (show Aa prog 155 #[zr (some ⟨b,0,none⟩),oy a4 l.length c4] vv _ from cpu);clear cpu;go_wp2_with fail;refine (hj.out).mono ?_;rintro e wP ⟨rfl,⟨ua,ul,uc⟩,hul,gk,hsu,ha⟩;clear c7 c8 c9 da db dc dd de df dg dh di dj dk dl dm dn dp dq dr ds dt du dv;have a5:=zk (gk);have a6:=zk (au.out.apart ha lu);have a7:=zk (ad.out.apart ha lu);have gm:=zk (ai.out.apart (ha.more li));have gn:=zk (aj.out.apart (ha.more li));have gp:=zk (av.out.trans ha li);have gq:=zk (zu a2.out ha.size);have a8:=zk hul;have gs:=zk (hsu);clear ha hul gk hsu ar au ad ai aj av a2;obtain ⟨dw,dx,dy,dz,d0,d1,d2,d3,d4,d5,d6,d7,d8,d9,ea,eb⟩:=a5.out.all8;obtain ⟨ec,ed,ee,ef,eg,eh⟩:=a6.out.all3;obtain ⟨ei,ej⟩:=a7.out.all1;have kO:l6 (wP.setCell ⟨b,5,none⟩ (zm none 0 0)) (b) #[zq true,zr (some ⟨rb,0,none⟩),zn ⟨#[]⟩,zm m.a m.l.length m.c,zm ua ul.length uc,zm none 0 0,zq false,zm g.a g.l.length g.c] 100:=(a5.out.set 5 _);have kE:l6 (wP.setCell ⟨b,5,none⟩ (zm none 0 0)) (w) #[zo zp x,zn eo,zn en] 92:=(a6.out.other ⟨b,5,none⟩ (by show b≠w;omega) _);have kT:l6 (wP.setCell ⟨b,5,none⟩ (zm none 0 0)) (bt) #[zm a4 l.length c4] 54:=(a7.out.other ⟨b,5,none⟩ (by show b≠bt;omega) _);have ap:lx (b::T) wP (wP.setCell ⟨b,5,none⟩ (zm none 0 0)):=(lx.refl (b::T) wP).setCell (p:=⟨b,5,none⟩) (.inl li) _;have rS:=gm.out.apart ap;have rG:=gn.out.apart ap;have rU:=gs.out.apart ap;have hB:=((gp.out.setCell (p:=⟨b,5,none⟩) li _):lx [b] w (wP.setCell ⟨b,5,none⟩ (zm none 0 0)));have hz:(wP.setCell ⟨b,5,none⟩ (zm none 0 0)).heap.size=wP:=li;obtain ⟨v4,gt⟩:∃ V,(wP.setCell ⟨b,5,none⟩ (zm none 0 0))=V:=⟨_,rfl⟩;rw [gt] at kO kE kT rS rG rU hB hz;have aw:=zk kO;have a9:=zk kE;have ba:=zk kT;have gu:=zk rS;have gv:=zk rG;have gw:=zk rU;have bb:=zk hB;have gx:=zk (zu gq.out (Af hz.symm));clear kO kE kT rS rG rU hB hz ap a5 a6 a7 gm gn gs gp gq;obtain ⟨ek,el,em,er,es,et,eu,ev,ew,ey,e0,e3,e4,e5,e6,e7⟩:=aw.out.all8;obtain ⟨e8,e9,fa,fb,fc,fd⟩:=a9.out.all3;obtain ⟨fe,ff⟩:=ba.out.all1;have hk:=zk (show b<v4 from aw.out.lt);have hm:=zk bb.out.size;obtain ⟨g0,hwA4,kA,hbA,hzA⟩:=n8 v4 #[zo zp x,zn eo,zn en] 92;have bc:=zk (aw.out.onto hbA);have bd:=zk (a9.out.onto hbA);have be:=zk (ba.out.onto hbA);have bf:=zk (gu.out.later hbA);have g1:=zk (gv.out.later hbA);have g2:=zk (gw.out.later hbA);have bg:=zk (bb.out.trans (S':=[]) (.of_below hbA) li);have g3:=zk (zu gx.out hbA.size);have ao:=zk kA;have bh:v4.heap.size<g0:=lg;have i4:=zk bh;clear kA hbA hzA bh aw a9 ba gu gv gw bb gx;obtain ⟨fg,fh,fi,fj,fk,fm,fn,fo,fp,fq,fr,fs,ft,fu,fv,fw⟩:=bc.out.all8;obtain ⟨fx,fy,fz,f0,f1,f2⟩:=bd.out.all3;obtain ⟨f3,f4⟩:=be.out.all1;obtain ⟨f5,f6,f7,f8,f9,gc⟩:=ao.out.all3;have hbv:b≠v4:=by have h1:=hk.out;omega
  have csh:=nD (made:=true) (r:=some ⟨rb,0,none⟩) (t:=⟨#[]⟩) (m:=m) (u:=⟨ua,ul,uc⟩) (ro:=⟨none,[],0⟩) (o:=false) (g:=g) bc.out (fun i hi=>zz (H.out.tlt i hi) bg.out.size) bf.out.m hb.out hc.out (some ⟨rb',0,none⟩) ⟨some ⟨v4,0,none⟩,[⟨x,eo,en⟩],1⟩ ⟨eone ao.out ⟨ao.out.lt,by simp only [zt,not_or];exact ⟨lg,fun hi=>by have h1:=H.out.tlt _ hi;have h2:=hm.out;(try dsimp only at h1 h2);omega⟩⟩,fun e=>by cases e⟩ li g7.out g8.out g9.out;have hp:=zk (show Aa prog 177 #[zr (some ⟨b,0,none⟩),zr (some ⟨rb',0,none⟩),zm (some ⟨v4,0,none⟩) (1:Nat) 1] g0 _ from csh);clear csh;go_wp2_with fail;refine (hp.out).mono ?_;rintro e wZ ⟨rfl,⟨ma,ml,mc⟩,bi,bj,g4,bk,ha⟩;clear dw dx dy dz d0 d1 d2 d3 d4 d5 d6 d7 d8 d9 ea eb ec ed ee ef eg eh ei ej gt ek el em er es et eu ev ew ey e0 e3 e4 e5 e6 e7 e8 e9 fa fb fc fd fe ff hwA4 fg fh fi fj fk fm fn fo fp fq fr fs ft fu fv fw fx fy fz f0 f1 f2 f3 f4 f5 f6 f7 f8 f9 gc;have g5:=zk (g4);have hq:=zk (bd.out.apart ha lu);have ht:=zk (be.out.apart ha lu);have hu:=zk (ao.out.apart ha lu);have hv:=zk (bf.out.apart (ha.more li));have i5:=zk (g1.out.apart (ha.more li));have hw:=zk (g2.out.apart (ha.more li));have bl:=zk (bg.out.trans ha li);have i6:=zk (zu g3.out ha.size);have ax:=zk (Aj bi bj);have h0:=zk (bk);clear ha bi bj g4 bk bc bd be ao bf g1 g2 bg g3;obtain ⟨h5,h6,h7,h8,h9,ia,ib,ic,ie,ig,ih,ii,ij,ik,il,im⟩:=g5.out.all8;obtain ⟨io,ip,iq,ir,it,iu⟩:=hq.out.all3;obtain ⟨iv,iw⟩:=ht.out.all1;obtain ⟨ix,iy,iz,i0,i1,i2⟩:=hu.out.all3;go_wp2;go_ret;refine ⟨⟨t',⟨ma,ml,mc⟩,⟨ua,ul,uc⟩,⟨none,[],0⟩,false,g⟩,rb',p',L',rfl,⟨g5.out,HR.out.apart H.out.blk rfl bl.out,⟨h0.out,hw.out,tf.empty _ _,hv.out.g⟩,ax.out.2.1,ax.out.2.2,?_,fun i hi=>zz (H.out.tlt i hi) (bl.out).size⟩,?_,bl.out⟩
  ·have e:=HI.out;rw [HE.out] at e;have h3:ml=pb m.l (mu x eo.size en.size):=ax.out.1;have h4:mf ul=np (mf u.l) [⟨x,eo,en⟩]:=by rw [HL.out];exact a8.out
   show mx (⟨t',ml,mf ul,[],false,g.l⟩:mg);rw [h3,h4];exact e
  ·have h3:ml=pb m.l (mu x eo.size en.size):=ax.out.1;have h4:mf ul=np (mf u.l) [⟨x,eo,en⟩]:=by rw [HL.out];exact a8.out
   show (⟨t',ml,mf ul,[],false,g.l⟩:mg)=_;rw [h3,h4]
set_option maxHeartbeats 800000 in
theorem AY {m:qx} {u ro:o7} {g:mo} (h:n7 T w b ⟨t,m,u,ro,true,g⟩ rb p L) (k i n:Int) (x:ByteArray):Aa prog 124 #[zr (some ⟨b,0,none⟩),(Ai #[zo zp k,zo zp i,zo zp n,zn x])] w (nk T w b ((l7.d ⟨t,m,u,ro,true,g⟩),11)):=by
 have hbl:b<w:=h.lt;obtain ⟨wX,hwX,kE,aa,hz⟩:=n8 w #[zo zp k,zo zp i,zo zp n,zn x] 50;have ad:=zk (show l6 wX b #[zq true,zr (some ⟨rb,0,none⟩),zn ⟨#[]⟩,zm m.a m.l.length m.c,zm u.a u.l.length u.c,zm ro.a ro.l.length ro.c,zq true,zm g.a g.l.length g.c] 100 from h.blk.onto aa);have ae:=zk (kE);have af:=zk ((h.rows.wide (S':=b::w::T) (pr (zx _))).later aa);have ab:=zk ((lx.of_below aa:lx [b] w wX));have a7:=zk (zx wX);have ac:∀ W:zv,wX.heap.size≤W→∀ i∈b::w::T,i<W:=fun W hWz i hi=>by simp only [zt] at hi;rcases hi with rfl|rfl|hi;all_goals first|omega|(have:=h.tlt i hi;omega)
 have a8:=zk ac;have H:=zk h;have HB:=zk aa;clear ac kE;obtain ⟨ag,ah,ai,aj,ak,al,am,an,ao,aq,ar,au,av,aw,ax,ay⟩:=ad.out.all8;obtain ⟨az,a0,a1,a2,a3,a4,a5,a6⟩:=ae.out.all4;clear h aa hz;go_enter func124,ntmps124;go_wp2;go_ret;exact ⟨⟨t,m,u,ro,true,g⟩,rb,p,L,rfl,⟨ad.out,H.out.rope.apart H.out.blk rfl ab.out,af.out.wide (fun i hi=>.inl (by simp only [zt] at hi ⊢;rcases hi with h|h <;> simp [h])),H.out.ml,H.out.mc,H.out.inv,fun i hi=>zz (H.out.tlt i hi) (ab.out).size⟩,rfl,ab.out⟩
set_option maxHeartbeats 800000 in
theorem wB {m:qx} {u ro:o7} {g:mo} (h:n7 T w b ⟨t,m,u,ro,false,g⟩ rb p L) (k i n:Int) (x:ByteArray):Aa prog 124 #[zr (some ⟨b,0,none⟩),(Ai #[zo zp k,zo zp i,zo zp n,zn x])] w (nk T w b (⟨t,m.l,mf u.l,mf ro.l,true,g.l⟩,0)):=by
 have hbl:b<w:=h.lt;obtain ⟨wX,hwX,kE,ab,hz⟩:=n8 w #[zo zp k,zo zp i,zo zp n,zn x] 50;have ac:=zk (show l6 wX b #[zq true,zr (some ⟨rb,0,none⟩),zn ⟨#[]⟩,zm m.a m.l.length m.c,zm u.a u.l.length u.c,zm ro.a ro.l.length ro.c,zq false,zm g.a g.l.length g.c] 100 from h.blk.onto ab);have ad:=zk (kE);have ag:=zk ((h.rows.wide (S':=b::w::T) (pr (zx _))).later ab);have ah:=zk ((lx.of_below ab:lx [b] w wX));have ai:=zk (zx wX);have ae:∀ W:zv,wX.heap.size≤W→∀ i∈b::w::T,i<W:=fun W hWz i hi=>by simp only [zt] at hi;rcases hi with rfl|rfl|hi;all_goals first|omega|(have:=h.tlt i hi;omega)
 have b6:=zk ae;have H:=zk h;have HB:=zk ab;clear ae kE;obtain ⟨am,an,ao,aq,ar,au,av,aw,ax,ay,az,a0,a1,a2,a3,a4⟩:=ac.out.all8;obtain ⟨a5,a6,a7,a8,a9,ba,bb,bc⟩:=ad.out.all4;clear h ab hz;go_enter func124,ntmps124;have kO:l6 (wX.setCell ⟨b,6,none⟩ (zq true)) (b) #[zq true,zr (some ⟨rb,0,none⟩),zn ⟨#[]⟩,zm m.a m.l.length m.c,zm u.a u.l.length u.c,zm ro.a ro.l.length ro.c,zq true,zm g.a g.l.length g.c] 100:=(ac.out.set 6 _);have kE:l6 (wX.setCell ⟨b,6,none⟩ (zq true)) (w) #[zo zp k,zo zp i,zo zp n,zn x] 50:=(ad.out.other ⟨b,6,none⟩ (by show b≠w;omega) _);have ap:lx (b::w::T) wX (wX.setCell ⟨b,6,none⟩ (zq true)):=(lx.refl (b::w::T) wX).setCell (p:=⟨b,6,none⟩) (.inl li) _;have rS:=ag.out.apart ap;have hB:=((ah.out.setCell (p:=⟨b,6,none⟩) li _):lx [b] w (wX.setCell ⟨b,6,none⟩ (zq true)));have hz:(wX.setCell ⟨b,6,none⟩ (zq true)).heap.size=wX:=li;obtain ⟨v1,ak⟩:∃ V,(wX.setCell ⟨b,6,none⟩ (zq true))=V:=⟨_,rfl⟩;rw [ak] at kO kE rS hB hz;have aj:=zk kO;have al:=zk kE;have aa:=zk rS;have af:=zk hB;have b7:=zk (zu ai.out (Af hz.symm));clear kO kE rS hB hz ap ac ad ag ah ai;obtain ⟨bd,be,bf,bg,bh,bi,bj,bk,bl,bm,bn,bo,bp,bq,br,bs⟩:=aj.out.all8;obtain ⟨bu,bv,bw,bx,bz,b3,b4,b5⟩:=al.out.all4;replace aa:=zk (aa.out.wide (S':=b::T) (fun i hi=>.inl (by simp only [zt] at hi ⊢;rcases hi with h|h <;> simp [h])));go_wp2;go_ret;exact ⟨⟨t,m,u,ro,true,g⟩,rb,p,L,rfl,⟨aj.out,H.out.rope.apart H.out.blk rfl af.out,⟨aa.out.m,aa.out.u,aa.out.r,aa.out.g⟩,H.out.ml,H.out.mc,(by have e:=sF H.out.inv;exact e),fun i hi=>zz (H.out.tlt i hi) (af.out).size⟩,rfl,af.out⟩
set_option maxHeartbeats 800000 in
theorem LJ {m:qx} {u ro:o7} {g:mo} (h:n7 T w b ⟨t,m,u,ro,false,g⟩ rb p L) (k i n:Int) (x:ByteArray):Aa prog 125 #[zr (some ⟨b,0,none⟩),(Ai #[zo zp k,zo zp i,zo zp n,zn x])] w (nk T w b ((l7.d ⟨t,m,u,ro,false,g⟩),11)):=by
 have hbl:b<w:=h.lt;obtain ⟨wX,hwX,kE,aa,hz⟩:=n8 w #[zo zp k,zo zp i,zo zp n,zn x] 50;have ad:=zk (show l6 wX b #[zq true,zr (some ⟨rb,0,none⟩),zn ⟨#[]⟩,zm m.a m.l.length m.c,zm u.a u.l.length u.c,zm ro.a ro.l.length ro.c,zq false,zm g.a g.l.length g.c] 100 from h.blk.onto aa);have ae:=zk (kE);have af:=zk ((h.rows.wide (S':=b::w::T) (pr (zx _))).later aa);have ab:=zk ((lx.of_below aa:lx [b] w wX));have a7:=zk (zx wX);have ac:∀ W:zv,wX.heap.size≤W→∀ i∈b::w::T,i<W:=fun W hWz i hi=>by simp only [zt] at hi;rcases hi with rfl|rfl|hi;all_goals first|omega|(have:=h.tlt i hi;omega)
 have a8:=zk ac;have H:=zk h;have HB:=zk aa;clear ac kE;obtain ⟨ag,ah,ai,aj,ak,al,am,an,ao,aq,ar,au,av,aw,ax,ay⟩:=ad.out.all8;obtain ⟨az,a0,a1,a2,a3,a4,a5,a6⟩:=ae.out.all4;clear h aa hz;go_enter func125,ntmps125;go_wp2;go_ret;exact ⟨⟨t,m,u,ro,false,g⟩,rb,p,L,rfl,⟨ad.out,H.out.rope.apart H.out.blk rfl ab.out,af.out.wide (fun i hi=>.inl (by simp only [zt] at hi ⊢;rcases hi with h|h <;> simp [h])),H.out.ml,H.out.mc,H.out.inv,fun i hi=>zz (H.out.tlt i hi) (ab.out).size⟩,rfl,ab.out⟩
set_option maxHeartbeats 1600000 in
theorem zL {m:qx} {u ro:o7} {g:mo} (h:n7 T w b ⟨t,m,u,ro,true,g⟩ rb p L) (k i n:Int) (x:ByteArray) (hg0:g.l.length=0):Aa prog 125 #[zr (some ⟨b,0,none⟩),(Ai #[zo zp k,zo zp i,zo zp n,zn x])] w (nk T w b (⟨t,m.l,mf u.l,mf ro.l,false,[]⟩,0)):=by
 have hbl:b<w:=h.lt;have he:s7 (l7.d ⟨t,m,u,ro,true,g⟩)=(⟨t,m.l,mf u.l,mf ro.l,false,[]⟩,0):=by unfold s7;rw [if_neg (fun h=>by cases h),show (l7.d ⟨t,m,u,ro,true,g⟩).g.length=0 from hg0,if_pos rfl];rfl
 have HE:=zk he;clear he;obtain ⟨wX,hwX,kE,aa,hz⟩:=n8 w #[zo zp k,zo zp i,zo zp n,zn x] 50;have ac:=zk (show l6 wX b #[zq true,zr (some ⟨rb,0,none⟩),zn ⟨#[]⟩,zm m.a m.l.length m.c,zm u.a u.l.length u.c,zm ro.a ro.l.length ro.c,zq true,zm g.a g.l.length g.c] 100 from h.blk.onto aa);have ad:=zk (kE);have ab:=zk ((h.rows.wide (S':=b::w::T) (pr (zx _))).later aa);have aj:=zk ((lx.of_below aa:lx [b] w wX));have ak:=zk (zx wX);have ae:∀ W:zv,wX.heap.size≤W→∀ i∈b::w::T,i<W:=fun W hWz i hi=>by simp only [zt] at hi;rcases hi with rfl|rfl|hi;all_goals first|omega|(have:=h.tlt i hi;omega)
 have c4:=zk ae;have H:=zk h;have HB:=zk aa;clear ae kE;obtain ⟨av,aw,ax,ay,az,a0,a1,a2,a3,a4,a5,a6,a7,a8,a9,ba⟩:=ac.out.all8;obtain ⟨bb,bc,bd,be,bf,bg,bh,bi⟩:=ad.out.all4;have g0:g.l.length=0:=hg0;clear h aa hz;go_enter func125,ntmps125;replace ab:=zk (ab.out.wide (S':=b::T) (fun i hi=>.inl (by simp only [zt] at hi ⊢;rcases hi with h|h <;> simp [h])));have kO:l6 (wX.setCell ⟨b,6,none⟩ (zq false)) (b) #[zq true,zr (some ⟨rb,0,none⟩),zn ⟨#[]⟩,zm m.a m.l.length m.c,zm u.a u.l.length u.c,zm ro.a ro.l.length ro.c,zq false,zm g.a g.l.length g.c] 100:=(ac.out.set 6 _);have kE:l6 (wX.setCell ⟨b,6,none⟩ (zq false)) (w) #[zo zp k,zo zp i,zo zp n,zn x] 50:=(ad.out.other ⟨b,6,none⟩ (by show b≠w;omega) _);have ap:lx (b::T) wX (wX.setCell ⟨b,6,none⟩ (zq false)):=(lx.refl (b::T) wX).setCell (p:=⟨b,6,none⟩) (.inl li) _;have rS:=ab.out.apart ap;have hB:=((aj.out.setCell (p:=⟨b,6,none⟩) li _):lx [b] w (wX.setCell ⟨b,6,none⟩ (zq false)));have hz:(wX.setCell ⟨b,6,none⟩ (zq false)).heap.size=wX:=li;obtain ⟨v1,aq⟩:∃ V,(wX.setCell ⟨b,6,none⟩ (zq false))=V:=⟨_,rfl⟩;rw [aq] at kO kE rS hB hz;have af:=zk kO;have ag:=zk kE;have al:=zk rS;have am:=zk hB;have an:=zk (zu ak.out (Af hz.symm));clear kO kE rS hB hz ap ac ad ab aj ak;obtain ⟨bj,bk,bl,bm,bn,bo,bp,bq,br,bs,bu,bv,bw,bx,bz,b3⟩:=af.out.all8;obtain ⟨b4,b5,b6,b7,b8,b9,ca,cb⟩:=ag.out.all4;have kO:l6 (v1.setCell ⟨b,7,none⟩ (zm none 0 0)) (b) #[zq true,zr (some ⟨rb,0,none⟩),zn ⟨#[]⟩,zm m.a m.l.length m.c,zm u.a u.l.length u.c,zm ro.a ro.l.length ro.c,zq false,zm none 0 0] 100:=(af.out.set 7 _);have kE:l6 (v1.setCell ⟨b,7,none⟩ (zm none 0 0)) (w) #[zo zp k,zo zp i,zo zp n,zn x] 50:=(ag.out.other ⟨b,7,none⟩ (by show b≠w;omega) _);have ap:lx (b::T) v1 (v1.setCell ⟨b,7,none⟩ (zm none 0 0)):=(lx.refl (b::T) v1).setCell (p:=⟨b,7,none⟩) (.inl li) _;have rS:=al.out.apart ap;have hB:=((am.out.setCell (p:=⟨b,7,none⟩) li _):lx [b] w (v1.setCell ⟨b,7,none⟩ (zm none 0 0)));have hz:(v1.setCell ⟨b,7,none⟩ (zm none 0 0)).heap.size=v1:=li;obtain ⟨v2,ar⟩:∃ V,(v1.setCell ⟨b,7,none⟩ (zm none 0 0))=V:=⟨_,rfl⟩;rw [ar] at kO kE rS hB hz;have ao:=zk kO;have au:=zk kE;have ah:=zk rS;have ai:=zk hB;have c5:=zk (zu an.out (Af hz.symm));clear kO kE rS hB hz ap af ag al am an;obtain ⟨cc,cd,ce,cf,cg,ch,ci,cj,ck,cl,cm,cn,co,cp,cq,cr⟩:=ao.out.all8;obtain ⟨ct,cu,cv,cw,cx,cy,cz,c3⟩:=au.out.all4;go_wp2;go_ret;have hie:=qY H.out.inv;rw [HE.out] at hie;exact ⟨⟨t,m,u,ro,false,⟨none,[],0⟩⟩,rb,p,L,rfl,⟨ao.out,H.out.rope.apart H.out.blk rfl ai.out,⟨ah.out.m,ah.out.u,ah.out.r,sv.empty _ _⟩,H.out.ml,H.out.mc,hie,fun i hi=>zz (H.out.tlt i hi) (ai.out).size⟩,rfl,ai.out⟩
set_option maxHeartbeats 1600000 in
theorem BB {m:qx} {u ro:o7} {g:mo} (h:n7 T w b ⟨t,m,u,ro,true,g⟩ rb p L) (k i n:Int) (x:ByteArray) (hg0:¬ g.l.length=0):Aa prog 125 #[zr (some ⟨b,0,none⟩),(Ai #[zo zp k,zo zp i,zo zp n,zn x])] w (nk T w b (⟨t,m.l,np (mf u.l) g.l,mf ro.l,false,[]⟩,0)):=by
 have hbl:b<w:=h.lt;have he:s7 (l7.d ⟨t,m,u,ro,true,g⟩)=(⟨t,m.l,np (mf u.l) g.l,mf ro.l,false,[]⟩,0):=by unfold s7;rw [if_neg (fun h=>by cases h),if_neg (show ¬ (l7.d ⟨t,m,u,ro,true,g⟩).g.length=0 from hg0)];rfl
 have HE:=zk he;have hul:u.l.length≤900∧∀ y∈u.l,y.l.length≤1000000:=by
  have h1:=h.inv.ul;have h2:(mf u.l).length≤16:=h1.1;rw [aD] at h2;exact ⟨lg,eH fun y hy=>zu (h1.2 y hy).2 lj⟩
 have hgl:g.l.length≤1000000:=zu h.inv.gl lj;have bc:=zk hul;have bq:=zk hgl;clear he hul hgl;obtain ⟨wX,hwX,kE,ab,hz⟩:=n8 w #[zo zp k,zo zp i,zo zp n,zn x] 50;have ac:=zk (show l6 wX b #[zq true,zr (some ⟨rb,0,none⟩),zn ⟨#[]⟩,zm m.a m.l.length m.c,zm u.a u.l.length u.c,zm ro.a ro.l.length ro.c,zq true,zm g.a g.l.length g.c] 100 from h.blk.onto ab);have ad:=zk (kE);have aa:=zk ((h.rows.wide (S':=b::w::T) (pr (zx _))).later ab);have ae:=zk ((lx.of_below ab:lx [b] w wX));have bd:=zk (zx wX);have af:∀ W:zv,wX.heap.size≤W→∀ i∈b::w::T,i<W:=fun W hWz i hi=>by simp only [zt] at hi;rcases hi with rfl|rfl|hi;all_goals first|omega|(have:=h.tlt i hi;omega)
 have d6:=zk af;have H:=zk h;have HB:=zk ab;clear af kE;obtain ⟨al,am,an,ao,aq,ar,au,av,aw,ax,ay,az,a0,a1,a2,a3⟩:=ac.out.all8;obtain ⟨a4,a5,a6,a7,a8,a9,ba,bb⟩:=ad.out.all4;have g0:¬ g.l.length=0:=hg0;have g1:(0:Int)<(g.l.length:Int):=lg;have cpu:=fun W (hk:l6 W b (edC true (some ⟨rb,0,none⟩) ⟨#[]⟩ m u ro true g) 100) (hT:qg T W) (hu:tf (b::T) W u) (hg:sv (b::T) W g)=>BV hk hT hu g hg bc.out.1 bc.out.2 bq.out;have br:=zk cpu;clear h ab hz cpu;go_enter func125,ntmps125;replace aa:=zk (aa.out.wide (S':=b::T) (fun i hi=>.inl (by simp only [zt] at hi ⊢;rcases hi with h|h <;> simp [h])));go_wp2_with fail;refine (br.out _ ac.out (fun i hi=>zz (H.out.tlt i hi) ae.out.size) aa.out.u aa.out.g).mono ?_;rintro e wP ⟨rfl,⟨ua,ul,uc⟩,hul,be,hsu,ha⟩;clear al am an ao aq ar au av aw ax ay az a0 a1 a2 a3 a4 a5 a6 a7 a8 a9 ba bb;have ag:=zk (be);have ah:=zk (ad.out.apart ha lu);have bf:=zk (aa.out.apart (ha.more li));have bg:=zk (ae.out.trans ha li);have bh:=zk (zu bd.out ha.size);have bp:=zk hul;have bi:=zk (hsu);clear ha hul be hsu hwX ac ad aa ae bd;obtain ⟨bx,bz,b3,b4,b5,b6,b7,b8,b9,ca,cb,cc,cd,ce,cf,cg⟩:=ag.out.all8;obtain ⟨ch,ci,cj,ck,cl,cm,cn,co⟩:=ah.out.all4;have kO:l6 (wP.setCell ⟨b,6,none⟩ (zq false)) (b) #[zq true,zr (some ⟨rb,0,none⟩),zn ⟨#[]⟩,zm m.a m.l.length m.c,zm ua ul.length uc,zm ro.a ro.l.length ro.c,zq false,zm g.a g.l.length g.c] 100:=(ag.out.set 6 _);have kE:l6 (wP.setCell ⟨b,6,none⟩ (zq false)) (w) #[zo zp k,zo zp i,zo zp n,zn x] 50:=(ah.out.other ⟨b,6,none⟩ (by show b≠w;omega) _);have ap:lx (b::T) wP (wP.setCell ⟨b,6,none⟩ (zq false)):=(lx.refl (b::T) wP).setCell (p:=⟨b,6,none⟩) (.inl li) _;have rS:=bf.out.apart ap;have rU:=bi.out.apart ap;have hB:=((bg.out.setCell (p:=⟨b,6,none⟩) li _):lx [b] w (wP.setCell ⟨b,6,none⟩ (zq false)));have hz:(wP.setCell ⟨b,6,none⟩ (zq false)).heap.size=wP:=li;obtain ⟨v2,bs⟩:∃ V,(wP.setCell ⟨b,6,none⟩ (zq false))=V:=⟨_,rfl⟩;rw [bs] at kO kE rS rU hB hz;have ai:=zk kO;have aj:=zk kE;have bj:=zk rS;have bk:=zk rU;have bl:=zk hB;have bm:=zk (zu bh.out (Af hz.symm));clear kO kE rS rU hB hz ap ag ah bf bi bg bh;obtain ⟨cp,cq,cr,ct,cu,cv,cw,cx,cy,cz,c3,c4,c5,c6,c7,c8⟩:=ai.out.all8;obtain ⟨c9,da,db,dc,dd,de,df,dg⟩:=aj.out.all4;have kO:l6 (v2.setCell ⟨b,7,none⟩ (zm none 0 0)) (b) #[zq true,zr (some ⟨rb,0,none⟩),zn ⟨#[]⟩,zm m.a m.l.length m.c,zm ua ul.length uc,zm ro.a ro.l.length ro.c,zq false,zm none 0 0] 100:=(ai.out.set 7 _);have kE:l6 (v2.setCell ⟨b,7,none⟩ (zm none 0 0)) (w) #[zo zp k,zo zp i,zo zp n,zn x] 50:=(aj.out.other ⟨b,7,none⟩ (by show b≠w;omega) _);have ap:lx (b::T) v2 (v2.setCell ⟨b,7,none⟩ (zm none 0 0)):=(lx.refl (b::T) v2).setCell (p:=⟨b,7,none⟩) (.inl li) _;have rS:=bj.out.apart ap;have rU:=bk.out.apart ap;have hB:=((bl.out.setCell (p:=⟨b,7,none⟩) li _):lx [b] w (v2.setCell ⟨b,7,none⟩ (zm none 0 0)));have hz:(v2.setCell ⟨b,7,none⟩ (zm none 0 0)).heap.size=v2:=li;obtain ⟨v3,bu⟩:∃ V,(v2.setCell ⟨b,7,none⟩ (zm none 0 0))=V:=⟨_,rfl⟩;rw [bu] at kO kE rS rU hB hz;have bn:=zk kO;have bv:=zk kE;have bo:=zk rS;have bw:=zk rU;have ak:=zk hB;have d7:=zk (zu bm.out (Af hz.symm));clear kO kE rS rU hB hz ap ai aj bj bk bl bm;obtain ⟨dh,di,dj,dk,dl,dm,dn,dp,dq,dr,ds,dt,du,dv,dw,dx⟩:=bn.out.all8;obtain ⟨dy,dz,d0,d1,d2,d3,d4,d5⟩:=bv.out.all4;go_wp2;go_ret;have hie:=qY H.out.inv;rw [HE.out] at hie;have h4:mf ul=np (mf u.l) g.l:=bp.out;exact ⟨⟨t,m,⟨ua,ul,uc⟩,ro,false,⟨none,[],0⟩⟩,rb,p,L,rfl,⟨bn.out,H.out.rope.apart H.out.blk rfl ak.out,⟨bo.out.m,bw.out,bo.out.r,sv.empty _ _⟩,H.out.ml,H.out.mc,(by show mx ⟨t,m.l,mf ul,mf ro.l,false,[]⟩;rw [h4];exact hie),fun i hi=>zz (H.out.tlt i hi) (ak.out).size⟩,(by show (⟨t,m.l,mf ul,mf ro.l,false,[]⟩:mg)=_;rw [h4]),ak.out⟩
set_option maxHeartbeats 1600000 in
theorem vL {m:qx} {u ro:o7} {g:mo} (h:n7 T w b ⟨t,m,u,ro,so,g⟩ rb p L) (k i n:Int) (x:ByteArray) (hx:x.size≤Aq) (h1:mv x.data.toList=false):Aa prog 120 #[zr (some ⟨b,0,none⟩),(Ai #[zo zp k,zo zp i,zo zp n,zn x])] w (nk T w b ((l7.d ⟨t,m,u,ro,so,g⟩),7)):=by
 have hbl:b<w:=h.lt;obtain ⟨wX,hwX,kE,aa,hz⟩:=n8 w #[zo zp k,zo zp i,zo zp n,zn x] 50;have ad:=zk (show l6 wX b #[zq true,zr (some ⟨rb,0,none⟩),zn ⟨#[]⟩,zm m.a m.l.length m.c,zm u.a u.l.length u.c,zm ro.a ro.l.length ro.c,zq so,zm g.a g.l.length g.c] 100 from h.blk.onto aa);have ae:=zk (kE);have af:=zk ((h.rows.wide (S':=b::w::T) (pr (zx _))).later aa);have ab:=zk ((lx.of_below aa:lx [b] w wX));have a7:=zk (zx wX);have ac:∀ W:zv,wX.heap.size≤W→∀ i∈b::w::T,i<W:=fun W hWz i hi=>by simp only [zt] at hi;rcases hi with rfl|rfl|hi;all_goals first|omega|(have:=h.tlt i hi;omega)
 have a8:=zk ac;have H:=zk h;have HB:=zk aa;clear ac kE;obtain ⟨ag,ah,ai,aj,ak,al,am,an,ao,aq,ar,au,av,aw,ax,ay⟩:=ad.out.all8;obtain ⟨az,a0,a1,a2,a3,a4,a5,a6⟩:=ae.out.all4;have c1:=bJ x hx;rw [h1] at c1;have C1:=zk c1;clear h aa hz c1 h1;go_enter func120,ntmps120;go_wp2_with fail;refine (C1.out _).mono ?_;rintro e w1 ⟨rfl,rfl⟩;go_wp2;go_ret;exact ⟨⟨t,m,u,ro,so,g⟩,rb,p,L,rfl,⟨ad.out,H.out.rope.apart H.out.blk rfl ab.out,af.out.wide (fun i hi=>.inl (by simp only [zt] at hi ⊢;rcases hi with h|h <;> simp [h])),H.out.ml,H.out.mc,H.out.inv,fun i hi=>zz (H.out.tlt i hi) (ab.out).size⟩,rfl,ab.out⟩
set_option maxHeartbeats 1600000 in
theorem uK {m:qx} {u ro:o7} {g:mo} (h:n7 T w b ⟨t,m,u,ro,so,g⟩ rb p L) (k i n:Int) (x:ByteArray) (hx:x.size≤Aq) (h1:mv x.data.toList=true) (h2:i<0):Aa prog 120 #[zr (some ⟨b,0,none⟩),(Ai #[zo zp k,zo zp i,zo zp n,zn x])] w (nk T w b ((l7.d ⟨t,m,u,ro,so,g⟩),3)):=by
 have hbl:b<w:=h.lt;obtain ⟨wX,hwX,kE,aa,hz⟩:=n8 w #[zo zp k,zo zp i,zo zp n,zn x] 50;have ac:=zk (show l6 wX b #[zq true,zr (some ⟨rb,0,none⟩),zn ⟨#[]⟩,zm m.a m.l.length m.c,zm u.a u.l.length u.c,zm ro.a ro.l.length ro.c,zq so,zm g.a g.l.length g.c] 100 from h.blk.onto aa);have ab:=zk (kE);have a6:=zk ((h.rows.wide (S':=b::w::T) (pr (zx _))).later aa);have ad:=zk ((lx.of_below aa:lx [b] w wX));have a7:=zk (zx wX);have ae:∀ W:zv,wX.heap.size≤W→∀ i∈b::w::T,i<W:=fun W hWz i hi=>by simp only [zt] at hi;rcases hi with rfl|rfl|hi;all_goals first|omega|(have:=h.tlt i hi;omega)
 have a8:=zk ae;have H:=zk h;have HB:=zk aa;clear ae kE;obtain ⟨af,ag,ah,ai,aj,ak,al,am,an,ao,aq,ar,au,av,aw,ax⟩:=ac.out.all8;obtain ⟨ay,az,a0,a1,a2,a3,a4,a5⟩:=ab.out.all4;have c1:=bJ x hx;rw [h1] at c1;have C1:=zk c1;clear c1 h1;have hfs:∀ W,Below wX wX W→(W ⟨b,1,none⟩=some (zr (some ⟨rb,0,none⟩))∧W ⟨b,3,none⟩=some (zm m.a m.l.length m.c))∧W ⟨w,0,none⟩=some (zo zp k)∧W ⟨w,1,none⟩=some (zo zp i)∧W ⟨w,2,none⟩=some (zo zp n)∧W ⟨w,3,none⟩=some (zn x):=fun W h=>⟨⟨(ac.out.onto h).cell 1 _ rfl,(ac.out.onto h).cell 3 _ rfl⟩,(ab.out.onto h).cell 0 _ rfl,(ab.out.onto h).cell 1 _ rfl,(ab.out.onto h).cell 2 _ rfl,(ab.out.onto h).cell 3 _ rfl⟩;have FS:=zk hfs;clear hfs;have d2:decide (i<0)=true:=decide_eq_true h2;clear h aa hz;go_enter func120,ntmps120;go_wp2_with fail;refine (C1.out _).mono ?_;rintro e w1 ⟨rfl,rfl⟩;clear hwX;go_wp2_with fail;clear af ag ah ai aj ak al am an ao aq ar au av aw ax ay az a0 a1 a2 a3 a4 a5;refine Ah (S:=(fun W:zv=>(W ⟨b,1,none⟩=some (zr (some ⟨rb,0,none⟩))∧W ⟨b,3,none⟩=some (zm m.a m.l.length m.c))∧W ⟨w,0,none⟩=some (zo zp k)∧W ⟨w,1,none⟩=some (zo zp i)∧W ⟨w,2,none⟩=some (zo zp n)∧W ⟨w,3,none⟩=some (zn x))) lh (FS.out _ (Below.refl _ _).drew) (fun hHeld=>?_);refine lz 0 ?_;refine lz 1 ?_;refine lz 2 ?_;refine lz 3 ?_;refine A5 (i:=4) (v:=A6) (by simp only [rg];rfl) lh lh lh (fun _ _ _ h=>by exact h) (Or.inr ⟨lm,rfl⟩) ln ?_
 try simp only [zw,mj]
 refine A5 (i:=5) (v:=A6) (by simp only [rg];rfl) lh lh lh (fun _ _ _ h=>by exact h) (Or.inr ⟨lm,rfl⟩) ln ?_
 try simp only [zw,mj]
 refine A5 (i:=6) (v:=A6) (by simp only [rg];rfl) lh lh lh (fun _ _ _ h=>by exact h) (Or.inr ⟨lm,rfl⟩) ln ?_
 try simp only [zw,mj]
 refine A5 (i:=7) (v:=A6) (by simp only [rg];rfl) lh lh lh (fun _ _ _ h=>by exact h) (Or.inr ⟨lm,rfl⟩) ln ?_
 try simp only [zw,mj]
 refine A5 (i:=8) (v:=A6) (by simp only [rg];rfl) lh lh lh (fun _ _ _ h=>by exact h) (Or.inr ⟨lm,rfl⟩) ln ?_
 try simp only [zw,mj]
 refine lz 9 ?_;refine lz 10 ?_;refine Ae lh ?_ _;go_wp2;go_ret;exact ⟨⟨t,m,u,ro,so,g⟩,rb,p,L,rfl,⟨(ac.out.drewN 1),H.out.rope.apart H.out.blk rfl (ad.out.drewN 1),(a6.out.later (Below.refl _ _).drew).wide (fun i hi=>.inl (by simp only [zt] at hi ⊢;rcases hi with h|h <;> simp [h])),H.out.ml,H.out.mc,H.out.inv,fun i hi=>zz (H.out.tlt i hi) ((ad.out.drewN 1)).size⟩,rfl,(ad.out.drewN 1)⟩
set_option maxHeartbeats 1600000 in
theorem rA {m:qx} {u ro:o7} {g:mo} (h:n7 T w b ⟨t,m,u,ro,so,g⟩ rb p L) (k i n:Int) (x:ByteArray) (hx:x.size≤Aq) (h1:mv x.data.toList=true) (h2:(t.size:Int)<i):Aa prog 120 #[zr (some ⟨b,0,none⟩),(Ai #[zo zp k,zo zp i,zo zp n,zn x])] w (nk T w b ((l7.d ⟨t,m,u,ro,so,g⟩),3)):=by
 have hbl:b<w:=h.lt;obtain ⟨wX,hwX,kE,ab,hz⟩:=n8 w #[zo zp k,zo zp i,zo zp n,zn x] 50;have ad:=zk (show l6 wX b #[zq true,zr (some ⟨rb,0,none⟩),zn ⟨#[]⟩,zm m.a m.l.length m.c,zm u.a u.l.length u.c,zm ro.a ro.l.length ro.c,zq so,zm g.a g.l.length g.c] 100 from h.blk.onto ab);have ac:=zk (kE);have a8:=zk ((h.rows.wide (S':=b::w::T) (pr (zx _))).later ab);have a9:=zk ((lx.of_below ab:lx [b] w wX));have ba:=zk (zx wX);have ae:∀ W:zv,wX.heap.size≤W→∀ i∈b::w::T,i<W:=fun W hWz i hi=>by simp only [zt] at hi;rcases hi with rfl|rfl|hi;all_goals first|omega|(have:=h.tlt i hi;omega)
 have bd:=zk ae;have H:=zk h;have HB:=zk ab;clear ae kE;obtain ⟨ag,ah,ai,aj,ak,al,am,an,ao,aq,ar,au,av,aw,ax,ay⟩:=ad.out.all8;obtain ⟨az,a0,a1,a2,a3,a4,a5,a6⟩:=ac.out.all4;have c1:=bJ x hx;rw [h1] at c1;have C1:=zk c1;clear c1 h1;have hnw:=fun W (hW:Below wX wX W)=>qD (Nw.some (ad.out.onto hW)) ((h.rope.later ab).later hW);have CL:=zk hnw;clear hnw;have hfs:∀ W,Below wX wX W→(W ⟨b,1,none⟩=some (zr (some ⟨rb,0,none⟩))∧W ⟨b,3,none⟩=some (zm m.a m.l.length m.c))∧W ⟨w,0,none⟩=some (zo zp k)∧W ⟨w,1,none⟩=some (zo zp i)∧W ⟨w,2,none⟩=some (zo zp n)∧W ⟨w,3,none⟩=some (zn x):=fun W h=>⟨⟨(ad.out.onto h).cell 1 _ rfl,(ad.out.onto h).cell 3 _ rfl⟩,(ac.out.onto h).cell 0 _ rfl,(ac.out.onto h).cell 1 _ rfl,(ac.out.onto h).cell 2 _ rfl,(ac.out.onto h).cell 3 _ rfl⟩;have FS:=zk hfs;clear hfs;have g2:¬ i<0:=lg;have d2:decide (i<0)=false:=decide_eq_false g2;clear h ab hz;go_enter func120,ntmps120;go_wp2_with fail;refine (C1.out _).mono ?_;rintro e w1 ⟨rfl,rfl⟩;clear hwX;go_wp2_with fail;clear ag ah ai aj ak al am an ao aq ar au av aw ax ay az a0 a1 a2 a3 a4 a5 a6;refine Ah (S:=(fun W:zv=>(W ⟨b,1,none⟩=some (zr (some ⟨rb,0,none⟩))∧W ⟨b,3,none⟩=some (zm m.a m.l.length m.c))∧W ⟨w,0,none⟩=some (zo zp k)∧W ⟨w,1,none⟩=some (zo zp i)∧W ⟨w,2,none⟩=some (zo zp n)∧W ⟨w,3,none⟩=some (zn x))) lh (FS.out _ (Below.refl _ _).drew) (fun hHeld=>?_);refine lz 0 ?_;refine lz 1 ?_;refine lz 2 ?_;refine lz 3 ?_;refine lz 4 ?_;refine lz 5 ?_;refine lz 6 ?_;refine m8 7 fun K hK=>?_;go_simp
 (go_at_call 149;refine (CL.out _ (Below.refl _ _).drew).mono ?_;rintro e w1 ⟨rfl,a7⟩;have aa:Below wX wX w1:=(Below.refl _ _).drew.trans a7)
 try go_wp2_with fail
 refine hK.out _ _ ?_ (fun hHeld=>?_)
 ·exact FS.out _ aa
 clear hK K
 try simp only [zw,mj]
 refine lz 8 ?_;refine lz 9 ?_;refine lz 10 ?_;refine Ae lh ?_ _;have bb:=zk (ad.out.onto aa);have be:=zk (ac.out.onto aa);have bc:=zk (a8.out.later aa);have af:=zk (a9.out.trans (S':=[]) (.of_below aa) li);have bf:=zk (zu ba.out aa.size);have bg:=zk aa;clear a7 CL aa;go_wp2;go_ret;exact ⟨⟨t,m,u,ro,so,g⟩,rb,p,L,rfl,⟨bb.out,H.out.rope.apart H.out.blk rfl af.out,bc.out.wide (fun i hi=>.inl (by simp only [zt] at hi ⊢;rcases hi with h|h <;> simp [h])),H.out.ml,H.out.mc,H.out.inv,fun i hi=>zz (H.out.tlt i hi) (af.out).size⟩,rfl,af.out⟩
set_option maxHeartbeats 1600000 in
theorem uP {m:qx} {u ro:o7} {g:mo} (h:n7 T w b ⟨t,m,u,ro,so,g⟩ rb p L) (k i n:Int) (x:ByteArray) (hx:x.size≤Aq) (h1:mv x.data.toList=true) (h2:0≤i∧i≤t.size) (h4:me t.data.toList i=false):Aa prog 120 #[zr (some ⟨b,0,none⟩),(Ai #[zo zp k,zo zp i,zo zp n,zn x])] w (nk T w b ((l7.d ⟨t,m,u,ro,so,g⟩),4)):=by
 have hbl:b<w:=h.lt;obtain ⟨wX,hwX,kE,ac,hz⟩:=n8 w #[zo zp k,zo zp i,zo zp n,zn x] 50;have ae:=zk (show l6 wX b #[zq true,zr (some ⟨rb,0,none⟩),zn ⟨#[]⟩,zm m.a m.l.length m.c,zm u.a u.l.length u.c,zm ro.a ro.l.length ro.c,zq so,zm g.a g.l.length g.c] 100 from h.blk.onto ac);have ad:=zk (kE);have b6:=zk ((h.rows.wide (S':=b::w::T) (pr (zx _))).later ac);have b7:=zk ((lx.of_below ac:lx [b] w wX));have b8:=zk (zx wX);have ag:∀ W:zv,wX.heap.size≤W→∀ i∈b::w::T,i<W:=fun W hWz i hi=>by simp only [zt] at hi;rcases hi with rfl|rfl|hi;all_goals first|omega|(have:=h.tlt i hi;omega)
 have cf:=zk ag;have H:=zk h;have HB:=zk ac;clear ag kE;obtain ⟨ai,aj,ak,al,am,an,ao,aq,ar,au,av,aw,ax,ay,az,a0⟩:=ae.out.all8;obtain ⟨a1,a2,a3,a4,a5,a6,a7,a8⟩:=ad.out.all4;have c1:=bJ x hx;rw [h1] at c1;have C1:=zk c1;clear c1 h1;have hnw:=fun W (hW:Below wX wX W)=>qD (Nw.some (ae.out.onto hW)) ((h.rope.later ac).later hW);have CL:=zk hnw;clear hnw;have hfs:∀ W,Below wX wX W→(W ⟨b,1,none⟩=some (zr (some ⟨rb,0,none⟩))∧W ⟨b,3,none⟩=some (zm m.a m.l.length m.c))∧W ⟨w,0,none⟩=some (zo zp k)∧W ⟨w,1,none⟩=some (zo zp i)∧W ⟨w,2,none⟩=some (zo zp n)∧W ⟨w,3,none⟩=some (zn x):=fun W h=>⟨⟨(ae.out.onto h).cell 1 _ rfl,(ae.out.onto h).cell 3 _ rfl⟩,(ad.out.onto h).cell 0 _ rfl,(ad.out.onto h).cell 1 _ rfl,(ad.out.onto h).cell 2 _ rfl,(ad.out.onto h).cell 3 _ rfl⟩;have FS:=zk hfs;clear hfs;have he:=fun W (hW:Below wX wX W)=>gY (q:=i) ((h.rope.later ac).later hW) (by unfold oi;have:=h.inv.z;replace this:t.size≤4096:=this;omega);rw [h4] at he;have CE:=zk he;clear he h4;have g2:¬ i<0:=lg;have d2:decide (i<0)=false:=decide_eq_false g2;have g3:¬ (t.size:Int)<i:=lg;clear h ac hz;go_enter func120,ntmps120;go_wp2_with fail;refine (C1.out _).mono ?_;rintro e w1 ⟨rfl,rfl⟩;clear hwX;go_wp2_with fail;clear ai aj ak al am an ao aq ar au av aw ax ay az a0 a1 a2 a3 a4 a5 a6 a7 a8;refine Ah (S:=(fun W:zv=>(W ⟨b,1,none⟩=some (zr (some ⟨rb,0,none⟩))∧W ⟨b,3,none⟩=some (zm m.a m.l.length m.c))∧W ⟨w,0,none⟩=some (zo zp k)∧W ⟨w,1,none⟩=some (zo zp i)∧W ⟨w,2,none⟩=some (zo zp n)∧W ⟨w,3,none⟩=some (zn x))) lh (FS.out _ (Below.refl _ _).drew) (fun hHeld=>?_);refine lz 0 ?_;refine lz 1 ?_;refine lz 2 ?_;refine lz 3 ?_;refine lz 4 ?_;refine lz 5 ?_;refine lz 6 ?_;refine m8 7 fun K hK=>?_;go_simp
 (go_at_call 149;refine (CL.out _ (Below.refl _ _).drew).mono ?_;rintro e w1 ⟨rfl,bz⟩;have aa:Below wX wX w1:=(Below.refl _ _).drew.trans bz)
 try go_wp2_with fail
 refine hK.out _ _ ?_ (fun hHeld=>?_)
 ·exact FS.out _ aa
 clear hK K
 try simp only [zw,mj]
 refine lz 8 ?_;refine lz 9 ?_;refine lz 10 ?_;refine Ae lh ?_ _;have b3:=zk (ae.out.onto aa);have b4:=zk (ad.out.onto aa);have b9:=zk (b6.out.later aa);have ca:=zk (b7.out.trans (S':=[]) (.of_below aa) li);have cb:=zk (zu b8.out aa.size);have af:=zk aa;clear bz CL aa;obtain ⟨a9,ba,bb,bc,bd,be,bf,bg,bh,bi,bj,bk,bl,bm,bn,bo⟩:=b3.out.all8;obtain ⟨bp,bq,br,bs,bu,bv,bw,bx⟩:=b4.out.all4;go_wp2_with fail;clear a9 ba bb bc bd be bf bg bh bi bj bk bl bm bn bo bp bq br bs bu bv bw bx;refine Ah (S:=(fun W:zv=>(W ⟨b,1,none⟩=some (zr (some ⟨rb,0,none⟩))∧W ⟨b,3,none⟩=some (zm m.a m.l.length m.c))∧W ⟨w,0,none⟩=some (zo zp k)∧W ⟨w,1,none⟩=some (zo zp i)∧W ⟨w,2,none⟩=some (zo zp n)∧W ⟨w,3,none⟩=some (zn x))) lh (FS.out _ (af.out.drew)) (fun hHeld=>?_);refine lz 0 ?_;refine lz 1 ?_;refine lz 2 ?_;refine lz 3 ?_;refine lz 4 ?_;refine lz 5 ?_;refine m8 6 fun K hK=>?_;go_simp
 (go_at_call 113;refine (CE.out _ af.out.drew).mono ?_;rintro e w2 ⟨rfl,b5⟩;have ab:Below w1 w1 w2:=(Below.refl _ _).drew.trans b5;have cc:=zk (af.out.trans (ab.mono af.out.size)))
 try go_wp2_with fail
 refine hK.out _ _ ?_ (fun hHeld=>?_)
 ·exact FS.out _ cc.out
 clear hK K
 try simp only [zw,mj]
 refine lz 7 ?_;refine lz 8 ?_;refine Ae lh ?_ _;have cd:=zk (b3.out.onto ab);have cg:=zk (b4.out.onto ab);have ce:=zk (b9.out.later ab);have ah:=zk (ca.out.trans (S':=[]) (.of_below ab) li);have ch:=zk (zu cb.out ab.size);clear b5 CE ab;go_wp2;go_ret;exact ⟨⟨t,m,u,ro,so,g⟩,rb,p,L,rfl,⟨cd.out,H.out.rope.apart H.out.blk rfl ah.out,ce.out.wide (fun i hi=>.inl (by simp only [zt] at hi ⊢;rcases hi with h|h <;> simp [h])),H.out.ml,H.out.mc,H.out.inv,fun i hi=>zz (H.out.tlt i hi) (ah.out).size⟩,rfl,ah.out⟩
set_option maxHeartbeats 3200000 in
theorem AX {m:qx} {u ro:o7} {g:mo} (h:n7 T w b ⟨t,m,u,ro,so,g⟩ rb p L) (k i n:Int) (x:ByteArray) (hx:x.size≤Aq) (h1:mv x.data.toList=true) (h2:0≤i∧i≤t.size) (h4:me t.data.toList i=true) (h5:(qy m.l ⟨x,i⟩).2≠0):Aa prog 120 #[zr (some ⟨b,0,none⟩),(Ai #[zo zp k,zo zp i,zo zp n,zn x])] w (nk T w b ((l7.d ⟨t,m,u,ro,so,g⟩),(qy m.l ⟨x,i⟩).2)):=by
 have hbl:b<w:=h.lt;have h4':=h4;obtain ⟨wX,hwX,kE,ad,hz⟩:=n8 w #[zo zp k,zo zp i,zo zp n,zn x] 50;have ag:=zk (show l6 wX b #[zq true,zr (some ⟨rb,0,none⟩),zn ⟨#[]⟩,zm m.a m.l.length m.c,zm u.a u.l.length u.c,zm ro.a ro.l.length ro.c,zq so,zm g.a g.l.length g.c] 100 from h.blk.onto ad);have ae:=zk (kE);have c6:=zk ((h.rows.wide (S':=b::w::T) (pr (zx _))).later ad);have c7:=zk ((lx.of_below ad:lx [b] w wX));have c8:=zk (zx wX);have ak:∀ W:zv,wX.heap.size≤W→∀ i∈b::w::T,i<W:=fun W hWz i hi=>by simp only [zt] at hi;rcases hi with rfl|rfl|hi;all_goals first|omega|(have:=h.tlt i hi;omega)
 have c9:=zk ak;have H:=zk h;have HB:=zk ad;clear ak kE;obtain ⟨am,an,ao,aq,ar,au,av,aw,ax,ay,az,a0,a1,a2,a4,a5⟩:=ag.out.all8;obtain ⟨a6,a7,a8,a9,ba,bb,bc,bd⟩:=ae.out.all4;have c1:=bJ x hx;rw [h1] at c1;have C1:=zk c1;clear c1 h1;have hnw:=fun W (hW:Below wX wX W)=>qD (Nw.some (ag.out.onto hW)) ((h.rope.later ad).later hW);have CL:=zk hnw;clear hnw;have hfs:∀ W,Below wX wX W→(W ⟨b,1,none⟩=some (zr (some ⟨rb,0,none⟩))∧W ⟨b,3,none⟩=some (zm m.a m.l.length m.c))∧W ⟨w,0,none⟩=some (zo zp k)∧W ⟨w,1,none⟩=some (zo zp i)∧W ⟨w,2,none⟩=some (zo zp n)∧W ⟨w,3,none⟩=some (zn x):=fun W h=>⟨⟨(ag.out.onto h).cell 1 _ rfl,(ag.out.onto h).cell 3 _ rfl⟩,(ae.out.onto h).cell 0 _ rfl,(ae.out.onto h).cell 1 _ rfl,(ae.out.onto h).cell 2 _ rfl,(ae.out.onto h).cell 3 _ rfl⟩;have FS:=zk hfs;clear hfs;have he:=fun W (hW:Below wX wX W)=>gY (q:=i) ((h.rope.later ad).later hW) (by unfold oi;have:=h.inv.z;replace this:t.size≤4096:=this;omega);rw [h4] at he;have CE:=zk he;clear he h4;have cs:=fun W (hW:Below wX wX W)=>sV m.a m.l m.c ⟨x,i⟩ W (tx.pcs ((h.rows.m.later ad).later hW)) h.ml h.mc (zu h.inv.ml lj) hx ((aZ _ _).1 h.inv.m).2.2;skip;obtain ⟨q,hq⟩:∃ q,qy m.l ⟨x,i⟩=q:=⟨_,rfl⟩;rw [hq] at cs h5 ⊢;obtain ⟨ql,qe⟩:=q;have CS:=zk cs;have h5':qe≠0:=h5;have g2:¬ i<0:=lg;have d2:decide (i<0)=false:=decide_eq_false g2;have g3:¬ (t.size:Int)<i:=lg;clear h ad hz cs hq h5;go_enter func120,ntmps120;go_wp2_with fail;refine (C1.out _).mono ?_;rintro e w1 ⟨rfl,rfl⟩;clear hwX;go_wp2_with fail;clear am an ao aq ar au av aw ax ay az a0 a1 a2 a4 a5 a6 a7 a8 a9 ba bb bc bd;refine Ah (S:=(fun W:zv=>(W ⟨b,1,none⟩=some (zr (some ⟨rb,0,none⟩))∧W ⟨b,3,none⟩=some (zm m.a m.l.length m.c))∧W ⟨w,0,none⟩=some (zo zp k)∧W ⟨w,1,none⟩=some (zo zp i)∧W ⟨w,2,none⟩=some (zo zp n)∧W ⟨w,3,none⟩=some (zn x))) lh (FS.out _ (Below.refl _ _).drew) (fun hHeld=>?_);refine lz 0 ?_;refine lz 1 ?_;refine lz 2 ?_;refine lz 3 ?_;refine lz 4 ?_;refine lz 5 ?_;refine lz 6 ?_;refine m8 7 fun K hK=>?_;go_simp
 (go_at_call 149;refine (CL.out _ (Below.refl _ _).drew).mono ?_;rintro e w1 ⟨rfl,cv⟩;have aa:Below wX wX w1:=(Below.refl _ _).drew.trans cv)
 try go_wp2_with fail
 refine hK.out _ _ ?_ (fun hHeld=>?_)
 ·exact FS.out _ aa
 clear hK K
 try simp only [zw,mj]
 refine lz 8 ?_;refine lz 9 ?_;refine lz 10 ?_;refine Ae lh ?_ _;have cw:=zk (ag.out.onto aa);have cx:=zk (ae.out.onto aa);have da:=zk (c6.out.later aa);have db:=zk (c7.out.trans (S':=[]) (.of_below aa) li);have dc:=zk (zu c8.out aa.size);have ah:=zk aa;clear cv CL aa;obtain ⟨be,bf,bg,bh,bi,bj,bk,bl,bm,bn,bo,bp,bq,br,bs,bu⟩:=cw.out.all8;obtain ⟨bv,bw,bx,bz,b3,b4,b5,b6⟩:=cx.out.all4;go_wp2_with fail;clear be bf bg bh bi bj bk bl bm bn bo bp bq br bs bu bv bw bx bz b3 b4 b5 b6;refine Ah (S:=(fun W:zv=>(W ⟨b,1,none⟩=some (zr (some ⟨rb,0,none⟩))∧W ⟨b,3,none⟩=some (zm m.a m.l.length m.c))∧W ⟨w,0,none⟩=some (zo zp k)∧W ⟨w,1,none⟩=some (zo zp i)∧W ⟨w,2,none⟩=some (zo zp n)∧W ⟨w,3,none⟩=some (zn x))) lh (FS.out _ (ah.out.drew)) (fun hHeld=>?_);refine lz 0 ?_;refine lz 1 ?_;refine lz 2 ?_;refine lz 3 ?_;refine lz 4 ?_;refine lz 5 ?_;refine m8 6 fun K hK=>?_;go_simp
 (go_at_call 113;refine (CE.out _ ah.out.drew).mono ?_;rintro e w2 ⟨rfl,cy⟩;have ab:Below w1 w1 w2:=(Below.refl _ _).drew.trans cy;have af:=zk (ah.out.trans (ab.mono ah.out.size)))
 try go_wp2_with fail
 refine hK.out _ _ ?_ (fun hHeld=>?_)
 ·exact FS.out _ af.out
 clear hK K
 try simp only [zw,mj]
 refine lz 7 ?_;refine lz 8 ?_;refine Ae lh ?_ _;have cz:=zk (cw.out.onto ab);have c4:=zk (cx.out.onto ab);have dd:=zk (da.out.later ab);have de:=zk (db.out.trans (S':=[]) (.of_below ab) li);have df:=zk (zu dc.out ab.size);clear cy CE ab;obtain ⟨b7,b8,b9,ai,ca,cb,cc,cd,ce,cf,cg,ch,ci,cj,ck,cl⟩:=cz.out.all8;obtain ⟨cm,cn,co,cp,cq,cr,ct,cu⟩:=c4.out.all4;have q3:w2.drew ⟨b,3,none⟩=some (zm m.a m.l.length m.c):=ai;go_wp2_with fail;clear b7 b8 b9 ai ca cb cc cd ce cf cg ch ci cj ck cl cm cn co cp cq cr ct cu;refine Ah (S:=(fun W:zv=>W ⟨w,0,none⟩=some (zo zp k)∧W ⟨w,1,none⟩=some (zo zp i)∧W ⟨w,2,none⟩=some (zo zp n)∧W ⟨w,3,none⟩=some (zn x))) lh (FS.out _ af.out.drew).2 (fun hHeld=>?_);refine lz 0 ?_;refine lz 1 ?_;refine lz 2 ?_;refine lz 3 ?_;refine lz 4 ?_;refine lz 6 ?_;refine lz 7 ?_;refine lz 8 ?_;refine lz 9 ?_;refine lz 10 ?_;refine m8 5 fun K hK=>?_;go_simp;skip
 try go_wp2_with fail
 refine hK.out _ _ ?_ (fun hHeld=>?_)
 ·exact hHeld
 clear hK K
 try simp only [zw,mj]
 refine m8 11 fun K hK=>?_;go_simp
 (go_at_call 151;refine (CS.out _ af.out.drew).mono ?_;rintro e w3 ⟨a3,c3,rfl,aj,c5⟩;have ac:Below w2 w2 w3:=(Below.refl _ _).drew.trans c5;have dg:=zk (af.out.trans (ac.mono af.out.size)))
 try go_wp2_with fail
 refine hK.out _ _ ?_ (fun hHeld=>?_)
 ·exact (FS.out _ dg.out).2
 clear hK K
 try simp only [zw,mj]
 clear q3;refine lz 12 ?_;refine lz 13 ?_;have dh:=zk (cz.out.onto ac);have dj:=zk (c4.out.onto ac);have di:=zk (dd.out.later ac);have al:=zk (de.out.trans (S':=[]) (.of_below ac) li);have dk:=zk (zu df.out ac.size);have dl:=zk (aj.off (S:=b::w::T) (c9.out _ af.out.size));have dm:=zk (Aj aj.le aj.cap);clear aj c5 ac CS;refine m8 14 fun K hK=>?_;go_simp
 (go_at_call 150;refine (qA _ _ _ _ h5').mono ?_;rintro e w4 ⟨rfl,rfl⟩)
 try go_wp2_with fail
 refine hK.out _ _ ?_ (fun hHeld=>?_)
 ·exact hHeld
 clear hK K
 try simp only [zw,mj]
 refine lz 15 ?_;refine Ae lh ?_ _;go_wp2;go_ret;exact ⟨⟨t,m,u,ro,so,g⟩,rb,p,L,rfl,⟨dh.out,H.out.rope.apart H.out.blk rfl al.out,di.out.wide (fun i hi=>.inl (by simp only [zt] at hi ⊢;rcases hi with h|h <;> simp [h])),H.out.ml,H.out.mc,H.out.inv,fun i hi=>zz (H.out.tlt i hi) (al.out).size⟩,rfl,al.out⟩
set_option maxHeartbeats 3200000 in
theorem AJ {m:qx} {u ro:o7} {g:mo} (h:n7 T w b ⟨t,m,u,ro,so,g⟩ rb p L) (k i n:Int) (x:ByteArray) (hx:x.size≤Aq) (h1:mv x.data.toList=true) (h2:0≤i∧i≤t.size) (h4:me t.data.toList i=true) (h5:(qy m.l ⟨x,i⟩).2=0):Aa prog 120 #[zr (some ⟨b,0,none⟩),(Ai #[zo zp k,zo zp i,zo zp n,zn x])] w (nk T w b (⟨t,(qy m.l ⟨x,i⟩).1,mf u.l,mf ro.l,so,g.l⟩,0)):=by
 have hbl:b<w:=h.lt;have h4':=h4;obtain ⟨wX,hwX,kE,ad,hz⟩:=n8 w #[zo zp k,zo zp i,zo zp n,zn x] 50;have ah:=zk (show l6 wX b #[zq true,zr (some ⟨rb,0,none⟩),zn ⟨#[]⟩,zm m.a m.l.length m.c,zm u.a u.l.length u.c,zm ro.a ro.l.length ro.c,zq so,zm g.a g.l.length g.c] 100 from h.blk.onto ad);have af:=zk (kE);have db:=zk ((h.rows.wide (S':=b::w::T) (pr (zx _))).later ad);have dc:=zk ((lx.of_below ad:lx [b] w wX));have dd:=zk (zx wX);have al:∀ W:zv,wX.heap.size≤W→∀ i∈b::w::T,i<W:=fun W hWz i hi=>by simp only [zt] at hi;rcases hi with rfl|rfl|hi;all_goals first|omega|(have:=h.tlt i hi;omega)
 have de:=zk al;have H:=zk h;have HB:=zk ad;clear al kE;obtain ⟨ao,aq,ar,au,av,aw,ax,ay,az,a0,a1,a2,a4,a5,a6,a7⟩:=ah.out.all8;obtain ⟨a8,a9,ba,bb,bc,bd,be,bf⟩:=af.out.all4;have c1:=bJ x hx;rw [h1] at c1;have C1:=zk c1;clear c1 h1;have hnw:=fun W (hW:Below wX wX W)=>qD (Nw.some (ah.out.onto hW)) ((h.rope.later ad).later hW);have CL:=zk hnw;clear hnw;have hfs:∀ W,Below wX wX W→(W ⟨b,1,none⟩=some (zr (some ⟨rb,0,none⟩))∧W ⟨b,3,none⟩=some (zm m.a m.l.length m.c))∧W ⟨w,0,none⟩=some (zo zp k)∧W ⟨w,1,none⟩=some (zo zp i)∧W ⟨w,2,none⟩=some (zo zp n)∧W ⟨w,3,none⟩=some (zn x):=fun W h=>⟨⟨(ah.out.onto h).cell 1 _ rfl,(ah.out.onto h).cell 3 _ rfl⟩,(af.out.onto h).cell 0 _ rfl,(af.out.onto h).cell 1 _ rfl,(af.out.onto h).cell 2 _ rfl,(af.out.onto h).cell 3 _ rfl⟩;have FS:=zk hfs;clear hfs;have he:=fun W (hW:Below wX wX W)=>gY (q:=i) ((h.rope.later ad).later hW) (by unfold oi;have:=h.inv.z;replace this:t.size≤4096:=this;omega);rw [h4] at he;have CE:=zk he;clear he h4;have cs:=fun W (hW:Below wX wX W)=>sV m.a m.l m.c ⟨x,i⟩ W (tx.pcs ((h.rows.m.later ad).later hW)) h.ml h.mc (zu h.inv.ml lj) hx ((aZ _ _).1 h.inv.m).2.2;have hri:=uB (x:=⟨x,i⟩) h.inv.m h4' h5;have am:=zk hri;clear hri;obtain ⟨q,hq⟩:∃ q,qy m.l ⟨x,i⟩=q:=⟨_,rfl⟩;rw [hq] at cs h5 ⊢;obtain ⟨ql,qe⟩:=q;have CS:=zk cs;replace am:=zk (show nf ql t=true by have e:=am.out;rw [show (qy (l7.d ⟨t,m,u,ro,so,g⟩).m ⟨x,i⟩)=(ql,qe) from hq] at e;exact e);have h5':qe=0:=h5;have g2:¬ i<0:=lg;have d2:decide (i<0)=false:=decide_eq_false g2;have g3:¬ (t.size:Int)<i:=lg;clear h ad hz cs hq h5;subst h5';go_enter func120,ntmps120;go_wp2_with fail;refine (C1.out _).mono ?_;rintro e w1 ⟨rfl,rfl⟩;clear hwX;go_wp2_with fail;clear ao aq ar au av aw ax ay az a0 a1 a2 a4 a5 a6 a7 a8 a9 ba bb bc bd be bf;refine Ah (S:=(fun W:zv=>(W ⟨b,1,none⟩=some (zr (some ⟨rb,0,none⟩))∧W ⟨b,3,none⟩=some (zm m.a m.l.length m.c))∧W ⟨w,0,none⟩=some (zo zp k)∧W ⟨w,1,none⟩=some (zo zp i)∧W ⟨w,2,none⟩=some (zo zp n)∧W ⟨w,3,none⟩=some (zn x))) lh (FS.out _ (Below.refl _ _).drew) (fun hHeld=>?_);refine lz 0 ?_;refine lz 1 ?_;refine lz 2 ?_;refine lz 3 ?_;refine lz 4 ?_;refine lz 5 ?_;refine lz 6 ?_;refine m8 7 fun K hK=>?_;go_simp
 (go_at_call 149;refine (CL.out _ (Below.refl _ _).drew).mono ?_;rintro e w1 ⟨rfl,cx⟩;have aa:Below wX wX w1:=(Below.refl _ _).drew.trans cx)
 try go_wp2_with fail
 refine hK.out _ _ ?_ (fun hHeld=>?_)
 ·exact FS.out _ aa
 clear hK K
 try simp only [zw,mj]
 refine lz 8 ?_;refine lz 9 ?_;refine lz 10 ?_;refine Ae lh ?_ _;have cy:=zk (ah.out.onto aa);have cz:=zk (af.out.onto aa);have df:=zk (db.out.later aa);have dg:=zk (dc.out.trans (S':=[]) (.of_below aa) li);have dh:=zk (zu dd.out aa.size);have ai:=zk aa;clear cx CL aa;obtain ⟨bg,bh,bi,bj,bk,bl,bm,bn,bo,bp,bq,br,bs,bu,bv,bw⟩:=cy.out.all8;obtain ⟨bx,bz,b3,b4,b5,b6,b7,b8⟩:=cz.out.all4;go_wp2_with fail;clear bg bh bi bj bk bl bm bn bo bp bq br bs bu bv bw bx bz b3 b4 b5 b6 b7 b8;refine Ah (S:=(fun W:zv=>(W ⟨b,1,none⟩=some (zr (some ⟨rb,0,none⟩))∧W ⟨b,3,none⟩=some (zm m.a m.l.length m.c))∧W ⟨w,0,none⟩=some (zo zp k)∧W ⟨w,1,none⟩=some (zo zp i)∧W ⟨w,2,none⟩=some (zo zp n)∧W ⟨w,3,none⟩=some (zn x))) lh (FS.out _ (ai.out.drew)) (fun hHeld=>?_);refine lz 0 ?_;refine lz 1 ?_;refine lz 2 ?_;refine lz 3 ?_;refine lz 4 ?_;refine lz 5 ?_;refine m8 6 fun K hK=>?_;go_simp
 (go_at_call 113;refine (CE.out _ ai.out.drew).mono ?_;rintro e w2 ⟨rfl,c4⟩;have ab:Below w1 w1 w2:=(Below.refl _ _).drew.trans c4;have ag:=zk (ai.out.trans (ab.mono ai.out.size)))
 try go_wp2_with fail
 refine hK.out _ _ ?_ (fun hHeld=>?_)
 ·exact FS.out _ ag.out
 clear hK K
 try simp only [zw,mj]
 refine lz 7 ?_;refine lz 8 ?_;refine Ae lh ?_ _;have c5:=zk (cy.out.onto ab);have c6:=zk (cz.out.onto ab);have di:=zk (df.out.later ab);have dj:=zk (dg.out.trans (S':=[]) (.of_below ab) li);have dk:=zk (zu dh.out ab.size);clear c4 CE ab;obtain ⟨b9,ca,cb,aj,cc,cd,ce,cf,cg,ch,ci,cj,ck,cl,cm,cn⟩:=c5.out.all8;obtain ⟨co,cp,cq,cr,ct,cu,cv,cw⟩:=c6.out.all4;have q3:w2.drew ⟨b,3,none⟩=some (zm m.a m.l.length m.c):=aj;go_wp2_with fail;clear b9 ca cb aj cc cd ce cf cg ch ci cj ck cl cm cn co cp cq cr ct cu cv cw;refine Ah (S:=(fun W:zv=>W ⟨w,0,none⟩=some (zo zp k)∧W ⟨w,1,none⟩=some (zo zp i)∧W ⟨w,2,none⟩=some (zo zp n)∧W ⟨w,3,none⟩=some (zn x))) lh (FS.out _ ag.out.drew).2 (fun hHeld=>?_);refine lz 0 ?_;refine lz 1 ?_;refine lz 2 ?_;refine lz 3 ?_;refine lz 4 ?_;refine lz 6 ?_;refine lz 7 ?_;refine lz 8 ?_;refine lz 9 ?_;refine lz 10 ?_;refine m8 5 fun K hK=>?_;go_simp;skip
 try go_wp2_with fail
 refine hK.out _ _ ?_ (fun hHeld=>?_)
 ·exact hHeld
 clear hK K
 try simp only [zw,mj]
 refine m8 11 fun K hK=>?_;go_simp
 (go_at_call 151;refine (CS.out _ ag.out.drew).mono ?_;rintro e w3 ⟨a3,c3,rfl,ak,c7⟩;have ac:Below w2 w2 w3:=(Below.refl _ _).drew.trans c7;have dl:=zk (ag.out.trans (ac.mono ag.out.size)))
 try go_wp2_with fail
 refine hK.out _ _ ?_ (fun hHeld=>?_)
 ·exact (FS.out _ dl.out).2
 clear hK K
 try simp only [zw,mj]
 clear q3;refine lz 12 ?_;refine lz 13 ?_;have dm:=zk (c5.out.onto ac);have dn:=zk (c6.out.onto ac);have an:=zk (di.out.later ac);have dp:=zk (dj.out.trans (S':=[]) (.of_below ac) li);have dr:=zk (zu dk.out ac.size);have dq:=zk (ak.off (S:=b::w::T) (de.out _ ag.out.size));have c8:=zk (Aj ak.le ak.cap);clear ak c7 ac CS;refine m8 14 fun K hK=>?_;go_simp
 (go_at_call 150;refine (BR (made:=true) (r:=some ⟨rb,0,none⟩) (t:=⟨#[]⟩) (m:=m) (u:=u) (ro:=ro) (o:=so) (g:=g) dm.out a3 ql.length c3).mono ?_;rintro e w4 ⟨rfl,c9,da⟩;have ae:=zk (Aj c9 da);clear c9 da)
 try go_wp2_with fail
 refine hK.out _ _ ?_ (fun hHeld=>?_)
 ·exact (by have h:=dn.out.apart ae.out.2 lu;exact ⟨h.cell 0 _ rfl,h.cell 1 _ rfl,h.cell 2 _ rfl,h.cell 3 _ rfl⟩)
 clear hK K
 try simp only [zw,mj]
 refine lz 15 ?_;refine Ae lh ?_ _;have hba:=dp.out.trans ae.out.2 (fun x hx=>.inl hx);go_wp2;go_ret;exact ⟨⟨t,⟨a3,ql,c3⟩,u,ro,so,g⟩,rb,p,L,rfl,⟨ae.out.1,H.out.rope.apart H.out.blk rfl hba,⟨(dq.out.wide (fun i hi=>.inl (by simp only [zt] at hi ⊢;rcases hi with h|h <;> simp [h]))).apart (ae.out.2.more li),(an.out.u.wide (fun i hi=>.inl (by simp only [zt] at hi ⊢;rcases hi with h|h <;> simp [h]))).apart (ae.out.2.more li),(an.out.r.wide (fun i hi=>.inl (by simp only [zt] at hi ⊢;rcases hi with h|h <;> simp [h]))).apart (ae.out.2.more li),(an.out.g.wide (fun i hi=>.inl (by simp only [zt] at hi ⊢;rcases hi with h|h <;> simp [h]))).apart (ae.out.2.more li)⟩,c8.out.1,c8.out.2,iX H.out.inv am.out,fun i hi=>zz (H.out.tlt i hi) (hba).size⟩,rfl,hba⟩
set_option maxHeartbeats 3200000 in
theorem uJ {m:qx} {u ro:o7} {g:mo} (h:n7 T w b ⟨t,m,u,ro,so,g⟩ rb p L) (k i n:Int) (x:ByteArray) (h5:(pk m.l x).2≠0):Aa prog 121 #[zr (some ⟨b,0,none⟩),(Ai #[zo zp k,zo zp i,zo zp n,zn x])] w (nk T w b ((l7.d ⟨t,m,u,ro,so,g⟩),(pk m.l x).2)):=by
 have hbl:b<w:=h.lt;obtain ⟨wX,hwX,kE,ab,hz⟩:=n8 w #[zo zp k,zo zp i,zo zp n,zn x] 50;have ad:=zk (show l6 wX b #[zq true,zr (some ⟨rb,0,none⟩),zn ⟨#[]⟩,zm m.a m.l.length m.c,zm u.a u.l.length u.c,zm ro.a ro.l.length ro.c,zq so,zm g.a g.l.length g.c] 100 from h.blk.onto ab);have ac:=zk (kE);have ba:=zk ((h.rows.wide (S':=b::w::T) (pr (zx _))).later ab);have bb:=zk ((lx.of_below ab:lx [b] w wX));have bc:=zk (zx wX);have ag:∀ W:zv,wX.heap.size≤W→∀ i∈b::w::T,i<W:=fun W hWz i hi=>by simp only [zt] at hi;rcases hi with rfl|rfl|hi;all_goals first|omega|(have:=h.tlt i hi;omega)
 have bd:=zk ag;have H:=zk h;have HB:=zk ab;clear ag kE;obtain ⟨ai,aj,ak,ae,al,am,an,ao,aq,ar,au,av,aw,ax,ay,az⟩:=ad.out.all8;obtain ⟨a0,a1,a2,a4,a5,a6,a7,a8⟩:=ac.out.all4;have hfs:∀ W,Below wX wX W→(W ⟨b,1,none⟩=some (zr (some ⟨rb,0,none⟩))∧W ⟨b,3,none⟩=some (zm m.a m.l.length m.c))∧W ⟨w,0,none⟩=some (zo zp k)∧W ⟨w,1,none⟩=some (zo zp i)∧W ⟨w,2,none⟩=some (zo zp n)∧W ⟨w,3,none⟩=some (zn x):=fun W h=>⟨⟨(ad.out.onto h).cell 1 _ rfl,(ad.out.onto h).cell 3 _ rfl⟩,(ac.out.onto h).cell 0 _ rfl,(ac.out.onto h).cell 1 _ rfl,(ac.out.onto h).cell 2 _ rfl,(ac.out.onto h).cell 3 _ rfl⟩;have FS:=zk hfs;clear hfs;have cs:=fun W (hW:Below wX wX W)=>qC m.a m.l m.c x W (tx.pcs ((h.rows.m.later ab).later hW)) h.ml h.mc (zu h.inv.ml lj) ((aZ _ _).1 h.inv.m).2.2;skip;obtain ⟨q,hq⟩:∃ q,pk m.l x=q:=⟨_,rfl⟩;rw [hq] at cs h5 ⊢;obtain ⟨ql,qe⟩:=q;have CS:=zk cs;have h5':qe≠0:=h5;clear h ab hz cs hq h5;go_enter func121,ntmps121;have q3:wX.drew ⟨b,3,none⟩=some (zm m.a m.l.length m.c):=ae;go_wp2_with fail;clear ai aj ak ae al am an ao aq ar au av aw ax ay az a0 a1 a2 a4 a5 a6 a7 a8;clear hwX;refine Ah (S:=(fun W:zv=>W ⟨w,0,none⟩=some (zo zp k)∧W ⟨w,1,none⟩=some (zo zp i)∧W ⟨w,2,none⟩=some (zo zp n)∧W ⟨w,3,none⟩=some (zn x))) lh (FS.out _ (Below.refl _ _).drew).2 (fun hHeld=>?_);refine lz 0 ?_;refine lz 1 ?_;refine lz 2 ?_;refine lz 3 ?_;refine lz 4 ?_;refine lz 6 ?_;refine lz 7 ?_;refine m8 5 fun K hK=>?_;go_simp;skip
 try go_wp2_with fail
 refine hK.out _ _ ?_ (fun hHeld=>?_)
 ·exact hHeld
 clear hK K
 try simp only [zw,mj]
 refine m8 8 fun K hK=>?_;go_simp
 (go_at_call 152;refine (CS.out _ (Below.refl _ _).drew).mono ?_;rintro e w3 ⟨a3,c3,rfl,af,a9⟩;have aa:Below wX wX w3:=(Below.refl _ _).drew.trans a9)
 try go_wp2_with fail
 refine hK.out _ _ ?_ (fun hHeld=>?_)
 ·exact (FS.out _ aa).2
 clear hK K
 try simp only [zw,mj]
 clear q3;refine lz 9 ?_;refine lz 10 ?_;have be:=zk (ad.out.onto aa);have bg:=zk (ac.out.onto aa);have bf:=zk (ba.out.later aa);have ah:=zk (bb.out.trans (S':=[]) (.of_below aa) li);have bh:=zk (zu bc.out aa.size);have bi:=zk (af.off (S:=b::w::T) (bd.out _ (zx _)));have bj:=zk (Aj af.le af.cap);clear af a9 aa CS;refine m8 11 fun K hK=>?_;go_simp
 (go_at_call 150;refine (qA _ _ _ _ h5').mono ?_;rintro e w4 ⟨rfl,rfl⟩)
 try go_wp2_with fail
 refine hK.out _ _ ?_ (fun hHeld=>?_)
 ·exact hHeld
 clear hK K
 try simp only [zw,mj]
 refine lz 12 ?_;refine Ae lh ?_ _;go_wp2;go_ret;exact ⟨⟨t,m,u,ro,so,g⟩,rb,p,L,rfl,⟨be.out,H.out.rope.apart H.out.blk rfl ah.out,bf.out.wide (fun i hi=>.inl (by simp only [zt] at hi ⊢;rcases hi with h|h <;> simp [h])),H.out.ml,H.out.mc,H.out.inv,fun i hi=>zz (H.out.tlt i hi) (ah.out).size⟩,rfl,ah.out⟩
set_option maxHeartbeats 3200000 in
theorem uS {m:qx} {u ro:o7} {g:mo} (h:n7 T w b ⟨t,m,u,ro,so,g⟩ rb p L) (k i n:Int) (x:ByteArray) (h5:(pk m.l x).2=0):Aa prog 121 #[zr (some ⟨b,0,none⟩),(Ai #[zo zp k,zo zp i,zo zp n,zn x])] w (nk T w b (⟨t,(pk m.l x).1,mf u.l,mf ro.l,so,g.l⟩,0)):=by
 have hbl:b<w:=h.lt;obtain ⟨wX,hwX,kE,ac,hz⟩:=n8 w #[zo zp k,zo zp i,zo zp n,zn x] 50;have ae:=zk (show l6 wX b #[zq true,zr (some ⟨rb,0,none⟩),zn ⟨#[]⟩,zm m.a m.l.length m.c,zm u.a u.l.length u.c,zm ro.a ro.l.length ro.c,zq so,zm g.a g.l.length g.c] 100 from h.blk.onto ac);have ad:=zk (kE);have bf:=zk ((h.rows.wide (S':=b::w::T) (pr (zx _))).later ac);have bg:=zk ((lx.of_below ac:lx [b] w wX));have bh:=zk (zx wX);have ah:∀ W:zv,wX.heap.size≤W→∀ i∈b::w::T,i<W:=fun W hWz i hi=>by simp only [zt] at hi;rcases hi with rfl|rfl|hi;all_goals first|omega|(have:=h.tlt i hi;omega)
 have bi:=zk ah;have H:=zk h;have HB:=zk ac;clear ah kE;obtain ⟨ak,al,am,af,an,ao,aq,ar,au,av,aw,ax,ay,az,a0,a1⟩:=ae.out.all8;obtain ⟨a2,a4,a5,a6,a7,a8,a9,ba⟩:=ad.out.all4;have hfs:∀ W,Below wX wX W→(W ⟨b,1,none⟩=some (zr (some ⟨rb,0,none⟩))∧W ⟨b,3,none⟩=some (zm m.a m.l.length m.c))∧W ⟨w,0,none⟩=some (zo zp k)∧W ⟨w,1,none⟩=some (zo zp i)∧W ⟨w,2,none⟩=some (zo zp n)∧W ⟨w,3,none⟩=some (zn x):=fun W h=>⟨⟨(ae.out.onto h).cell 1 _ rfl,(ae.out.onto h).cell 3 _ rfl⟩,(ad.out.onto h).cell 0 _ rfl,(ad.out.onto h).cell 1 _ rfl,(ad.out.onto h).cell 2 _ rfl,(ad.out.onto h).cell 3 _ rfl⟩;have FS:=zk hfs;clear hfs;have cs:=fun W (hW:Below wX wX W)=>qC m.a m.l m.c x W (tx.pcs ((h.rows.m.later ac).later hW)) h.ml h.mc (zu h.inv.ml lj) ((aZ _ _).1 h.inv.m).2.2;have hri:=sU h.inv.m x h5;have ai:=zk hri;clear hri;obtain ⟨q,hq⟩:∃ q,pk m.l x=q:=⟨_,rfl⟩;rw [hq] at cs h5 ⊢;obtain ⟨ql,qe⟩:=q;have CS:=zk cs;replace ai:=zk (show nf ql t=true by have e:=ai.out;rw [show (pk (l7.d ⟨t,m,u,ro,so,g⟩).m x)=(ql,qe) from hq] at e;exact e);have h5':qe=0:=h5;clear h ac hz cs hq h5;subst h5';go_enter func121,ntmps121;have q3:wX.drew ⟨b,3,none⟩=some (zm m.a m.l.length m.c):=af;go_wp2_with fail;clear ak al am af an ao aq ar au av aw ax ay az a0 a1 a2 a4 a5 a6 a7 a8 a9 ba;clear hwX;refine Ah (S:=(fun W:zv=>W ⟨w,0,none⟩=some (zo zp k)∧W ⟨w,1,none⟩=some (zo zp i)∧W ⟨w,2,none⟩=some (zo zp n)∧W ⟨w,3,none⟩=some (zn x))) lh (FS.out _ (Below.refl _ _).drew).2 (fun hHeld=>?_);refine lz 0 ?_;refine lz 1 ?_;refine lz 2 ?_;refine lz 3 ?_;refine lz 4 ?_;refine lz 6 ?_;refine lz 7 ?_;refine m8 5 fun K hK=>?_;go_simp;skip
 try go_wp2_with fail
 refine hK.out _ _ ?_ (fun hHeld=>?_)
 ·exact hHeld
 clear hK K
 try simp only [zw,mj]
 refine m8 8 fun K hK=>?_;go_simp
 (go_at_call 152;refine (CS.out _ (Below.refl _ _).drew).mono ?_;rintro e w3 ⟨a3,c3,rfl,ag,bb⟩;have aa:Below wX wX w3:=(Below.refl _ _).drew.trans bb)
 try go_wp2_with fail
 refine hK.out _ _ ?_ (fun hHeld=>?_)
 ·exact (FS.out _ aa).2
 clear hK K
 try simp only [zw,mj]
 clear q3;refine lz 9 ?_;refine lz 10 ?_;have bj:=zk (ae.out.onto aa);have bk:=zk (ad.out.onto aa);have aj:=zk (bf.out.later aa);have bl:=zk (bg.out.trans (S':=[]) (.of_below aa) li);have bn:=zk (zu bh.out aa.size);have bm:=zk (ag.off (S:=b::w::T) (bi.out _ (zx _)));have bc:=zk (Aj ag.le ag.cap);clear ag bb aa CS;refine m8 11 fun K hK=>?_;go_simp
 (go_at_call 150;refine (BR (made:=true) (r:=some ⟨rb,0,none⟩) (t:=⟨#[]⟩) (m:=m) (u:=u) (ro:=ro) (o:=so) (g:=g) bj.out a3 ql.length c3).mono ?_;rintro e w4 ⟨rfl,bd,be⟩;have ab:=zk (Aj bd be);clear bd be)
 try go_wp2_with fail
 refine hK.out _ _ ?_ (fun hHeld=>?_)
 ·exact (by have h:=bk.out.apart ab.out.2 lu;exact ⟨h.cell 0 _ rfl,h.cell 1 _ rfl,h.cell 2 _ rfl,h.cell 3 _ rfl⟩)
 clear hK K
 try simp only [zw,mj]
 refine lz 12 ?_;refine Ae lh ?_ _;have hba:=bl.out.trans ab.out.2 (fun x hx=>.inl hx);go_wp2;go_ret;exact ⟨⟨t,⟨a3,ql,c3⟩,u,ro,so,g⟩,rb,p,L,rfl,⟨ab.out.1,H.out.rope.apart H.out.blk rfl hba,⟨(bm.out.wide (fun i hi=>.inl (by simp only [zt] at hi ⊢;rcases hi with h|h <;> simp [h]))).apart (ab.out.2.more li),(aj.out.u.wide (fun i hi=>.inl (by simp only [zt] at hi ⊢;rcases hi with h|h <;> simp [h]))).apart (ab.out.2.more li),(aj.out.r.wide (fun i hi=>.inl (by simp only [zt] at hi ⊢;rcases hi with h|h <;> simp [h]))).apart (ab.out.2.more li),(aj.out.g.wide (fun i hi=>.inl (by simp only [zt] at hi ⊢;rcases hi with h|h <;> simp [h]))).apart (ab.out.2.more li)⟩,bc.out.1,bc.out.2,iX H.out.inv ai.out,fun i hi=>zz (H.out.tlt i hi) (hba).size⟩,rfl,hba⟩
def yy (s:mg) (x:Int) (eo en:ByteArray):mg×Int:=if 512<eo.size+en.size then (s,6) else if eo.size+en.size=0 then (s,0) else pf s ⟨x,eo,en⟩
theorem oG {s:l7} (h:n7 T w b s rb p L) (x:Int) (eo en:ByteArray) (ho:eo.size≤140737488355328) (hn:en.size≤140737488355328) {rb':Nat} {p':Option Ab} {L':List ByteArray} (hap:oq s.t x eo en=(t',0)) (hr:n9 w (some ⟨rb',0,none⟩) p' L' t') :
 Aa prog 146 #[zr (some ⟨b,0,none⟩),zr (some ⟨rb',0,none⟩),vt x eo en] w (nk T w b (yy s.d x eo en)):=by
 obtain ⟨t,m,u,ro,so,g⟩:=s;unfold yy;by_cases h1:512<eo.size+en.size
 ·rw [if_pos h1];exact vK h _ x eo en ho hn h1
 rw [if_neg h1];by_cases h2:eo.size+en.size=0
 ·rw [if_pos h2];exact xQ h _ x eo en ho hn h2
 rw [if_neg h2];cases so with
 | true =>
  by_cases h3:32≤g.l.length
  ·have e:pf (l7.d ⟨t,m,u,ro,true,g⟩) ⟨x,eo,en⟩=(l7.d ⟨t,m,u,ro,true,g⟩,9):=by unfold pf;rw [if_pos ⟨rfl,h3⟩]
   rw [e];exact uW h _ x eo en ho hn lg lg h3
  ·exact xU h x eo en ho hn lg lg hap hr lg
 | false=>exact qZ h x eo en ho hn lg lg hap hr
theorem PZ {s:mg} (h:oj s.t i x=0):yy s i ⟨#[]⟩ x=vd s i x:=by
 unfold yy vd insX;rw [if_neg (show ¬ oj s.t i x≠0 from fun g=>g h),show (⟨#[]⟩:ByteArray).size=0 from rfl,Bs]
theorem NV {s:mg} {n:Int} (h:pa s.t i n=0) (hn:((vl s.t i n).o.size:Int)=n):yy s i (vl s.t i n).o ⟨#[]⟩=ve s i n:=by
 unfold yy ve;rw [if_neg (show ¬ pa s.t i n≠0 from fun g=>g h),show (⟨#[]⟩:ByteArray).size=0 from rfl,Nat.add_zero];by_cases h1:512<(vl s.t i n).o.size
 ·rw [if_pos h1,if_pos (show (512:Int)<n by omega)]
 rw [if_neg h1,if_neg (show ¬ (512:Int)<n by omega)];by_cases h2:(vl s.t i n).o.size=0
 ·rw [if_pos h2,if_pos (show n=0 by omega)]
 rw [if_neg h2,if_neg (show ¬ n=0 by omega)];rfl
set_option maxHeartbeats 1600000 in
theorem yL {m:qx} {u ro:o7} {g:mo} (h:n7 T w b ⟨t,m,u,ro,so,g⟩ rb p L) (k i n:Int) (x:ByteArray) (hx:x.size≤1000000) (hi:oi i) (h1:oj t i x≠0):Aa prog 118 #[zr (some ⟨b,0,none⟩),(Ai #[zo zp k,zo zp i,zo zp n,zn x])] w (nk T w b ((l7.d ⟨t,m,u,ro,so,g⟩),oj t i x)):=by
 have hbl:b<w:=h.lt;obtain ⟨wX,hwX,kE,ab,hz⟩:=n8 w #[zo zp k,zo zp i,zo zp n,zn x] 50;have ad:=zk (show l6 wX b #[zq true,zr (some ⟨rb,0,none⟩),zn ⟨#[]⟩,zm m.a m.l.length m.c,zm u.a u.l.length u.c,zm ro.a ro.l.length ro.c,zq so,zm g.a g.l.length g.c] 100 from h.blk.onto ab);have ac:=zk (kE);have a9:=zk ((h.rows.wide (S':=b::w::T) (pr (zx _))).later ab);have ba:=zk ((lx.of_below ab:lx [b] w wX));have bb:=zk (zx wX);have ae:∀ W:zv,wX.heap.size≤W→∀ i∈b::w::T,i<W:=fun W hWz i hi=>by simp only [zt] at hi;rcases hi with rfl|rfl|hi;all_goals first|omega|(have:=h.tlt i hi;omega)
 have b7:=zk ae;have H:=zk h;have HB:=zk ab;clear ae kE;obtain ⟨ag,ah,ai,aj,ak,al,am,an,ao,aq,ar,au,av,aw,ax,ay⟩:=ad.out.all8;obtain ⟨az,a0,a1,a2,a3,a4,a5,a6⟩:=ac.out.all4;have hfs:∀ W,Below wX wX W→W ⟨b,1,none⟩=some (zr (some ⟨rb,0,none⟩))∧W ⟨w,0,none⟩=some (zo zp k)∧W ⟨w,1,none⟩=some (zo zp i)∧W ⟨w,2,none⟩=some (zo zp n)∧W ⟨w,3,none⟩=some (zn x):=fun W h=>⟨(ad.out.onto h).cell 1 _ rfl,(ac.out.onto h).cell 0 _ rfl,(ac.out.onto h).cell 1 _ rfl,(ac.out.onto h).cell 2 _ rfl,(ac.out.onto h).cell 3 _ rfl⟩;have FS:=zk hfs;clear hfs;have cs:=fun W (hW:Below wX wX W)=>(yS (x:=x) (i:=i) ((h.rope.later ab).later hW) (show t.size≤4096 from h.inv.z) lq hi).mono fun e w' h=>h.no h1;have h1e:(oj t i x == 0)=false:=beq_eq_false_iff_ne.2 h1;obtain ⟨E,hE⟩:∃ E,oj t i x=E:=⟨_,rfl⟩;rw [hE] at cs h1e ⊢;have CS:=zk cs;clear cs h ab hz h1 hi hx hE;go_enter func118,ntmps118;go_wp2_with fail;clear ag ah ai aj ak al am an ao aq ar au av aw ax ay az a0 a1 a2 a3 a4 a5 a6;clear hwX;refine Ah (S:=(fun W:zv=>W ⟨b,1,none⟩=some (zr (some ⟨rb,0,none⟩))∧W ⟨w,0,none⟩=some (zo zp k)∧W ⟨w,1,none⟩=some (zo zp i)∧W ⟨w,2,none⟩=some (zo zp n)∧W ⟨w,3,none⟩=some (zn x))) lh (FS.out _ (Below.refl _ _).drew) (fun hHeld=>?_);refine lz 0 ?_;refine lz 1 ?_;refine lz 2 ?_;refine lz 3 ?_;refine lz 4 ?_;refine lz 5 ?_;refine lz 6 ?_;refine lz 7 ?_;refine m8 8 fun K hK=>?_;go_simp
 (go_at_call 90;refine (CS.out _ (Below.refl _ _).drew).mono ?_;rintro e w1 ⟨rfl,a7⟩;have aa:Below wX wX w1:=(Below.refl _ _).drew.trans a7)
 try go_wp2_with fail
 refine hK.out _ _ ?_ (fun hHeld=>?_)
 ·exact FS.out _ aa
 clear hK K
 try simp only [zw,mj]
 refine lz 9 ?_;refine lz 10 ?_;refine lz 11 ?_;refine lz 12 ?_;refine lz 13 ?_;refine Ae lh ?_ _;have a8:=zk (ad.out.onto aa);have bc:=zk (ac.out.onto aa);have bd:=zk (a9.out.later aa);have af:=zk (ba.out.trans (S':=[]) (.of_below aa) li);have b8:=zk (zu bb.out aa.size);have b9:=zk aa;clear a7 aa CS;obtain ⟨be,bf,bg,bh,bi,bj,bk,bl,bm,bn,bo,bp,bq,br,bs,bu⟩:=a8.out.all8;obtain ⟨bv,bw,bx,bz,b3,b4,b5,b6⟩:=bc.out.all4;go_wp2;go_ret;exact ⟨⟨t,m,u,ro,so,g⟩,rb,p,L,rfl,⟨a8.out,H.out.rope.apart H.out.blk rfl af.out,bd.out.wide (fun i hi=>.inl (by simp only [zt] at hi ⊢;rcases hi with h|h <;> simp [h])),H.out.ml,H.out.mc,H.out.inv,fun i hi=>zz (H.out.tlt i hi) (af.out).size⟩,rfl,af.out⟩
set_option maxHeartbeats 1600000 in
theorem uM {m:qx} {u ro:o7} {g:mo} (h:n7 T w b ⟨t,m,u,ro,so,g⟩ rb p L) (k i n:Int) (x:ByteArray) (hx:x.size≤1000000) (hi:oi i) (h1:oj t i x=0):Aa prog 118 #[zr (some ⟨b,0,none⟩),(Ai #[zo zp k,zo zp i,zo zp n,zn x])] w (nk T w b (vd (l7.d ⟨t,m,u,ro,so,g⟩) i x)):=by
 have hbl:b<w:=h.lt;obtain ⟨wX,hwX,kE,ab,hz⟩:=n8 w #[zo zp k,zo zp i,zo zp n,zn x] 50;have ad:=zk (show l6 wX b #[zq true,zr (some ⟨rb,0,none⟩),zn ⟨#[]⟩,zm m.a m.l.length m.c,zm u.a u.l.length u.c,zm ro.a ro.l.length ro.c,zq so,zm g.a g.l.length g.c] 100 from h.blk.onto ab);have ac:=zk (kE);have b4:=zk ((h.rows.wide (S':=b::w::T) (pr (zx _))).later ab);have b5:=zk ((lx.of_below ab:lx [b] w wX));have b6:=zk (zx wX);have ae:∀ W:zv,wX.heap.size≤W→∀ i∈b::w::T,i<W:=fun W hWz i hi=>by simp only [zt] at hi;rcases hi with rfl|rfl|hi;all_goals first|omega|(have:=h.tlt i hi;omega)
 have cc:=zk ae;have H:=zk h;have HB:=zk ab;clear ae kE;obtain ⟨af,ag,ah,ai,aj,ak,al,am,an,ao,aq,ar,au,av,aw,ax⟩:=ad.out.all8;obtain ⟨ay,az,a0,a1,a2,a3,a4,a5⟩:=ac.out.all4;have hfs:∀ W,Below wX wX W→W ⟨b,1,none⟩=some (zr (some ⟨rb,0,none⟩))∧W ⟨w,0,none⟩=some (zo zp k)∧W ⟨w,1,none⟩=some (zo zp i)∧W ⟨w,2,none⟩=some (zo zp n)∧W ⟨w,3,none⟩=some (zn x):=fun W h=>⟨(ad.out.onto h).cell 1 _ rfl,(ac.out.onto h).cell 0 _ rfl,(ac.out.onto h).cell 1 _ rfl,(ac.out.onto h).cell 2 _ rfl,(ac.out.onto h).cell 3 _ rfl⟩;have FS:=zk hfs;clear hfs;have cs:=fun W (hW:Below wX wX W)=>(yS (x:=x) (i:=i) ((h.rope.later ab).later hW) (show t.size≤4096 from h.inv.z) lq hi).mono fun e w' h=>h.yes h1;have ce:=fun W (hW:Below wX wX W) {rb':Nat} {p':Option Ab} {L':List ByteArray} (hR:n9 W (some ⟨rb',0,none⟩) p' L' (s8 t i x))=>oG ((h.later ab).later hW) i ⟨#[]⟩ x (Ap _) lg (BE h1) hR;rw [PZ (s:=l7.d ⟨t,m,u,ro,so,g⟩) h1] at ce;obtain ⟨R,hR⟩:∃ R,vd (l7.d ⟨t,m,u,ro,so,g⟩) i x=R:=⟨_,rfl⟩;rw [hR] at ce ⊢;obtain ⟨Rs,Re⟩:=R;have CE:=zk ce;clear ce hR;have CS:=zk cs;clear cs h ab hz h1 hi hx;go_enter func118,ntmps118;go_wp2_with fail;clear af ag ah ai aj ak al am an ao aq ar au av aw ax ay az a0 a1 a2 a3 a4 a5;clear hwX;refine Ah (S:=(fun W:zv=>W ⟨b,1,none⟩=some (zr (some ⟨rb,0,none⟩))∧W ⟨w,0,none⟩=some (zo zp k)∧W ⟨w,1,none⟩=some (zo zp i)∧W ⟨w,2,none⟩=some (zo zp n)∧W ⟨w,3,none⟩=some (zn x))) lh (FS.out _ (Below.refl _ _).drew) (fun hHeld=>?_);refine lz 0 ?_;refine lz 1 ?_;refine lz 2 ?_;refine lz 3 ?_;refine lz 4 ?_;refine lz 5 ?_;refine lz 6 ?_;refine lz 7 ?_;refine m8 8 fun K hK=>?_;go_simp
 (go_at_call 90;refine (CS.out _ (Below.refl _ _).drew).mono ?_;rintro e w1 ⟨rb',p',L',rfl,bv,bw⟩;have aa:Below wX wX w1:=(Below.refl _ _).drew.trans bw)
 try go_wp2_with fail
 refine hK.out _ _ ?_ (fun hHeld=>?_)
 ·exact FS.out _ aa
 clear hK K
 try simp only [zw,mj]
 refine lz 9 ?_;refine lz 10 ?_;refine lz 11 ?_;refine lz 12 ?_;refine lz 13 ?_;refine Ae lh ?_ _;have b7:=zk (ad.out.onto aa);have b8:=zk (ac.out.onto aa);have cd:=zk (b4.out.later aa);have b9:=zk (b5.out.trans (S':=[]) (.of_below aa) li);have cf:=zk (zu b6.out aa.size);have ca:=zk aa;clear bw aa CS;have cb:=zk bv;clear bv;obtain ⟨a6,a7,a8,a9,ba,bb,bc,bd,be,bf,bg,bh,bi,bj,bk,bl⟩:=b7.out.all8;obtain ⟨bm,bn,bo,bp,bq,br,bs,bu⟩:=b8.out.all4;go_wp2_with fail;refine (CE.out _ ca.out cb.out).mono ?_;rintro e w2 ⟨s2,rb2,p2,L2,rfl,bx,bz,b3⟩;have HQ:=zk (Aj bx (Aj bz b3));clear bx bz b3;clear a6 a7 a8 a9 ba bb bc bd be bf bg bh bi bj bk bl bm bn bo bp bq br bs bu;go_wp2;go_ret;exact ⟨s2,rb2,p2,L2,rfl,HQ.out.1,HQ.out.2.1,b9.out.trans HQ.out.2.2 (fun x hx=>.inl hx)⟩
set_option maxHeartbeats 1600000 in
theorem vX {m:qx} {u ro:o7} {g:mo} (h:n7 T w b ⟨t,m,u,ro,so,g⟩ rb p L) (k i n:Int) (x:ByteArray) (hi:oi i) (h1:pa t i n≠0):Aa prog 119 #[zr (some ⟨b,0,none⟩),(Ai #[zo zp k,zo zp i,zo zp n,zn x])] w (nk T w b ((l7.d ⟨t,m,u,ro,so,g⟩),pa t i n)):=by
 have hbl:b<w:=h.lt;obtain ⟨wX,hwX,kE,ab,hz⟩:=n8 w #[zo zp k,zo zp i,zo zp n,zn x] 50;have ad:=zk (show l6 wX b #[zq true,zr (some ⟨rb,0,none⟩),zn ⟨#[]⟩,zm m.a m.l.length m.c,zm u.a u.l.length u.c,zm ro.a ro.l.length ro.c,zq so,zm g.a g.l.length g.c] 100 from h.blk.onto ab);have ac:=zk (kE);have a9:=zk ((h.rows.wide (S':=b::w::T) (pr (zx _))).later ab);have ba:=zk ((lx.of_below ab:lx [b] w wX));have bb:=zk (zx wX);have ae:∀ W:zv,wX.heap.size≤W→∀ i∈b::w::T,i<W:=fun W hWz i hi=>by simp only [zt] at hi;rcases hi with rfl|rfl|hi;all_goals first|omega|(have:=h.tlt i hi;omega)
 have b7:=zk ae;have H:=zk h;have HB:=zk ab;clear ae kE;obtain ⟨ag,ah,ai,aj,ak,al,am,an,ao,aq,ar,au,av,aw,ax,ay⟩:=ad.out.all8;obtain ⟨az,a0,a1,a2,a3,a4,a5,a6⟩:=ac.out.all4;have hfs:∀ W,Below wX wX W→W ⟨b,1,none⟩=some (zr (some ⟨rb,0,none⟩))∧W ⟨w,0,none⟩=some (zo zp k)∧W ⟨w,1,none⟩=some (zo zp i)∧W ⟨w,2,none⟩=some (zo zp n)∧W ⟨w,3,none⟩=some (zn x):=fun W h=>⟨(ad.out.onto h).cell 1 _ rfl,(ac.out.onto h).cell 0 _ rfl,(ac.out.onto h).cell 1 _ rfl,(ac.out.onto h).cell 2 _ rfl,(ac.out.onto h).cell 3 _ rfl⟩;have FS:=zk hfs;clear hfs;have cs:=fun W (hW:Below wX wX W)=>(GZ (n:=n) (i:=i) ((h.rope.later ab).later hW) (show t.size≤4096 from h.inv.z) hi).mono fun e w' h=>h.no h1;have h1e:(pa t i n == 0)=false:=beq_eq_false_iff_ne.2 h1;obtain ⟨E,hE⟩:∃ E,pa t i n=E:=⟨_,rfl⟩;rw [hE] at cs h1e ⊢;have CS:=zk cs;clear cs h ab hz h1 hi hE;go_enter func119,ntmps119;go_wp2_with fail;clear ag ah ai aj ak al am an ao aq ar au av aw ax ay az a0 a1 a2 a3 a4 a5 a6;clear hwX;refine Ah (S:=(fun W:zv=>W ⟨b,1,none⟩=some (zr (some ⟨rb,0,none⟩))∧W ⟨w,0,none⟩=some (zo zp k)∧W ⟨w,1,none⟩=some (zo zp i)∧W ⟨w,2,none⟩=some (zo zp n)∧W ⟨w,3,none⟩=some (zn x))) lh (FS.out _ (Below.refl _ _).drew) (fun hHeld=>?_);refine lz 0 ?_;refine lz 1 ?_;refine lz 2 ?_;refine lz 3 ?_;refine lz 4 ?_;refine lz 5 ?_;refine lz 6 ?_;refine lz 7 ?_;refine m8 8 fun K hK=>?_;go_simp
 (go_at_call 147;refine (CS.out _ (Below.refl _ _).drew).mono ?_;rintro e w1 ⟨rfl,a7⟩;have aa:Below wX wX w1:=(Below.refl _ _).drew.trans a7)
 try go_wp2_with fail
 refine hK.out _ _ ?_ (fun hHeld=>?_)
 ·exact FS.out _ aa
 clear hK K
 try simp only [zw,mj]
 refine lz 9 ?_;refine lz 10 ?_;refine lz 11 ?_;refine lz 12 ?_;refine lz 13 ?_;refine Ae lh ?_ _;have a8:=zk (ad.out.onto aa);have bc:=zk (ac.out.onto aa);have bd:=zk (a9.out.later aa);have af:=zk (ba.out.trans (S':=[]) (.of_below aa) li);have b8:=zk (zu bb.out aa.size);have b9:=zk aa;clear a7 aa CS;obtain ⟨be,bf,bg,bh,bi,bj,bk,bl,bm,bn,bo,bp,bq,br,bs,bu⟩:=a8.out.all8;obtain ⟨bv,bw,bx,bz,b3,b4,b5,b6⟩:=bc.out.all4;go_wp2;go_ret;exact ⟨⟨t,m,u,ro,so,g⟩,rb,p,L,rfl,⟨a8.out,H.out.rope.apart H.out.blk rfl af.out,bd.out.wide (fun i hi=>.inl (by simp only [zt] at hi ⊢;rcases hi with h|h <;> simp [h])),H.out.ml,H.out.mc,H.out.inv,fun i hi=>zz (H.out.tlt i hi) (af.out).size⟩,rfl,af.out⟩
set_option maxHeartbeats 1600000 in
theorem uT {m:qx} {u ro:o7} {g:mo} (h:n7 T w b ⟨t,m,u,ro,so,g⟩ rb p L) (k i n:Int) (x:ByteArray) (hi:oi i) (h1:pa t i n=0):Aa prog 119 #[zr (some ⟨b,0,none⟩),(Ai #[zo zp k,zo zp i,zo zp n,zn x])] w (nk T w b (ve (l7.d ⟨t,m,u,ro,so,g⟩) i n)):=by
 have hbl:b<w:=h.lt;obtain ⟨wX,hwX,kE,ac,hz⟩:=n8 w #[zo zp k,zo zp i,zo zp n,zn x] 50;have af:=zk (show l6 wX b #[zq true,zr (some ⟨rb,0,none⟩),zn ⟨#[]⟩,zm m.a m.l.length m.c,zm u.a u.l.length u.c,zm ro.a ro.l.length ro.c,zq so,zm g.a g.l.length g.c] 100 from h.blk.onto ac);have ad:=zk (kE);have c4:=zk ((h.rows.wide (S':=b::w::T) (pr (zx _))).later ac);have c5:=zk ((lx.of_below ac:lx [b] w wX));have c6:=zk (zx wX);have ag:∀ W:zv,wX.heap.size≤W→∀ i∈b::w::T,i<W:=fun W hWz i hi=>by simp only [zt] at hi;rcases hi with rfl|rfl|hi;all_goals first|omega|(have:=h.tlt i hi;omega)
 have df:=zk ag;have H:=zk h;have HB:=zk ac;clear ag kE;obtain ⟨ah,ai,aj,ak,al,am,an,ao,aq,ar,au,av,aw,ax,ay,az⟩:=af.out.all8;obtain ⟨a0,a1,a2,a3,a4,a5,a6,a7⟩:=ad.out.all4;have hfs:∀ W,Below wX wX W→W ⟨b,1,none⟩=some (zr (some ⟨rb,0,none⟩))∧W ⟨w,0,none⟩=some (zo zp k)∧W ⟨w,1,none⟩=some (zo zp i)∧W ⟨w,2,none⟩=some (zo zp n)∧W ⟨w,3,none⟩=some (zn x):=fun W h=>⟨(af.out.onto h).cell 1 _ rfl,(ad.out.onto h).cell 0 _ rfl,(ad.out.onto h).cell 1 _ rfl,(ad.out.onto h).cell 2 _ rfl,(ad.out.onto h).cell 3 _ rfl⟩;have FS:=zk hfs;clear hfs;have cs:=fun W (hW:Below wX wX W)=>(GZ (n:=n) (i:=i) ((h.rope.later ac).later hW) (show t.size≤4096 from h.inv.z) hi).mono fun e w' h=>h.yes h1;obtain ⟨da,dz⟩:=BI (i:=i) (n:=n) h.inv.v h.inv.z h1;have hst:=bB.1 (jF h1).1;obtain ⟨i',rfl⟩:=A3 hst.1;obtain ⟨n',rfl⟩:=A3 hst.2.1;have hle:i'+n'≤t.size:=lg;have hdx:(vl (l7.d ⟨t,m,u,ro,so,g⟩).t (i':Int) (n':Int)).o=t.extract i' (i'+n'):=by show t.extract _ _=_;congr 1
 have c2:=fun W (hW:Below wX wX W)=>MY ((h.rope.later ac).later hW) hle;have ce:=fun W (hW:Below wX wX W) {rb':Nat} {p':Option Ab} {L':List ByteArray} (hR:n9 W (some ⟨rb',0,none⟩) p' L' (ux t i' n'))=>oG ((h.later ac).later hW) i' (vl (l7.d ⟨t,m,u,ro,so,g⟩).t i' n').o ⟨#[]⟩ (by have:=h.inv.z;replace this:t.size≤4096:=this;omega) (Ap _) da hR;rw [NV (s:=l7.d ⟨t,m,u,ro,so,g⟩) h1 dz,hdx] at ce;obtain ⟨R,hR⟩:∃ R,ve (l7.d ⟨t,m,u,ro,so,g⟩) (i':Int) (n':Int)=R:=⟨_,rfl⟩;rw [hR] at ce ⊢;obtain ⟨Rs,Re⟩:=R;obtain ⟨old,hold⟩:∃ old,t.extract i' (i'+n')=old:=⟨_,rfl⟩;rw [hold] at ce c2;have CE:=zk ce;have C2:=zk c2;clear ce c2 hR hdx da dz hst hle hold;have CS:=zk cs;clear cs h ac hz h1 hi;go_enter func119,ntmps119;go_wp2_with fail;clear ah ai aj ak al am an ao aq ar au av aw ax ay az a0 a1 a2 a3 a4 a5 a6 a7;clear hwX;refine Ah (S:=(fun W:zv=>W ⟨b,1,none⟩=some (zr (some ⟨rb,0,none⟩))∧W ⟨w,0,none⟩=some (zo zp k)∧W ⟨w,1,none⟩=some (zo zp (i':Int))∧W ⟨w,2,none⟩=some (zo zp (n':Int))∧W ⟨w,3,none⟩=some (zn x))) lh (FS.out _ (Below.refl _ _).drew) (fun hHeld=>?_);refine lz 0 ?_;refine lz 1 ?_;refine lz 2 ?_;refine lz 3 ?_;refine lz 4 ?_;refine lz 5 ?_;refine lz 6 ?_;refine lz 7 ?_;refine m8 8 fun K hK=>?_;go_simp
 (go_at_call 147;refine (CS.out _ (Below.refl _ _).drew).mono ?_;rintro e w1 ⟨rb',p',L',rfl,cq,cr⟩;have aa:Below wX wX w1:=(Below.refl _ _).drew.trans cr)
 try go_wp2_with fail
 refine hK.out _ _ ?_ (fun hHeld=>?_)
 ·exact FS.out _ aa
 clear hK K
 try simp only [zw,mj]
 refine lz 9 ?_;refine lz 10 ?_;refine lz 11 ?_;refine lz 12 ?_;refine lz 13 ?_;refine Ae lh ?_ _;have ct:=zk (af.out.onto aa);have cu:=zk (ad.out.onto aa);have c7:=zk (c4.out.later aa);have c8:=zk (c5.out.trans (S':=[]) (.of_below aa) li);have c9:=zk (zu c6.out aa.size);have ae:=zk aa;clear cr aa CS;have cv:=zk cq;clear cq;obtain ⟨a8,a9,ba,bb,bc,bd,be,bf,bg,bh,bi,bj,bk,bl,bm,bn⟩:=ct.out.all8;obtain ⟨bo,bp,bq,br,bs,bu,bv,bw⟩:=cu.out.all4;go_wp2_with fail;clear a8 a9 ba bb bc bd be bf bg bh bi bj bk bl bm bn bo bp bq br bs bu bv bw;refine Ah (S:=(fun W:zv=>W ⟨b,1,none⟩=some (zr (some ⟨rb,0,none⟩))∧W ⟨w,0,none⟩=some (zo zp k)∧W ⟨w,1,none⟩=some (zo zp (i':Int))∧W ⟨w,2,none⟩=some (zo zp (n':Int))∧W ⟨w,3,none⟩=some (zn x))) lh (FS.out _ ae.out.drew) (fun hHeld=>?_);refine lz 0 ?_;refine lz 1 ?_;refine lz 2 ?_;refine lz 3 ?_;refine lz 4 ?_;refine lz 5 ?_;refine lz 6 ?_;refine lz 7 ?_;refine m8 8 fun K hK=>?_;go_simp
 (go_at_call 148;refine (C2.out _ ae.out.drew).mono ?_;rintro e w2 ⟨rfl,cw⟩;have ab:Below w1 w1 w2:=(Below.refl _ _).drew.trans cw;have cx:=zk (ae.out.trans (ab.mono ae.out.size)))
 try go_wp2_with fail
 refine hK.out _ _ ?_ (fun hHeld=>?_)
 ·exact FS.out _ cx.out
 clear hK K
 try simp only [zw,mj]
 refine lz 9 ?_;refine lz 10 ?_;refine lz 11 ?_;refine lz 12 ?_;refine lz 13 ?_;refine Ae lh ?_ _;have db:=zk (ct.out.onto ab);have dc:=zk (cu.out.onto ab);have dg:=zk (c7.out.later ab);have dd:=zk (c8.out.trans (S':=[]) (.of_below ab) li);have dh:=zk (zu c9.out ab.size);have de:=zk (cv.out.later ab);clear cw ab C2 cv;obtain ⟨bx,bz,b3,b4,b5,b6,b7,b8,b9,ca,cb,cc,cd,cf,cg,ch⟩:=db.out.all8;obtain ⟨ci,cj,ck,cl,cm,cn,co,cp⟩:=dc.out.all4;go_wp2_with fail;refine (CE.out _ cx.out de.out).mono ?_;rintro e w3 ⟨s2,rb2,p2,L2,rfl,cy,cz,c3⟩;have HQ:=zk (Aj cy (Aj cz c3));clear cy cz c3;clear bx bz b3 b4 b5 b6 b7 b8 b9 ca cb cc cd cf cg ch ci cj ck cl cm cn co cp;go_wp2;go_ret;exact ⟨s2,rb2,p2,L2,rfl,HQ.out.1,HQ.out.2.1,dd.out.trans HQ.out.2.2 (fun x hx=>.inl hx)⟩
end Go.Proofs.YtbagenpobcgjnaaGreat
namespace Go.Proofs.YtbagenpobcgjnaaGreat
open Go.RowKit
set_option linter.unusedVariables false
set_option linter.unusedSimpArgs false
theorem mx.bare {s:mg} (h:mx s) (ho:s.o=false):s.g=[]:=by
 rcases h.go with g|g
 ·exact g
 ·rw [ho] at g;cases g.1
theorem xX {s:mg} (h:mx s) (ho:s.o=false) (hk:s.u.length=k+1):∃ t',ms s.t (md s.u[k]!)=(t',0)∧nx t'.data.toList=true∧t'.size≤4096:=by
 have hu:=h.u;rw [h.bare ho] at hu;obtain ⟨hr,-⟩:=fT hk hu;obtain ⟨t',e,hv,hz,-⟩:=h.runs hr;exact ⟨t',e,hv,hz⟩
theorem xV {s:mg} (h:mx s) (hk:s.r.length=k+1):∃ t',ms s.t s.r[k]! = (t',0)∧nx t'.data.toList=true∧t'.size≤4096:=by
 obtain ⟨hr,-⟩:=fT hk h.r;obtain ⟨t',e,hv,hz,-⟩:=h.runs (st:=s.r[k]!) hr;exact ⟨t',e,hv,hz⟩
theorem sO {s:mg} (ho:s.o=false) (hk:s.u.length=k+1) (hr:ms s.t (md s.u[k]!)=(t',0)):po s=(⟨t',rq s.m (md s.u[k]!),s.u.take k,np s.r s.u[k]!,false,s.g⟩,0):=by
 unfold po;rw [if_neg (by rw [ho];decide),if_neg lg,show s.u.length - 1=k by omega,hr,ho]
theorem uF {s:mg} (ho:s.o=false) (hk:s.r.length=k+1) (hr:ms s.t s.r[k]! = (t',0)):pq s=(⟨t',rq s.m s.r[k]!,np s.u s.r[k]!,s.r.take k,false,s.g⟩,0):=by
 unfold pq;rw [if_neg (by rw [ho];decide),if_neg lg,show s.r.length - 1=k by omega,hr,ho]
open Go.Proofs.Tryz
set_option maxRecDepth 100000
open Lib (hid)
theorem ug {s:l7} (hin:mm S w s) (hS:qg S w) (oc:Array Ag):∃ W,((w.alloc (zy #[zn s.t,zm s.m.a s.m.l.length s.m.c,zm s.u.a s.u.l.length s.u.c,zm s.r.a s.r.l.length s.r.c,zq s.o,zm s.g.a s.g.l.length s.g.c] 26)).alloc (zy oc 50)).alloc (zy #[zn ⟨#[]⟩,zm none 0 0,zm none 0 0,zm none 0 0,zq false,zm none 0 0] 26)=W∧l6 W (w) #[zn s.t,zm s.m.a s.m.l.length s.m.c,zm s.u.a s.u.l.length s.u.c,zm s.r.a s.r.l.length s.r.c,zq s.o,zm s.g.a s.g.l.length s.g.c] 26∧l6 W (w+1) oc 50∧l6 W (w+1+1) #[zn ⟨#[]⟩,zm none 0 0,zm none 0 0,zm none 0 0,zq false,zm none 0 0] 26∧mm (w::(w.heap.size+1)::(w.heap.size+1+1)::S) W s∧qg (w::(w.heap.size+1)::(w.heap.size+1+1)::S) W∧Below w w W∧W.heap.size=w+1+1+1:=by
 obtain ⟨W,hW,kA,kB,kC,hb,hz⟩:=box3 w #[zn s.t,zm s.m.a s.m.l.length s.m.c,zm s.u.a s.u.l.length s.u.c,zm s.r.a s.r.l.length s.r.c,zq s.o,zm s.g.a s.g.l.length s.g.c] oc #[zn ⟨#[]⟩,zm none 0 0,zm none 0 0,zm none 0 0,zq false,zm none 0 0] 26 50 26;exact ⟨W,hW,kA,kB,kC,(hin.wide (S':=(w.heap.size::(w.heap.size+1)::(w.heap.size+1+1)::S)) (fun i hi=>by simp only [zt] at hi;rcases hi with rfl|rfl|rfl|hi;exact .inr (zx _);exact .inr (A8 _);exact .inr lg;exact .inl hi)).later hb,iR hS hz rfl,hb,hz⟩
theorem vb {s:l7} {c0 c1 c2 c3 c4 c5:Ag} (hB:Below w w W) (hr:mm (w::(w.heap.size+1)::(w.heap.size+1+1)::S) W s):mm S ((Ar (Ar (Ar (Ar (Ar (Ar W ⟨w+1+1,0,none⟩ c0) ⟨w+1+1,1,none⟩ c1) ⟨w+1+1,2,none⟩ c2) ⟨w+1+1,3,none⟩ c3) ⟨w+1+1,4,none⟩ c4) ⟨w+1+1,5,none⟩ c5)) s∧Below w w ((Ar (Ar (Ar (Ar (Ar (Ar W ⟨w+1+1,0,none⟩ c0) ⟨w+1+1,1,none⟩ c1) ⟨w+1+1,2,none⟩ c2) ⟨w+1+1,3,none⟩ c3) ⟨w+1+1,4,none⟩ c4) ⟨w+1+1,5,none⟩ c5)):=by
 refine ⟨mm.wide (S:=(w.heap.size::(w.heap.size+1)::(w.heap.size+1+1)::S)) (hr.apart ?_) (fun i hi=>.inl (by simp [hi])),?_⟩
 ·iterate 6 refine lx.setCell ?_ (.inl li) _
  exact lx.refl _ _
 ·iterate 6 refine Below.setCell ?_ (by show w.heap.size≤w+1+1;omega) _
  exact hB
set_option maxHeartbeats 1600000 in
theorem kG (s:l7) (p:Int) (o en:ByteArray) (S:List Nat) (w:zv) (hin:mm S w s) (hS:qg S w) (ht:s.t.size≤140737488355328) (ho:o.size≤140737488355328) (hn:en.size≤140737488355328) (hl:s.m.l.length≤1000000)
 (hp:-2305843009213693952≤p∧p≤2305843009213693952) (ha:∀ x∈s.m.l,-2305843009213693952≤x.p∧x.p≤2305843009213693952) :
 Aa prog 75 #[s.v,vt p o en] w fun e w'=>∃ ma mc,e=An (x8 (oq s.t p o en).1 (zm ma (pb s.m.l (mu p o.size en.size)).length mc) (zm s.u.a s.u.l.length s.u.c) (zm s.r.a s.r.l.length s.r.c) s.o (zm s.g.a s.g.l.length s.g.c))∧tx S w' ⟨ma,pb s.m.l (mu p o.size en.size),mc⟩∧Below w w w':=by
 have cA:=fun W=>pU s.t o en ht ho hn p W;have cS:=fun W (hW:Below w w W)=>uN s.m.a s.m.l s.m.c p o en (ph S W) W (hin.m.later hW).row (fun _ h=>h.1) hl ho hn hp ha;obtain ⟨⟨t',er⟩,hA⟩:∃ y,oq s.t p o en=y:=⟨_,rfl⟩;obtain ⟨M,hM⟩:∃ M,pb s.m.l (mu p o.size en.size)=M:=⟨_,rfl⟩;rw [hA] at cA ⊢;rw [hM] at cS ⊢;obtain ⟨wX,hwX,kA,kB,kC,ab,hz⟩:=box3 w #[zn s.t,zm s.m.a s.m.l.length s.m.c,zm s.u.a s.u.l.length s.u.c,zm s.r.a s.r.l.length s.r.c,zq s.o,zm s.g.a s.g.l.length s.g.c] #[zo zp p,zn o,zn en] #[zn ⟨#[]⟩,zm none 0 0,zm none 0 0,zm none 0 0,zq false,zm none 0 0] 26 92 26;have inT:=iR hS hz rfl;have rU:mm (w::(w.heap.size+1)::(w.heap.size+1+1)::S) wX s:=(hin.wide (S':=(w.heap.size::(w.heap.size+1)::(w.heap.size+1+1)::S)) (fun i hi=>by simp only [zt] at hi;rcases hi with rfl|rfl|rfl|hi;exact .inr (zx _);exact .inr (A8 _);exact .inr lg;exact .inl hi)).later ab;have ac:=zk (kA);have ad:=zk (kB);have ae:=zk (kC);have dr:=zk (rU);have af:=zk (ab);have ds:=zk (zx wX);have CA:=zk cA;have CS:=zk cS;have INT:=zk inT;have LEN:=zk hl;obtain ⟨ar,au,av,aw,ax,ay,az,a0,a1,a2,a3,a4⟩:=ac.out.all6;obtain ⟨a5,a6,a7,a8,a9,ba⟩:=ad.out.all3;obtain ⟨bb,bc,bd,be,bf,bg,bh,bi,bj,bk,bl,bm⟩:=ae.out.all6;clear kA kB kC rU ab inT cA cS hin hS hA hM hz hl ht ho hn hp ha;go_enter func75,ntmps75;go_wp2_with fail;refine (CA.out _).mono ?_;rintro e w1 ⟨rfl,hb⟩;clear ar au av aw ax ay az a0 a1 a2 a3 a4 a5 a6 a7 a8 a9 ba bb bc bd be bf bg bh bi bj bk bl bm;have ag:=zk (ac.out.onto hb);have ah:=zk (ad.out.onto hb);have ai:=zk (ae.out.onto hb);have dt:=zk (dr.out.later hb);have du:=zk (af.out.trans (hb.mono af.out.size));have dv:=zk (zu ds.out hb.size);clear hb ac ad ae dr af ds;obtain ⟨bn,bo,bp,bq,br,bs,bu,bv,bw,bx,bz,b3⟩:=ag.out.all6;obtain ⟨b4,b5,b6,b7,b8,b9⟩:=ah.out.all3;obtain ⟨ca,cb,cc,cd,ce,cf,cg,ch,ci,cj,ck,cl⟩:=ai.out.all6;clear hwX;have kA:l6 (w1.setCell ⟨w,0,none⟩ (zn t')) (w) #[zn t',zm s.m.a s.m.l.length s.m.c,zm s.u.a s.u.l.length s.u.c,zm s.r.a s.r.l.length s.r.c,zq s.o,zm s.g.a s.g.l.length s.g.c] 26:=(ag.out.set 0 _);have kB:l6 (w1.setCell ⟨w,0,none⟩ (zn t')) (w+1) #[zo zp p,zn o,zn en] 92:=(ah.out.other ⟨w,0,none⟩ (by show w.heap.size≠w+1;omega) _);have kC:l6 (w1.setCell ⟨w,0,none⟩ (zn t')) (w+1+1) #[zn ⟨#[]⟩,zm none 0 0,zm none 0 0,zm none 0 0,zq false,zm none 0 0] 26:=(ai.out.other ⟨w,0,none⟩ (by show w.heap.size≠w+1+1;omega) _);have ap:lx (w::(w.heap.size+1)::(w.heap.size+1+1)::S) w1 (w1.setCell ⟨w,0,none⟩ (zn t')):=(lx.refl (w::(w.heap.size+1)::(w.heap.size+1+1)::S) w1).setCell (p:=⟨w,0,none⟩) (.inl li) _;have rU:=dt.out.apart ap;have hB:=((du.out.setCell (p:=⟨w,0,none⟩) (by show w.heap.size≤w;omega) _):Below w w (w1.setCell ⟨w,0,none⟩ (zn t')));have hz:(w1.setCell ⟨w,0,none⟩ (zn t')).heap.size=w1:=li;obtain ⟨v2,dw⟩:∃ V,(w1.setCell ⟨w,0,none⟩ (zn t'))=V:=⟨_,rfl⟩;rw [dw] at kA kB kC rU hB hz;have aj:=zk kA;have ak:=zk kB;have al:=zk kC;have dx:=zk rU;have aa:=zk hB;have am:=zk (zu dv.out (Af hz.symm));clear kA kB kC rU hB hz ap ag ah ai dt du dv;obtain ⟨cm,cn,co,cp,cq,cr,ct,cu,cv,cw,cx,cy⟩:=aj.out.all6;obtain ⟨cz,c3,c4,c5,c6,c7⟩:=ak.out.all3;obtain ⟨c8,c9,da,db,dc,dd,de,df,dg,dh,di,dj⟩:=al.out.all6;go_wp2_with fail;refine (CS.out _ aa.out).mono ?_;rintro e w3 ⟨ma,mc,rfl,hm,hb⟩;clear bn bo bp bq br bs bu bv bw bx bz b3 b4 b5 b6 b7 b8 b9 ca cb cc cd ce cf cg ch ci cj ck cl dw cm cn co cp cq cr ct cu cv cw cx cy cz c3 c4 c5 c6 c7 c8 c9 da db dc dd de df dg dh di dj;have an:=zk (aj.out.onto hb);have ao:=zk (ak.out.onto hb);have aq:=zk (al.out.onto hb);have dy:=zk (dx.out.later hb);have dz:=zk (aa.out.trans (hb.mono aa.out.size));have d0:=zk (zu am.out hb.size);have d1:=zk (hm.off (S:=(w.heap.size::(w.heap.size+1)::(w.heap.size+1+1)::S)) (fun i hi=>zz (INT.out i hi) am.out));clear hb hm aj ak al dx aa am;obtain ⟨d8,d9,ea,eb,ec,ed,ee,ef,eg,eh,ei,ej⟩:=an.out.all6;obtain ⟨ek,el,em,eo,es,et⟩:=ao.out.all3;obtain ⟨eu,ev,ew,ey,e0,e3,e4,e5,e6,e7,e8,e9⟩:=aq.out.all6;have kA:l6 (w3.setCell ⟨w,1,none⟩ (zm ma M.length mc)) (w) #[zn t',zm ma M.length mc,zm s.u.a s.u.l.length s.u.c,zm s.r.a s.r.l.length s.r.c,zq s.o,zm s.g.a s.g.l.length s.g.c] 26:=(an.out.set 1 _);have kB:l6 (w3.setCell ⟨w,1,none⟩ (zm ma M.length mc)) (w+1) #[zo zp p,zn o,zn en] 92:=(ao.out.other ⟨w,1,none⟩ (by show w.heap.size≠w+1;omega) _);have kC:l6 (w3.setCell ⟨w,1,none⟩ (zm ma M.length mc)) (w+1+1) #[zn ⟨#[]⟩,zm none 0 0,zm none 0 0,zm none 0 0,zq false,zm none 0 0] 26:=(aq.out.other ⟨w,1,none⟩ (by show w.heap.size≠w+1+1;omega) _);have ap:lx (w::(w.heap.size+1)::(w.heap.size+1+1)::S) w3 (w3.setCell ⟨w,1,none⟩ (zm ma M.length mc)):=(lx.refl (w::(w.heap.size+1)::(w.heap.size+1+1)::S) w3).setCell (p:=⟨w,1,none⟩) (.inl li) _;have rU:=dy.out.apart ap;have rM:=d1.out.apart ap;have hB:=((dz.out.setCell (p:=⟨w,1,none⟩) (by show w.heap.size≤w;omega) _):Below w w (w3.setCell ⟨w,1,none⟩ (zm ma M.length mc)));have hz:(w3.setCell ⟨w,1,none⟩ (zm ma M.length mc)).heap.size=w3:=li;obtain ⟨v4,d2⟩:∃ V,(w3.setCell ⟨w,1,none⟩ (zm ma M.length mc))=V:=⟨_,rfl⟩;rw [d2] at kA kB kC rU rM hB hz;have d3:=zk kA;have d4:=zk kB;have d5:=zk kC;have fz:=zk rU;have d6:=zk rM;have d7:=zk hB;have f0:=zk (zu d0.out (Af hz.symm));clear kA kB kC rU rM hB hz ap an ao aq dy d1 dz d0;obtain ⟨fa,fb,fc,fd,fe,ff,fg,fh,fi,fj,fk,fm⟩:=d3.out.all6;obtain ⟨fn,fo,fp,fq,fr,fs⟩:=d4.out.all3;obtain ⟨dk,dl,dm,dn,dp,dq,ft,fu,fv,fw,fx,fy⟩:=d5.out.all6;go_wp2;refine Az (v:=x8 t' (zm ma M.length mc) (zm s.u.a s.u.l.length s.u.c) (zm s.r.a s.r.l.length s.r.c) s.o (zm s.g.a s.g.l.length s.g.c)) (by simp [Bi,results75,go_sem,dk,dl,dm,dn,dp,dq]) rfl ?_;refine ⟨ma,mc,rfl,(d6.out.apart ?_).wide (fun i hi=>.inl (by simp [hi])),?_⟩
 ·iterate 6 refine lx.setCell ?_ (.inl li) _
  exact lx.refl _ _
 ·iterate 6 refine Below.setCell ?_ (by show w.heap.size≤w+1+1;omega) _
  exact d7.out
def oh (S:List Nat) (w:zv) (r:mg×Int) (e:Bh) (w':zv):Prop:=∃ s':l7,e=An (Ax #[s'.v,zo zp r.2])∧s'.d=r.1∧mm S w' s'∧Below w w w'
theorem eO {B:Nat} (_:Below B w W) (cs:Array Ag) (t:Ao) (hn:W=n):l6 (W.alloc (zy cs t)) n cs t:=hn ▸ l6.new W cs t
theorem eU {B:Nat} (hB:B≤W) (hn:W=n):(W.alloc (zy #[] 92)).ownsRow B 92 3 (zm (some ⟨n,0,none⟩) 0 0) 0 []:=by
 subst hn;have h:=World.ownsRow_made (size:=3) (e:=92) W #[] 0 hB (Ap _) li;simpa using h
theorem blk3c {x y z:Ag} {t:Ao} (h:l6 w b #[x,y,z] t):w ⟨b,0,none⟩=some x∧w ⟨b,1,none⟩=some y∧w ⟨b,2,none⟩=some z:=⟨h.cell 0 _ rfl,h.cell 1 _ rfl,h.cell 2 _ rfl⟩
theorem JA (a b:List l8):l8.flat (a++b)=l8.flat a++l8.flat b:=by simp [l8.flat]
theorem BW {l:List l8} (h:o0 w ⟨a,l,c⟩):yh w 3 (zm a l.length c) l.length (l8.flat l):=by
 cases a with
 | none =>
  have e0:l=[]:=h.len rfl;have e1:c=0:=h.nil rfl;subst e0;subst e1;exact .inl ⟨rfl,rfl,rfl⟩
 | some ad=>exact .inr ⟨ad,c,rfl,l8.flat_len l,mD h.row,mG l⟩
theorem PY {p:Int} {o n:ByteArray} {t:Ao} (h:l6 w b #[zo zp p,zn o,zn n] t):yh w 3 (zm (some ⟨b,0,none⟩) 1 1) 1 [zo zp p,zn o,zn n]:=by
 have h2:=BW (sv.in (S:=[]) (x:=⟨some ⟨b,0,none⟩,[⟨p,o,n⟩],1⟩) ⟨eone h ⟨h.lt,li⟩,fun e=>by cases e⟩);simpa [l8.flat] using h2
set_option maxHeartbeats 6400000 in
theorem oC (s:l7) (p:Int) (o en:ByteArray) (S:List Nat) (w:zv) (hin:mm S w s) (hS:qg S w) (ht:s.t.size≤140737488355328) (ho:o.size≤140737488355328) (hn:en.size≤140737488355328) (hl:s.m.l.length≤1000000)
 (hp:-2305843009213693952≤p∧p≤2305843009213693952) (ha:∀ x∈s.m.l,-2305843009213693952≤x.p∧x.p≤2305843009213693952) (hu:s.u.l.length≤900) :
 Aa prog 71 #[s.v,vt p o en] w (oh S w (pf s.d ⟨p,o,en⟩)):=by
 have cp:=fun W (hU:mm (w::(w.heap.size+1)::(w.heap.size+1+1)::S) W s) (hI:qg (w::(w.heap.size+1)::(w.heap.size+1+1)::S) W)=>kG s p o en (w::(w.heap.size+1)::(w.heap.size+1+1)::S) W hU hI ht ho hn hl hp ha;obtain ⟨i0,hi,bw,bx,bz⟩:=info_parts eW;obtain ⟨t,m,u,r,so,g⟩:=s;replace hu:u.l.length≤900:=hu;cases so with
 | true =>
  by_cases h1:32≤g.l.length
  ·have e1:pf (l7.d ⟨t,m,u,r,true,g⟩) ⟨p,o,en⟩=(l7.d ⟨t,m,u,r,true,g⟩,9):=by unfold pf;rw [if_pos ⟨rfl,h1⟩]
   rw [e1];clear e1 cp ht ho hn hl hp ha hu hi bw bx bz;have CP:=zk True.intro;obtain ⟨wX,hwX,kA,kB,kC,aa,hz⟩:=box3 w #[zn t,zm m.a m.l.length m.c,zm u.a u.l.length u.c,zm r.a r.l.length r.c,zq true,zm g.a g.l.length g.c] #[zo zp p,zn o,zn en] #[zn ⟨#[]⟩,zm none 0 0,zm none 0 0,zm none 0 0,zq false,zm none 0 0] 26 92 26;have inT:=iR hS hz rfl;have rU:mm (w::(w.heap.size+1)::(w.heap.size+1+1)::S) wX ⟨t,m,u,r,true,g⟩:=(hin.wide (S':=(w.heap.size::(w.heap.size+1)::(w.heap.size+1+1)::S)) (fun i hi=>by simp only [zt] at hi;rcases hi with rfl|rfl|rfl|hi;exact .inr (zx _);exact .inr (A8 _);exact .inr lg;exact .inl hi)).later aa;have ac:=zk (kA);have ad:=zk (kB);have ae:=zk (kC);have af:=zk (rU);have ag:=zk (aa);have ao:=zk (zx wX);have INT:=zk inT;obtain ⟨aq,ar,au,av,aw,ax,ay,az,a1,a3,a4,a6⟩:=ac.out.all6;obtain ⟨a7,a8,ba,bb,bc,bd⟩:=ad.out.all3;obtain ⟨ah,ai,aj,ak,al,am,be,bf,bg,bh,bi,bj⟩:=ae.out.all6;have c0:(32:Int)≤(g.l.length:Int):=lg;clear kA kB kC rU aa inT hin hS hz CP h1;go_enter func71,ntmps71;go_wp2;refine Az (v:=Ax #[(l7.v ⟨t,m,u,r,true,g⟩),zo zp 9]) (by simp [Bi,results71,go_sem,ah,ai,aj,ak,al,am]) rfl ?_;refine ⟨⟨t,m,u,r,true,g⟩,rfl,rfl,?_,?_⟩
   ·refine mm.wide (S:=(w.heap.size::(w.heap.size+1)::(w.heap.size+1+1)::S)) (mm.apart (w:=wX) af.out ?_) (fun i hi=>.inl (by simp [hi]))
    iterate 6 refine lx.setCell ?_ (.inl li) _
    exact lx.refl _ _
   ·iterate 6 refine Below.setCell ?_ (by show w.heap.size≤w+1+1;omega) _
    exact ag.out
  ·have e1:pf (l7.d ⟨t,m,u,r,true,g⟩) ⟨p,o,en⟩=(⟨(oq t p o en).1,pb m.l (mu p o.size en.size),mf u.l,[],true,g.l++[⟨p,o,en⟩]⟩,0):=by unfold pf;rw [if_neg (fun h=>h1 h.2)];rfl
   rw [e1];replace h1:g.l.length<32:=lg;obtain ⟨t',ht'⟩:∃ y,(oq t p o en).1=y:=⟨_,rfl⟩;obtain ⟨M,hM⟩:∃ M,pb m.l (mu p o.size en.size)=M:=⟨_,rfl⟩;simp only [ht',hM] at cp ⊢;have CP:=zk cp;clear e1 cp ht ho hn hl hp ha hu ht' hM;obtain ⟨wX,hwX,kA,kB,kC,aa,hz⟩:=box3 w #[zn t,zm m.a m.l.length m.c,zm u.a u.l.length u.c,zm r.a r.l.length r.c,zq true,zm g.a g.l.length g.c] #[zo zp p,zn o,zn en] #[zn ⟨#[]⟩,zm none 0 0,zm none 0 0,zm none 0 0,zq false,zm none 0 0] 26 92 26;have inT:=iR hS hz rfl;have rU:mm (w::(w.heap.size+1)::(w.heap.size+1+1)::S) wX ⟨t,m,u,r,true,g⟩:=(hin.wide (S':=(w.heap.size::(w.heap.size+1)::(w.heap.size+1+1)::S)) (fun i hi=>by simp only [zt] at hi;rcases hi with rfl|rfl|rfl|hi;exact .inr (zx _);exact .inr (A8 _);exact .inr lg;exact .inl hi)).later aa;have ac:=zk (kA);have ad:=zk (kB);have ae:=zk (kC);have af:=zk (rU);have ag:=zk (aa);have ao:=zk (zx wX);have INT:=zk inT;obtain ⟨aq,ar,au,av,aw,ax,ay,az,a1,a3,a4,a6⟩:=ac.out.all6;obtain ⟨a7,a8,ba,bb,bc,bd⟩:=ad.out.all3;obtain ⟨ah,ai,aj,ak,al,am,be,bf,bg,bh,bi,bj⟩:=ae.out.all6;have c0:¬ (32:Int)≤(g.l.length:Int):=lg;have GL:=zk h1;clear kA kB kC rU aa inT hin hS hz h1;go_enter func71,ntmps71;go_wp2_with fail;refine (CP.out _ af.out (fun i hi=>zz (INT.out i hi) ao.out)).mono ?_;rintro e w1 ⟨ma,mc,rfl,hm,hb⟩;clear aq ar au av aw ax ay az a1 a3 a4 a6 a7 a8 ba bb bc bd ah ai aj ak al am be bf bg bh bi bj;have bl:=zk (ac.out.onto hb);have bm:=zk (ad.out.onto hb);have bn:=zk (ae.out.onto hb);have e7:=zk (af.out.later hb);have e8:=zk (ag.out.trans (hb.mono ag.out.size));have e9:=zk (zu ao.out hb.size);have fa:=zk (hm);clear hb hm ac ad ae af ag ao;obtain ⟨b8,b9,ca,cb,cc,cd,ce,cf,ch,ci,cj,ck⟩:=bl.out.all6;obtain ⟨cl,cm,cn,co,cq,cr⟩:=bm.out.all3;obtain ⟨ct,cu,cv,cw,cx,cy,cz,c3,c4,c5,c6,c7⟩:=bn.out.all6;clear hwX CP;have kA:l6 ((((((w1.setCell ⟨w,0,none⟩ (zn t')).setCell ⟨w,1,none⟩ (zm ma M.length mc)).setCell ⟨w,2,none⟩ (zm u.a u.l.length u.c)).setCell ⟨w,3,none⟩ (zm r.a r.l.length r.c)).setCell ⟨w,4,none⟩ (zq true)).setCell ⟨w,5,none⟩ (zm g.a g.l.length g.c)) (w) #[zn t',zm ma M.length mc,zm u.a u.l.length u.c,zm r.a r.l.length r.c,zq true,zm g.a g.l.length g.c] 26:=((((((bl.out.set 0 _).set 1 _).set 2 _).set 3 _).set 4 _).set 5 _);have kB:l6 ((((((w1.setCell ⟨w,0,none⟩ (zn t')).setCell ⟨w,1,none⟩ (zm ma M.length mc)).setCell ⟨w,2,none⟩ (zm u.a u.l.length u.c)).setCell ⟨w,3,none⟩ (zm r.a r.l.length r.c)).setCell ⟨w,4,none⟩ (zq true)).setCell ⟨w,5,none⟩ (zm g.a g.l.length g.c)) (w+1) #[zo zp p,zn o,zn en] 92:=((((((bm.out.other ⟨w,0,none⟩ (by show w.heap.size≠w+1;omega) _).other ⟨w,1,none⟩ (by show w.heap.size≠w+1;omega) _).other ⟨w,2,none⟩ (by show w.heap.size≠w+1;omega) _).other ⟨w,3,none⟩ (by show w.heap.size≠w+1;omega) _).other ⟨w,4,none⟩ (by show w.heap.size≠w+1;omega) _).other ⟨w,5,none⟩ (by show w.heap.size≠w+1;omega) _);have kC:l6 ((((((w1.setCell ⟨w,0,none⟩ (zn t')).setCell ⟨w,1,none⟩ (zm ma M.length mc)).setCell ⟨w,2,none⟩ (zm u.a u.l.length u.c)).setCell ⟨w,3,none⟩ (zm r.a r.l.length r.c)).setCell ⟨w,4,none⟩ (zq true)).setCell ⟨w,5,none⟩ (zm g.a g.l.length g.c)) (w+1+1) #[zn ⟨#[]⟩,zm none 0 0,zm none 0 0,zm none 0 0,zq false,zm none 0 0] 26:=((((((bn.out.other ⟨w,0,none⟩ (by show w.heap.size≠w+1+1;omega) _).other ⟨w,1,none⟩ (by show w.heap.size≠w+1+1;omega) _).other ⟨w,2,none⟩ (by show w.heap.size≠w+1+1;omega) _).other ⟨w,3,none⟩ (by show w.heap.size≠w+1+1;omega) _).other ⟨w,4,none⟩ (by show w.heap.size≠w+1+1;omega) _).other ⟨w,5,none⟩ (by show w.heap.size≠w+1+1;omega) _);have ap:lx (w::(w.heap.size+1)::(w.heap.size+1+1)::S) w1 ((((((w1.setCell ⟨w,0,none⟩ (zn t')).setCell ⟨w,1,none⟩ (zm ma M.length mc)).setCell ⟨w,2,none⟩ (zm u.a u.l.length u.c)).setCell ⟨w,3,none⟩ (zm r.a r.l.length r.c)).setCell ⟨w,4,none⟩ (zq true)).setCell ⟨w,5,none⟩ (zm g.a g.l.length g.c)):=((((((lx.refl (w::(w.heap.size+1)::(w.heap.size+1+1)::S) w1).setCell (p:=⟨w,0,none⟩) (.inl li) _).setCell (p:=⟨w,1,none⟩) (.inl li) _).setCell (p:=⟨w,2,none⟩) (.inl li) _).setCell (p:=⟨w,3,none⟩) (.inl li) _).setCell (p:=⟨w,4,none⟩) (.inl li) _).setCell (p:=⟨w,5,none⟩) (.inl li) _;have rU:=e7.out.apart ap;have rM:=fa.out.apart ap;have hB:=(((((((e8.out.setCell (p:=⟨w,0,none⟩) (by show w.heap.size≤w;omega) _).setCell (p:=⟨w,1,none⟩) (by show w.heap.size≤w;omega) _).setCell (p:=⟨w,2,none⟩) (by show w.heap.size≤w;omega) _).setCell (p:=⟨w,3,none⟩) (by show w.heap.size≤w;omega) _).setCell (p:=⟨w,4,none⟩) (by show w.heap.size≤w;omega) _).setCell (p:=⟨w,5,none⟩) (by show w.heap.size≤w;omega) _):Below w w ((((((w1.setCell ⟨w,0,none⟩ (zn t')).setCell ⟨w,1,none⟩ (zm ma M.length mc)).setCell ⟨w,2,none⟩ (zm u.a u.l.length u.c)).setCell ⟨w,3,none⟩ (zm r.a r.l.length r.c)).setCell ⟨w,4,none⟩ (zq true)).setCell ⟨w,5,none⟩ (zm g.a g.l.length g.c)));have hz:((((((w1.setCell ⟨w,0,none⟩ (zn t')).setCell ⟨w,1,none⟩ (zm ma M.length mc)).setCell ⟨w,2,none⟩ (zm u.a u.l.length u.c)).setCell ⟨w,3,none⟩ (zm r.a r.l.length r.c)).setCell ⟨w,4,none⟩ (zq true)).setCell ⟨w,5,none⟩ (zm g.a g.l.length g.c)).heap.size=w1:=li;obtain ⟨v2,fb⟩:∃ V,((((((w1.setCell ⟨w,0,none⟩ (zn t')).setCell ⟨w,1,none⟩ (zm ma M.length mc)).setCell ⟨w,2,none⟩ (zm u.a u.l.length u.c)).setCell ⟨w,3,none⟩ (zm r.a r.l.length r.c)).setCell ⟨w,4,none⟩ (zq true)).setCell ⟨w,5,none⟩ (zm g.a g.l.length g.c))=V:=⟨_,rfl⟩;rw [fb] at kA kB kC rU rM hB hz;have bo:=zk kA;have bp:=zk kB;have bq:=zk kC;have fc:=zk rU;have fd:=zk rM;have fe:=zk hB;have ff:=zk (zu e9.out (Af hz.symm));clear kA kB kC rU rM hB hz ap bl bm bn e7 fa e8 e9;obtain ⟨c8,da,db,dc,dd,de,df,dg,dh,di,dj,dk⟩:=bo.out.all6;obtain ⟨dl,dm,dn,dp,dq,dr⟩:=bp.out.all3;obtain ⟨ds,dt,du,dv,dw,dx,dy,dz,d0,d3,d4,d5⟩:=bq.out.all6;have kA:l6 (v2.setCell ⟨w,3,none⟩ (zm none 0 0)) (w) #[zn t',zm ma M.length mc,zm u.a u.l.length u.c,zm none 0 0,zq true,zm g.a g.l.length g.c] 26:=(bo.out.set 3 _);have kB:l6 (v2.setCell ⟨w,3,none⟩ (zm none 0 0)) (w+1) #[zo zp p,zn o,zn en] 92:=(bp.out.other ⟨w,3,none⟩ (by show w.heap.size≠w+1;omega) _);have kC:l6 (v2.setCell ⟨w,3,none⟩ (zm none 0 0)) (w+1+1) #[zn ⟨#[]⟩,zm none 0 0,zm none 0 0,zm none 0 0,zq false,zm none 0 0] 26:=(bq.out.other ⟨w,3,none⟩ (by show w.heap.size≠w+1+1;omega) _);have ap:lx (w::(w.heap.size+1)::(w.heap.size+1+1)::S) v2 (v2.setCell ⟨w,3,none⟩ (zm none 0 0)):=(lx.refl (w::(w.heap.size+1)::(w.heap.size+1+1)::S) v2).setCell (p:=⟨w,3,none⟩) (.inl li) _;have rU:=fc.out.apart ap;have rM:=fd.out.apart ap;have hB:=((fe.out.setCell (p:=⟨w,3,none⟩) (by show w.heap.size≤w;omega) _):Below w w (v2.setCell ⟨w,3,none⟩ (zm none 0 0)));have hz:(v2.setCell ⟨w,3,none⟩ (zm none 0 0)).heap.size=v2:=li;obtain ⟨v3,fg⟩:∃ V,(v2.setCell ⟨w,3,none⟩ (zm none 0 0))=V:=⟨_,rfl⟩;rw [fg] at kA kB kC rU rM hB hz;have br:=zk kA;have an:=zk kB;have b3:=zk kC;have fh:=zk rU;have fn:=zk rM;have b4:=zk hB;have b5:=zk (zu ff.out (Af hz.symm));clear kA kB kC rU rM hB hz ap bo bp bq fc fd fe ff;obtain ⟨d6,d7,d8,d9,ea,bk,eb,ec,ed,ee,ef,eg⟩:=br.out.all6;obtain ⟨eh,ei,ej,ek,el,em⟩:=an.out.all3;obtain ⟨eo,er,es,et,eu,ew,ey,e0,e3,e4,e5,e6⟩:=b3.out.all6;have hcg:∀ W,Below v3 v3 W→W ⟨w,5,none⟩=some (zm g.a g.l.length g.c):=fun W h=>(br.out.onto h).cell 5 _ rfl;have hfs:∀ W,Below v3 v3 W→W ⟨w+1,0,none⟩=some (zo zp p)∧W ⟨w+1,1,none⟩=some (zn o)∧W ⟨w+1,2,none⟩=some (zn en):=fun W h=>⟨(an.out.onto h).cell 0 _ rfl,(an.out.onto h).cell 1 _ rfl,(an.out.onto h).cell 2 _ rfl⟩;have hsr:∀ W,Below v3 v3 W→yh W 3 (zm g.a g.l.length g.c) g.l.length (l8.flat g.l):=fun W h=>BW ((fh.out.g.later h).in);obtain ⟨n,hn⟩:∃ n,g.l.length=n:=⟨_,rfl⟩;have HN:=zk hn;obtain ⟨L,hL⟩:∃ L,g.l++[(⟨p,o,en⟩:l8)]=L:=⟨_,rfl⟩;have hLL:L.length=n+1:=by rw [← hL,Av,hn];rfl
   have hFL:l8.flat L=l8.flat g.l++[zo zp p,zn o,zn en]:=by rw [← hL,JA];rfl
   rw [hn] at hcg hsr GL bk;have HL:=zk hL;have ic:=zk hLL;have ie:=zk hFL;have CG:=zk hcg;have FS:=zk hfs;have gv:=zk hsr;have h32:n<32:=GL.out;clear hn hL hLL hFL hcg hfs hsr;go_wp2_with fail;clear b8 b9 ca cb cc cd ce cf ch ci cj ck cl cm cn co cq cr ct cu cv cw cx cy cz c3 c4 c5 c6 c7 fb c8 da db dc dd de df dg dh di dj dk dl dm dn dp dq dr ds dt du dv dw dx dy dz d0 d3 d4 d5 fg d6 d7 d8 d9 ea bk eb ec ed ee ef eg eh ei ej ek el em eo er es et eu ew ey e0 e3 e4 e5 e6;refine Ah (S:=(fun W:zv=>W ⟨w+1,0,none⟩=some (zo zp p)∧W ⟨w+1,1,none⟩=some (zn o)∧W ⟨w+1,2,none⟩=some (zn en))) lh (FS.out _ (Below.refl v3 v3).drew) (fun hHeld=>?_);refine lz 1 ?_;refine lz 4 ?_;have BS:=zk (Below.refl v3 v3).drew;refine Ak (rs:=[0,2,5]) lh li ?_;refine Ad (by simp only [rg];rfl) (fun K hK=>?a0) (Ad (by simp only [rg];rfl) (fun K hK=>?a2) (Ad (by simp only [rg];rfl) (fun K hK=>?a5) (Al)))
   case' a0 =>
    go_simp;have HO:=zk (eU BS.out.size (n:=v3.heap.size) li);have BS:=zk (BS.out.alloc BS.out.size (zy #[] 92))
    try go_wp2_with fail
    refine hK.out _ _ ?_ (fun hHeld=>?_)
    ·exact FS.out _ BS.out
    clear hK K
    try simp only [zw,mj]
    refine Ak (rs:=[2,5]) lh li ?_;refine Ad (by simp only [rg];rfl) (fun K hK=>?b02) (Ad (by simp only [rg];rfl) (fun K hK=>?b05) (Al))
   case' a2 =>
    have cg:Ay (A9 v3) ⟨w,5,none⟩=_:=CG.out _ BS.out;go_simp
    try go_wp2_with fail
    refine hK.out _ _ ?_ (fun hHeld=>?_)
    ·exact hHeld
    clear hK K cg
    try simp only [zw,mj]
    refine Ak (rs:=[0,5]) lh li ?_;refine Ad (by simp only [rg];rfl) (fun K hK=>?b20) (Ad (by simp only [rg];rfl) (fun K hK=>?b25) (Al))
   case' a5 =>
    go_simp;have HE:=zk (eO BS.out #[zo zp p,zn o,zn en] 92 (n:=v3.heap.size) li);have BS:=zk (BS.out.alloc BS.out.size (zy #[zo zp p,zn o,zn en] 92))
    try go_wp2_with fail
    refine hK.out _ _ ?_ (fun hHeld=>?_)
    ·exact FS.out _ BS.out
    clear hK K
    try simp only [zw,mj]
    refine Ak (rs:=[0,2]) lh li ?_;refine Ad (by simp only [rg];rfl) (fun K hK=>?b50) (Ad (by simp only [rg];rfl) (fun K hK=>?b52) (Al))
   case' b02 =>
    have cg:Ay (A9 (Am v3 (zy #[] 92))) ⟨w,5,none⟩=_:=CG.out _ BS.out;go_simp
    try go_wp2_with fail
    refine hK.out _ _ ?_ (fun hHeld=>?_)
    ·exact hHeld
    clear hK K cg
    try simp only [zw,mj]
    refine Ak (rs:=[3,5]) lh li ?_;refine Ad (by simp only [rg];rfl) (fun K hK=>?c1) (Ad (by simp only [rg];rfl) (fun K hK=>?d1) (Al))
   case' b20 =>
    go_simp;have HO:=zk (eU BS.out.size (n:=v3.heap.size) li);have BS:=zk (BS.out.alloc BS.out.size (zy #[] 92))
    try go_wp2_with fail
    refine hK.out _ _ ?_ (fun hHeld=>?_)
    ·exact FS.out _ BS.out
    clear hK K
    try simp only [zw,mj]
    refine Ak (rs:=[3,5]) lh li ?_;refine Ad (by simp only [rg];rfl) (fun K hK=>?c2) (Ad (by simp only [rg];rfl) (fun K hK=>?d2) (Al))
   case' d1 =>
    go_simp;have HE:=zk (eO BS.out #[zo zp p,zn o,zn en] 92 (n:=v3.heap.size+1) li);have BS:=zk (BS.out.alloc BS.out.size (zy #[zo zp p,zn o,zn en] 92));have HO:=zk (HO.out.alloc (zy #[zo zp p,zn o,zn en] 92))
    try go_wp2_with fail
    refine hK.out _ _ ?_ (fun hHeld=>?_)
    ·exact FS.out _ BS.out
    clear hK K
    try simp only [zw,mj]
   case' d2 =>
    go_simp;have HE:=zk (eO BS.out #[zo zp p,zn o,zn en] 92 (n:=v3.heap.size+1) li);have BS:=zk (BS.out.alloc BS.out.size (zy #[zo zp p,zn o,zn en] 92));have HO:=zk (HO.out.alloc (zy #[zo zp p,zn o,zn en] 92))
    try go_wp2_with fail
    refine hK.out _ _ ?_ (fun hHeld=>?_)
    ·exact FS.out _ BS.out
    clear hK K
    try simp only [zw,mj]
   case' b05 =>
    go_simp;have HE:=zk (eO BS.out #[zo zp p,zn o,zn en] 92 (n:=v3.heap.size+1) li);have BS:=zk (BS.out.alloc BS.out.size (zy #[zo zp p,zn o,zn en] 92));have HO:=zk (HO.out.alloc (zy #[zo zp p,zn o,zn en] 92))
    try go_wp2_with fail
    refine hK.out _ _ ?_ (fun hHeld=>?_)
    ·exact FS.out _ BS.out
    clear hK K
    try simp only [zw,mj]
    refine Ak (rs:=[2]) lh li ?_;refine Ad (by simp only [rg];rfl) (fun K hK=>?_) (Al);have cg:Ay (A9 (Am (Am v3 (zy #[] 92)) (zy #[zo zp p,zn o,zn en] 92))) ⟨w,5,none⟩=_:=CG.out _ BS.out;go_simp
    try go_wp2_with fail
    refine hK.out _ _ ?_ (fun hHeld=>?_)
    ·exact hHeld
    clear hK K cg
    try simp only [zw,mj]
   case' b25 =>
    go_simp;have HE:=zk (eO BS.out #[zo zp p,zn o,zn en] 92 (n:=v3.heap.size) li);have BS:=zk (BS.out.alloc BS.out.size (zy #[zo zp p,zn o,zn en] 92))
    try go_wp2_with fail
    refine hK.out _ _ ?_ (fun hHeld=>?_)
    ·exact FS.out _ BS.out
    clear hK K
    try simp only [zw,mj]
    refine Ak (rs:=[0]) lh li ?_;refine Ad (by simp only [rg];rfl) (fun K hK=>?_) (Al);go_simp;have HO:=zk (eU BS.out.size (n:=v3.heap.size+1) li);have BS:=zk (BS.out.alloc BS.out.size (zy #[] 92));have HE:=zk (HE.out.alloc (zy #[] 92))
    try go_wp2_with fail
    refine hK.out _ _ ?_ (fun hHeld=>?_)
    ·exact FS.out _ BS.out
    clear hK K
    try simp only [zw,mj]
   case' b50 =>
    go_simp;have HO:=zk (eU BS.out.size (n:=v3.heap.size+1) li);have BS:=zk (BS.out.alloc BS.out.size (zy #[] 92));have HE:=zk (HE.out.alloc (zy #[] 92))
    try go_wp2_with fail
    refine hK.out _ _ ?_ (fun hHeld=>?_)
    ·exact FS.out _ BS.out
    clear hK K
    try simp only [zw,mj]
    refine Ak (rs:=[2]) lh li ?_;refine Ad (by simp only [rg];rfl) (fun K hK=>?_) (Al);have cg:Ay (A9 (Am (Am v3 (zy #[zo zp p,zn o,zn en] 92)) (zy #[] 92))) ⟨w,5,none⟩=_:=CG.out _ BS.out;go_simp
    try go_wp2_with fail
    refine hK.out _ _ ?_ (fun hHeld=>?_)
    ·exact hHeld
    clear hK K cg
    try simp only [zw,mj]
   case' b52 =>
    have cg:Ay (A9 (Am v3 (zy #[zo zp p,zn o,zn en] 92))) ⟨w,5,none⟩=_:=CG.out _ BS.out;go_simp
    try go_wp2_with fail
    refine hK.out _ _ ?_ (fun hHeld=>?_)
    ·exact hHeld
    clear hK K cg
    try simp only [zw,mj]
    refine Ak (rs:=[0]) lh li ?_;refine Ad (by simp only [rg];rfl) (fun K hK=>?_) (Al);go_simp;have HO:=zk (eU BS.out.size (n:=v3.heap.size+1) li);have BS:=zk (BS.out.alloc BS.out.size (zy #[] 92));have HE:=zk (HE.out.alloc (zy #[] 92))
    try go_wp2_with fail
    refine hK.out _ _ ?_ (fun hHeld=>?_)
    ·exact FS.out _ BS.out
    clear hK K
    try simp only [zw,mj]
   case' c1|c2 =>
    refine aL _ lm (.tmp 21) (.tmp 23) 24 rfl v3.heap.size 92 i0 _ 3 40 underlying24 hi bw bx bz rfl lj (zm (some ⟨v3,0,none⟩) 0 0) 0 ([]) rfl HO.out (zm g.a n g.c) n (l8.flat g.l) rfl (gv.out _ BS.out) lq lg BS.out.size ?_;intro yr xr ho hg;have BS:=zk (BS.out.grown hg BS.out.size (aB HO.out));have HO:=zk (show xr.ownsRow v3.heap.size 92 3 yr n (l8.flat g.l) by simpa using ho);clear ho hg
    try go_wp2_with fail
    refine hK.out _ _ ?_ (fun hHeld=>?_)
    ·exact FS.out _ BS.out
    clear hK K
    try simp only [zw,mj]
    refine Ak (rs:=[5]) lh li ?_;refine Ad (by simp only [rg];rfl) (fun K hK=>?_) (Al);go_simp;have HE:=zk (eO BS.out #[zo zp p,zn o,zn en] 92 (n:=xr.heap.size) li);have BS:=zk (BS.out.alloc BS.out.size (zy #[zo zp p,zn o,zn en] 92));have HO:=zk (HO.out.alloc (zy #[zo zp p,zn o,zn en] 92))
    try go_wp2_with fail
    refine hK.out _ _ ?_ (fun hHeld=>?_)
    ·exact FS.out _ BS.out
    clear hK K
    try simp only [zw,mj]
   case' d1|d2|b05 =>
    refine Ak (rs:=[3]) lh li ?_;refine Ad (by simp only [rg];rfl) (fun K hK=>?_) (Al);refine aL _ lm (.tmp 21) (.tmp 23) 24 rfl v3.heap.size 92 i0 _ 3 40 underlying24 hi bw bx bz rfl lj (zm (some ⟨v3,0,none⟩) 0 0) 0 ([]) rfl HO.out (zm g.a n g.c) n (l8.flat g.l) rfl (gv.out _ BS.out) lq lg BS.out.size ?_;intro yr xr ho hg;have BS:=zk (BS.out.grown hg BS.out.size (aB HO.out));have HO:=zk (show xr.ownsRow v3.heap.size 92 3 yr n (l8.flat g.l) by simpa using ho);have HE:=zk (dP HE.out hg (by simp [Cg]));clear ho hg
    try go_wp2_with fail
    refine hK.out _ _ ?_ (fun hHeld=>?_)
    ·exact FS.out _ BS.out
    clear hK K
    try simp only [zw,mj]
   case' b25|b50|b52 =>
    refine Ak (rs:=[3]) lh li ?_;refine Ad (by simp only [rg];rfl) (fun K hK=>?_) (Al);refine aL _ lm (.tmp 21) (.tmp 23) 24 rfl v3.heap.size 92 i0 _ 3 40 underlying24 hi bw bx bz rfl lj (zm (some ⟨v3+1,0,none⟩) 0 0) 0 ([]) rfl HO.out (zm g.a n g.c) n (l8.flat g.l) rfl (gv.out _ BS.out) lq lg BS.out.size ?_;intro yr xr ho hg;have BS:=zk (BS.out.grown hg BS.out.size (aB HO.out));have HO:=zk (show xr.ownsRow v3.heap.size 92 3 yr n (l8.flat g.l) by simpa using ho);have HE:=zk (dP HE.out hg (by simp [Cg]));clear ho hg
    try go_wp2_with fail
    refine hK.out _ _ ?_ (fun hHeld=>?_)
    ·exact FS.out _ BS.out
    clear hK K
    try simp only [zw,mj]
   all_goals
    refine Ak (rs:=[6]) lh li ?_;refine Ad (by simp only [rg];rfl) (fun K hK=>?_) (Al);refine aL _ lm (.tmp 24) (.tmp 26) 24 rfl v3.heap.size 92 i0 _ 3 40 underlying24 hi bw bx bz rfl lj _ n (l8.flat g.l) rfl HO.out _ 1 [zo zp p,zn o,zn en] rfl (PY HE.out) lq lg BS.out.size ?_;intro y9 w9 ho hg;have hbb:=BS.out.grown hg BS.out.size (aB HO.out);have h7:w9.ownsRow v3 92 3 y9 L.length (l8.flat L):=by rw [ic.out,ie.out];exact ho
    obtain ⟨a9,c9,ev,h8⟩:=dV h7;subst ev;have bs:=zk (br.out.onto hbb);have ab:=zk (an.out.onto hbb);have bu:=zk (b3.out.onto hbb);have bv:=zk (fh.out.later hbb);have fi:=zk (fn.out.later hbb);have b6:=zk (b4.out.trans (hbb.mono b4.out.size));have b7:=zk (zu b5.out hbb.size);have h9:=zk (h8.off (S:=(w.heap.size::(w.heap.size+1)::(w.heap.size+1+1)::S)) (fun i hi=>zz (INT.out i hi) b5.out));clear ho h7 hg h8 hbb br an b3 fh fn b4 b5;refine hK.out _ _ ?_ (fun hHeld=>?_)
    ·exact ⟨ab.out.cell 0 _ rfl,ab.out.cell 1 _ rfl,ab.out.cell 2 _ rfl⟩
    clear hK K
    try simp only [zw,mj]
    obtain ⟨fo,fp,fq,fr,fs,ft,fu,fv,fw,fx,fy,fz⟩:=bs.out.all6;obtain ⟨f0,f1,f2,f3,f4,f5⟩:=ab.out.all3;obtain ⟨f6,f7,f8,f9,ga,gb,gc,gd,gf,gg,gh,gi⟩:=bu.out.all6;refine lz 7 ?_;refine m8 8 fun K hK=>?_;go_simp;skip
    try go_wp2_with fail
    refine hK.out _ _ ?_ (fun hHeld=>?_)
    ·exact blk3c (ab.out.other ⟨w,5,none⟩ (by show w.heap.size≠w+1;omega) _)
    clear hK K
    try simp only [zw,mj]
    refine Ae lh ?_ _;have kA:l6 (w9.setCell ⟨w,5,none⟩ (zm a9 L.length c9)) (w) #[zn t',zm ma M.length mc,zm u.a u.l.length u.c,zm none 0 0,zq true,zm a9 L.length c9] 26:=(bs.out.set 5 _);have kB:l6 (w9.setCell ⟨w,5,none⟩ (zm a9 L.length c9)) (w+1) #[zo zp p,zn o,zn en] 92:=(ab.out.other ⟨w,5,none⟩ (by show w.heap.size≠w+1;omega) _);have kC:l6 (w9.setCell ⟨w,5,none⟩ (zm a9 L.length c9)) (w+1+1) #[zn ⟨#[]⟩,zm none 0 0,zm none 0 0,zm none 0 0,zq false,zm none 0 0] 26:=(bu.out.other ⟨w,5,none⟩ (by show w.heap.size≠w+1+1;omega) _);have ap:lx (w::(w.heap.size+1)::(w.heap.size+1+1)::S) w9 (w9.setCell ⟨w,5,none⟩ (zm a9 L.length c9)):=(lx.refl (w::(w.heap.size+1)::(w.heap.size+1+1)::S) w9).setCell (p:=⟨w,5,none⟩) (.inl li) _;have rU:=bv.out.apart ap;have rM:=fi.out.apart ap;have rG:=h9.out.apart ap;have hB:=((b6.out.setCell (p:=⟨w,5,none⟩) (by show w.heap.size≤w;omega) _):Below w w (w9.setCell ⟨w,5,none⟩ (zm a9 L.length c9)));have hz:(w9.setCell ⟨w,5,none⟩ (zm a9 L.length c9)).heap.size=w9:=li;obtain ⟨v5,ig⟩:∃ V,(w9.setCell ⟨w,5,none⟩ (zm a9 L.length c9))=V:=⟨_,rfl⟩;rw [ig] at kA kB kC rU rM rG hB hz;have fj:=zk kA;have fk:=zk kB;have fm:=zk kC;have gj:=zk rU;have gk:=zk rM;have ih:=zk rG;have gm:=zk hB;have gw:=zk (zu b7.out (Af hz.symm));clear kA kB kC rU rM rG hB hz ap bs ab bu bv fi h9 b6 b7;obtain ⟨gx,gy,gz,g0,g1,g2,g3,g4,g5,g6,g7,g8⟩:=fj.out.all6;obtain ⟨g9,hc,hd,he,hf,hj⟩:=fk.out.all3;obtain ⟨gn,gp,gq,gs,gt,gu,hk,hq,hs,hv,hw,hx⟩:=fm.out.all6;go_wp2;refine Az (v:=Ax #[(l7.v ⟨t',⟨ma,M,mc⟩,u,⟨none,[],0⟩,true,⟨a9,L,c9⟩⟩),zo zp 0]) (by simp [Bi,results71,go_sem,gn,gp,gq,gs,gt,gu]) rfl ?_;refine ⟨⟨t',⟨ma,M,mc⟩,u,⟨none,[],0⟩,true,⟨a9,L,c9⟩⟩,rfl,(by unfold l7.d;simp only [← HL.out];rfl),?_,?_⟩
    ·refine mm.wide (S:=(w.heap.size::(w.heap.size+1)::(w.heap.size+1+1)::S)) (mm.apart (w:=v5) ⟨gk.out,gj.out.u,tf.empty _ _,ih.out⟩ ?_) (fun i hi=>.inl (by simp [hi]))
     iterate 6 refine lx.setCell ?_ (.inl li) _
     exact lx.refl _ _
    ·iterate 6 refine Below.setCell ?_ (by show w.heap.size≤w+1+1;omega) _
     exact gm.out
 | false =>
  have e1:pf (l7.d ⟨t,m,u,r,false,g⟩) ⟨p,o,en⟩=(⟨(oq t p o en).1,pb m.l (mu p o.size en.size),np (mf u.l) [⟨p,o,en⟩],[],false,g.l⟩,0):=by unfold pf;rw [if_neg (fun h=>by cases h.1)];rfl
  rw [e1];obtain ⟨t',ht'⟩:∃ y,(oq t p o en).1=y:=⟨_,rfl⟩;obtain ⟨M,hM⟩:∃ M,pb m.l (mu p o.size en.size)=M:=⟨_,rfl⟩;simp only [ht',hM] at cp ⊢;have CP:=zk cp;clear e1 cp ht ho hn hl hp ha ht' hM hi bw bx bz;obtain ⟨wX,hwX,kA,kB,kC,aa,hz⟩:=box3 w #[zn t,zm m.a m.l.length m.c,zm u.a u.l.length u.c,zm r.a r.l.length r.c,zq false,zm g.a g.l.length g.c] #[zo zp p,zn o,zn en] #[zn ⟨#[]⟩,zm none 0 0,zm none 0 0,zm none 0 0,zq false,zm none 0 0] 26 92 26;have inT:=iR hS hz rfl;have rU:mm (w::(w.heap.size+1)::(w.heap.size+1+1)::S) wX ⟨t,m,u,r,false,g⟩:=(hin.wide (S':=(w.heap.size::(w.heap.size+1)::(w.heap.size+1+1)::S)) (fun i hi=>by simp only [zt] at hi;rcases hi with rfl|rfl|rfl|hi;exact .inr (zx _);exact .inr (A8 _);exact .inr lg;exact .inl hi)).later aa;have ac:=zk (kA);have ad:=zk (kB);have ae:=zk (kC);have af:=zk (rU);have ag:=zk (aa);have ao:=zk (zx wX);have INT:=zk inT;obtain ⟨aq,ar,au,av,aw,ax,ay,az,a1,a3,a4,a6⟩:=ac.out.all6;obtain ⟨a7,a8,ba,bb,bc,bd⟩:=ad.out.all3;obtain ⟨ah,ai,aj,ak,al,am,be,bf,bg,bh,bi,bj⟩:=ae.out.all6;have UL:=zk hu;clear kA kB kC rU aa inT hin hS hz hu;go_enter func71,ntmps71;go_wp2_with fail;refine (CP.out _ af.out (fun i hi=>zz (INT.out i hi) ao.out)).mono ?_;rintro e w1 ⟨ma,mc,rfl,hm,hb⟩;clear aq ar au av aw ax ay az a1 a3 a4 a6 a7 a8 ba bb bc bd ah ai aj ak al am be bf bg bh bi bj;have bl:=zk (ac.out.onto hb);have bm:=zk (ad.out.onto hb);have bn:=zk (ae.out.onto hb);have e7:=zk (af.out.later hb);have e8:=zk (ag.out.trans (hb.mono ag.out.size));have e9:=zk (zu ao.out hb.size);have fa:=zk (hm);clear hb hm ac ad ae af ag ao;obtain ⟨b8,b9,ca,cb,cc,cd,ce,cf,ch,ci,cj,ck⟩:=bl.out.all6;obtain ⟨cl,cm,cn,co,cq,cr⟩:=bm.out.all3;obtain ⟨ct,cu,cv,cw,cx,cy,cz,c3,c4,c5,c6,c7⟩:=bn.out.all6;clear hwX CP;have kA:l6 ((((((w1.setCell ⟨w,0,none⟩ (zn t')).setCell ⟨w,1,none⟩ (zm ma M.length mc)).setCell ⟨w,2,none⟩ (zm u.a u.l.length u.c)).setCell ⟨w,3,none⟩ (zm r.a r.l.length r.c)).setCell ⟨w,4,none⟩ (zq false)).setCell ⟨w,5,none⟩ (zm g.a g.l.length g.c)) (w) #[zn t',zm ma M.length mc,zm u.a u.l.length u.c,zm r.a r.l.length r.c,zq false,zm g.a g.l.length g.c] 26:=((((((bl.out.set 0 _).set 1 _).set 2 _).set 3 _).set 4 _).set 5 _);have kB:l6 ((((((w1.setCell ⟨w,0,none⟩ (zn t')).setCell ⟨w,1,none⟩ (zm ma M.length mc)).setCell ⟨w,2,none⟩ (zm u.a u.l.length u.c)).setCell ⟨w,3,none⟩ (zm r.a r.l.length r.c)).setCell ⟨w,4,none⟩ (zq false)).setCell ⟨w,5,none⟩ (zm g.a g.l.length g.c)) (w+1) #[zo zp p,zn o,zn en] 92:=((((((bm.out.other ⟨w,0,none⟩ (by show w.heap.size≠w+1;omega) _).other ⟨w,1,none⟩ (by show w.heap.size≠w+1;omega) _).other ⟨w,2,none⟩ (by show w.heap.size≠w+1;omega) _).other ⟨w,3,none⟩ (by show w.heap.size≠w+1;omega) _).other ⟨w,4,none⟩ (by show w.heap.size≠w+1;omega) _).other ⟨w,5,none⟩ (by show w.heap.size≠w+1;omega) _);have kC:l6 ((((((w1.setCell ⟨w,0,none⟩ (zn t')).setCell ⟨w,1,none⟩ (zm ma M.length mc)).setCell ⟨w,2,none⟩ (zm u.a u.l.length u.c)).setCell ⟨w,3,none⟩ (zm r.a r.l.length r.c)).setCell ⟨w,4,none⟩ (zq false)).setCell ⟨w,5,none⟩ (zm g.a g.l.length g.c)) (w+1+1) #[zn ⟨#[]⟩,zm none 0 0,zm none 0 0,zm none 0 0,zq false,zm none 0 0] 26:=((((((bn.out.other ⟨w,0,none⟩ (by show w.heap.size≠w+1+1;omega) _).other ⟨w,1,none⟩ (by show w.heap.size≠w+1+1;omega) _).other ⟨w,2,none⟩ (by show w.heap.size≠w+1+1;omega) _).other ⟨w,3,none⟩ (by show w.heap.size≠w+1+1;omega) _).other ⟨w,4,none⟩ (by show w.heap.size≠w+1+1;omega) _).other ⟨w,5,none⟩ (by show w.heap.size≠w+1+1;omega) _);have ap:lx (w::(w.heap.size+1)::(w.heap.size+1+1)::S) w1 ((((((w1.setCell ⟨w,0,none⟩ (zn t')).setCell ⟨w,1,none⟩ (zm ma M.length mc)).setCell ⟨w,2,none⟩ (zm u.a u.l.length u.c)).setCell ⟨w,3,none⟩ (zm r.a r.l.length r.c)).setCell ⟨w,4,none⟩ (zq false)).setCell ⟨w,5,none⟩ (zm g.a g.l.length g.c)):=((((((lx.refl (w::(w.heap.size+1)::(w.heap.size+1+1)::S) w1).setCell (p:=⟨w,0,none⟩) (.inl li) _).setCell (p:=⟨w,1,none⟩) (.inl li) _).setCell (p:=⟨w,2,none⟩) (.inl li) _).setCell (p:=⟨w,3,none⟩) (.inl li) _).setCell (p:=⟨w,4,none⟩) (.inl li) _).setCell (p:=⟨w,5,none⟩) (.inl li) _;have rU:=e7.out.apart ap;have rM:=fa.out.apart ap;have hB:=(((((((e8.out.setCell (p:=⟨w,0,none⟩) (by show w.heap.size≤w;omega) _).setCell (p:=⟨w,1,none⟩) (by show w.heap.size≤w;omega) _).setCell (p:=⟨w,2,none⟩) (by show w.heap.size≤w;omega) _).setCell (p:=⟨w,3,none⟩) (by show w.heap.size≤w;omega) _).setCell (p:=⟨w,4,none⟩) (by show w.heap.size≤w;omega) _).setCell (p:=⟨w,5,none⟩) (by show w.heap.size≤w;omega) _):Below w w ((((((w1.setCell ⟨w,0,none⟩ (zn t')).setCell ⟨w,1,none⟩ (zm ma M.length mc)).setCell ⟨w,2,none⟩ (zm u.a u.l.length u.c)).setCell ⟨w,3,none⟩ (zm r.a r.l.length r.c)).setCell ⟨w,4,none⟩ (zq false)).setCell ⟨w,5,none⟩ (zm g.a g.l.length g.c)));have hz:((((((w1.setCell ⟨w,0,none⟩ (zn t')).setCell ⟨w,1,none⟩ (zm ma M.length mc)).setCell ⟨w,2,none⟩ (zm u.a u.l.length u.c)).setCell ⟨w,3,none⟩ (zm r.a r.l.length r.c)).setCell ⟨w,4,none⟩ (zq false)).setCell ⟨w,5,none⟩ (zm g.a g.l.length g.c)).heap.size=w1:=li;obtain ⟨v2,fb⟩:∃ V,((((((w1.setCell ⟨w,0,none⟩ (zn t')).setCell ⟨w,1,none⟩ (zm ma M.length mc)).setCell ⟨w,2,none⟩ (zm u.a u.l.length u.c)).setCell ⟨w,3,none⟩ (zm r.a r.l.length r.c)).setCell ⟨w,4,none⟩ (zq false)).setCell ⟨w,5,none⟩ (zm g.a g.l.length g.c))=V:=⟨_,rfl⟩;rw [fb] at kA kB kC rU rM hB hz;have bo:=zk kA;have bp:=zk kB;have bq:=zk kC;have fc:=zk rU;have fd:=zk rM;have fe:=zk hB;have ff:=zk (zu e9.out (Af hz.symm));clear kA kB kC rU rM hB hz ap bl bm bn e7 fa e8 e9;obtain ⟨c8,da,db,dc,dd,de,df,dg,dh,di,dj,dk⟩:=bo.out.all6;obtain ⟨dl,dm,dn,dp,dq,dr⟩:=bp.out.all3;obtain ⟨ds,dt,du,dv,dw,dx,dy,dz,d0,d3,d4,d5⟩:=bq.out.all6;have kA:l6 (v2.setCell ⟨w,3,none⟩ (zm none 0 0)) (w) #[zn t',zm ma M.length mc,zm u.a u.l.length u.c,zm none 0 0,zq false,zm g.a g.l.length g.c] 26:=(bo.out.set 3 _);have kB:l6 (v2.setCell ⟨w,3,none⟩ (zm none 0 0)) (w+1) #[zo zp p,zn o,zn en] 92:=(bp.out.other ⟨w,3,none⟩ (by show w.heap.size≠w+1;omega) _);have kC:l6 (v2.setCell ⟨w,3,none⟩ (zm none 0 0)) (w+1+1) #[zn ⟨#[]⟩,zm none 0 0,zm none 0 0,zm none 0 0,zq false,zm none 0 0] 26:=(bq.out.other ⟨w,3,none⟩ (by show w.heap.size≠w+1+1;omega) _);have ap:lx (w::(w.heap.size+1)::(w.heap.size+1+1)::S) v2 (v2.setCell ⟨w,3,none⟩ (zm none 0 0)):=(lx.refl (w::(w.heap.size+1)::(w.heap.size+1+1)::S) v2).setCell (p:=⟨w,3,none⟩) (.inl li) _;have rU:=fc.out.apart ap;have rM:=fd.out.apart ap;have hB:=((fe.out.setCell (p:=⟨w,3,none⟩) (by show w.heap.size≤w;omega) _):Below w w (v2.setCell ⟨w,3,none⟩ (zm none 0 0)));have hz:(v2.setCell ⟨w,3,none⟩ (zm none 0 0)).heap.size=v2:=li;obtain ⟨v3,fg⟩:∃ V,(v2.setCell ⟨w,3,none⟩ (zm none 0 0))=V:=⟨_,rfl⟩;rw [fg] at kA kB kC rU rM hB hz;have br:=zk kA;have an:=zk kB;have b3:=zk kC;have fh:=zk rU;have fn:=zk rM;have b4:=zk hB;have b5:=zk (zu ff.out (Af hz.symm));clear kA kB kC rU rM hB hz ap bo bp bq fc fd fe ff;obtain ⟨d6,d7,d8,d9,ea,bk,eb,ec,ed,ee,ef,eg⟩:=br.out.all6;obtain ⟨eh,ei,ej,ek,el,em⟩:=an.out.all3;obtain ⟨eo,er,es,et,eu,ew,ey,e0,e3,e4,e5,e6⟩:=b3.out.all6;obtain ⟨wE,hwE,kE,hb,hzE⟩:=n8 v3 #[zo zp p,zn o,zn en] 92;have bs:=zk (br.out.onto hb);have ab:=zk (an.out.onto hb);have bu:=zk (b3.out.onto hb);have bv:=zk (fh.out.later hb);have fi:=zk (fn.out.later hb);have b6:=zk (b4.out.trans (hb.mono b4.out.size));have b7:=zk (zu b5.out hb.size);have KE:=zk kE;have ii:=zk hzE;have cpu:=fR u.a u.l u.c ⟨some ⟨v3,0,none⟩,[⟨p,o,en⟩],1⟩ wE bv.out.u.in (sv.in (S:=[]) ⟨eone kE ⟨lg,li⟩,fun e=>by cases e⟩) UL.out;have ia:=zk (show Aa prog 76 #[zm u.a u.l.length u.c,oy (some ⟨v3,0,none⟩) (1:Nat) 1] wE _ from cpu);clear cpu kE hzE hb;obtain ⟨Q,hQ⟩:∃ Q,(u.l++[(⟨some ⟨v3,0,none⟩,[⟨p,o,en⟩],1⟩:mo)]).drop (u.l.length+1 - 16)=Q:=⟨_,rfl⟩;rw [hQ] at ia;have HQ:=zk hQ;clear hQ;obtain ⟨fo,fp,fq,fr,fs,ft,fu,fv,fw,fx,fy,fz⟩:=bs.out.all6;obtain ⟨f0,f1,f2,f3,f4,f5⟩:=ab.out.all3;obtain ⟨f6,f7,f8,f9,ga,gb,gc,gd,gf,gg,gh,gi⟩:=bu.out.all6;go_wp2_with fail;refine (ia.out).mono ?_;rintro e w5 ⟨ua,uc,rfl,hr,hb⟩;clear b8 b9 ca cb cc cd ce cf ch ci cj ck cl cm cn co cq cr ct cu cv cw cx cy cz c3 c4 c5 c6 c7 fb c8 da db dc dd de df dg dh di dj dk dl dm dn dp dq dr ds dt du dv dw dx dy dz d0 d3 d4 d5 fg d6 d7 d8 d9 ea bk eb ec ed ee ef eg eh ei ej ek el em eo er es et eu ew ey e0 e3 e4 e5 e6 hwE fo fp fq fr fs ft fu fv fw fx fy fz f0 f1 f2 f3 f4 f5 f6 f7 f8 f9 ga gb gc gd gf gg gh gi;have fj:=zk (bs.out.onto hb);have fk:=zk (ab.out.onto hb);have fm:=zk (bu.out.onto hb);have gj:=zk (bv.out.later hb);have gk:=zk (fi.out.later hb);have gm:=zk (b6.out.trans (hb.mono b6.out.size));have gw:=zk (zu b7.out hb.size);have ib:=zk (hr.off (S:=(w.heap.size::(w.heap.size+1)::(w.heap.size+1+1)::S)) (fun i hi=>zz (INT.out i hi) b7.out) (fun y hy=>by
   rw [← HQ.out] at hy;rcases Bf.1 (Be hy) with h|h
   ·exact (bv.out.u.all y h).later hb
   ·obtain rfl:=Aw.1 h;exact sv.later (S:=(w.heap.size::(w.heap.size+1)::(w.heap.size+1+1)::S)) ⟨eone KE.out ⟨by have:=ii.out;omega,fun h=>by have:=INT.out _ h;have:=b5.out;omega⟩,fun e=>by cases e⟩ hb))
  clear hb hr bs ab bu bv fi b6 b7;obtain ⟨gx,gy,gz,g0,g1,g2,g3,g4,g5,g6,g7,g8⟩:=fj.out.all6;obtain ⟨g9,hc,hd,he,hf,hj⟩:=fk.out.all3;obtain ⟨gn,gp,gq,gs,gt,gu,hk,hq,hs,hv,hw,hx⟩:=fm.out.all6;have kA:l6 (w5.setCell ⟨w,2,none⟩ (zm ua Q.length uc)) (w) #[zn t',zm ma M.length mc,zm ua Q.length uc,zm none 0 0,zq false,zm g.a g.l.length g.c] 26:=(fj.out.set 2 _);have kB:l6 (w5.setCell ⟨w,2,none⟩ (zm ua Q.length uc)) (w+1) #[zo zp p,zn o,zn en] 92:=(fk.out.other ⟨w,2,none⟩ (by show w.heap.size≠w+1;omega) _);have kC:l6 (w5.setCell ⟨w,2,none⟩ (zm ua Q.length uc)) (w+1+1) #[zn ⟨#[]⟩,zm none 0 0,zm none 0 0,zm none 0 0,zq false,zm none 0 0] 26:=(fm.out.other ⟨w,2,none⟩ (by show w.heap.size≠w+1+1;omega) _);have ap:lx (w::(w.heap.size+1)::(w.heap.size+1+1)::S) w5 (w5.setCell ⟨w,2,none⟩ (zm ua Q.length uc)):=(lx.refl (w::(w.heap.size+1)::(w.heap.size+1+1)::S) w5).setCell (p:=⟨w,2,none⟩) (.inl li) _;have rU:=gj.out.apart ap;have rM:=gk.out.apart ap;have rP:=ib.out.apart ap;have hB:=((gm.out.setCell (p:=⟨w,2,none⟩) (by show w.heap.size≤w;omega) _):Below w w (w5.setCell ⟨w,2,none⟩ (zm ua Q.length uc)));have hz:(w5.setCell ⟨w,2,none⟩ (zm ua Q.length uc)).heap.size=w5:=li;obtain ⟨v6,ij⟩:∃ V,(w5.setCell ⟨w,2,none⟩ (zm ua Q.length uc))=V:=⟨_,rfl⟩;rw [ij] at kA kB kC rU rM rP hB hz;have ik:=zk kA;have il:=zk kB;have im:=zk kC;have io:=zk rU;have ip:=zk rM;have iq:=zk rP;have ir:=zk hB;have ji:=zk (zu gw.out (Af hz.symm));clear kA kB kC rU rM rP hB hz ap fj fk fm gj gk ib gm gw;obtain ⟨it,iu,iv,iw,ix,iy,iz,i1,i2,i3,i4,i5⟩:=ik.out.all6;obtain ⟨i6,i7,i8,i9,ja,jb⟩:=il.out.all3;obtain ⟨h0,h2,h3,h4,h5,h6,jc,jd,je,jf,jg,jh⟩:=im.out.all6;go_wp2;refine Az (v:=Ax #[(l7.v ⟨t',⟨ma,M,mc⟩,⟨ua,Q,uc⟩,⟨none,[],0⟩,false,g⟩),zo zp 0]) (by simp [Bi,results71,go_sem,h0,h2,h3,h4,h5,h6]) rfl ?_;refine ⟨⟨t',⟨ma,M,mc⟩,⟨ua,Q,uc⟩,⟨none,[],0⟩,false,g⟩,rfl,(by unfold l7.d;simp only [← HQ.out,iA,fK,np,aD];rfl),?_,?_⟩
  ·refine mm.wide (S:=(w.heap.size::(w.heap.size+1)::(w.heap.size+1+1)::S)) (mm.apart (w:=v6) ⟨ip.out,iq.out,tf.empty _ _,io.out.g⟩ ?_) (fun i hi=>.inl (by simp [hi]))
   iterate 6 refine lx.setCell ?_ (.inl li) _
   exact lx.refl _ _
  ·iterate 6 refine Below.setCell ?_ (by show w.heap.size≤w+1+1;omega) _
   exact ir.out
end Go.Proofs.YtbagenpobcgjnaaGreat
