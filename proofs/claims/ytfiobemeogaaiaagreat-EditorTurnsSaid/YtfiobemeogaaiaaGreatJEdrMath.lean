/-
  Joined: EdrMath, EdrMem, EdrNow, EdrDev, EdrMath2, EdrDev2, EdrDev3, EdrDev4, EdrMath3, EdrTurn.
-/
import Derived.Test.YtfiobemeogaaiaaGreatJStaRight
import Derived.Test.YtfiobemeogaaiaaGreatJWeldOf
import Derived.Test.YtfiobemeogaaiaaGreatJUtfRTake
import Derived.Test.YtfiobemeogaaiaaGreatJStkRef2
import Derived.Test.YtfiobemeogaaiaaGreatJStrs
import Derived.Test.YtfiobemeogaaiaaGreatJMarkDev3
import Derived.Test.YtfiobemeogaaiaaGreatJMarkCat
import Derived.Deep.RegionHeld3
import Derived.Test.YtfiobemeogaaiaaGreatJSq
import Derived.Test.YtfiobemeogaaiaaGreatStepDev2
import Derived.Test.YtfiobemeogaaiaaGreatOpDev
namespace Go.Proofs.YtfiobemeogaaiaaGreat
open Go.RowKit
set_option linter.unusedVariables false
set_option linter.unusedSimpArgs false
theorem zQ (x:Edt) (r:List Edt):invL (x::r)=invL r++[x.back]:=by unfold invL;rw [List.map_cons,List.reverse_cons]
theorem EU (a b:List Edt):invL (a++b)=invL b++invL a:=by unfold invL;rw [List.map_append,List.reverse_append]
theorem pN (l:List Edt):invL (invL l)=l:=by
 unfold invL
 rw [← List.map_reverse,List.reverse_reverse,List.map_map]
 have:(Edt.back ∘ Edt.back)=id:=by funext x;rfl
 rw [this,List.map_id]
theorem EL:invL []=[]:=rfl
theorem fT {t s:ByteArray} {x:Edt} (h:appE t x.p x.o x.n=(s,0)):runE t [x]=(s,0):=by rw [dS h,bZ]
theorem gZ {t s:ByteArray} {x:Edt} {r:List Edt} (h:runE t (x::r)=(s,0)):∃ u,appE t x.p x.o x.n=(u,0)∧runE u r=(s,0):=by
 obtain ⟨⟨u,e⟩,hu⟩:∃ y,appE t x.p x.o x.n=y:=⟨_,rfl⟩
 by_cases he:e=0
 ·subst he
  rw [dS hu] at h
  exact ⟨u,hu,h⟩
 ·rw [fX hu he] at h
  exact absurd (congrArg Prod.snd h) he
theorem kJ {t:ByteArray} {l:List Edt} (h:(runE t l).2=0):runE t l=((runE t l).1,0):=by rw [← h]
theorem jZ {t s:ByteArray} {l:List Edt} (hv:vldB t.data.toList=true) (ht:t.size≤4096) (h:runE t l=(s,0)):vldB s.data.toList=true∧s.size≤4096∧runE s (invL l)=(t,0):=by
 induction l generalizing t with
 | nil =>
  rw [bZ] at h
  obtain rfl:t=s:=congrArg Prod.fst h
  exact ⟨hv,ht,bZ _⟩
 | cons x r ih =>
  obtain ⟨u,hu,hr⟩:=gZ h
  obtain ⟨hb,huv⟩:=kW hv ht hu
  obtain ⟨h1,h2,h3⟩:=ih huv (bQ hu) hr
  refine ⟨h1,h2,?_⟩
  rw [zQ,qI,h3,if_pos rfl]
  exact fT (x:=x.back) hb
theorem ET {t s:ByteArray} {l:List Edt} (h:runE t l=(s,0)) (k:Nat):∃ u,runE t (l.take k)=(u,0)∧runE u (l.drop k)=(s,0):=by
 have e:=qI t (l.take k) (l.drop k)
 rw [List.take_append_drop,h] at e
 by_cases g:(runE t (l.take k)).2=0
 ·rw [if_pos g] at e
  exact ⟨_,kJ g,e.symm⟩
 ·rw [if_neg g] at e
  exact absurd (congrArg Prod.snd e).symm g
theorem lJ {t s:ByteArray} {l:List Edt} (ht:t.size≤4096) (h:runE t l=(s,0)):∀ x∈l,0≤x.p∧x.p≤4096:=by
 induction l generalizing t with
 | nil=>exact fun x hx=>absurd hx (by simp)
 | cons y r ih =>
  obtain ⟨u,hu,hr⟩:=gZ h
  intro x hx
  rcases List.mem_cons.1 hx with rfl|hx
  ·obtain ⟨k,e,hk,-⟩:=iM hu
   omega
  ·exact ih (bQ hu) hr x hx
def shfL (m:List Mrk) (l:List Edt):List Mrk:=l.foldl (fun m x=>shfM m (shiftI x.p x.o.size x.n.size)) m
theorem mO (m:List Mrk) (x:Edt) (l:List Edt):shfL m (x::l)=shfL (shfM m (shiftI x.p x.o.size x.n.size)) l:=rfl
theorem yO (m:List Mrk) (l:List Edt) (k:Nat) (hk:k<l.length):shfL m (l.take (k+1))=shfM (shfL m (l.take k)) (shiftI (l[k]!).p (l[k]!).o.size (l[k]!).n.size):=by
 unfold shfL
 rw [List.take_add_one,List.getElem?_eq_getElem hk,← eget hk,List.foldl_append]
 rfl
theorem BA (m:List Mrk) (l:List Edt):(shfL m l).length=m.length:=by
 induction l generalizing m with
 | nil=>rfl
 | cons x r ih=>rw [mO,ih,bH]
theorem nT {t:ByteArray} {x:Mrk} (h:okM t x=true):markB x.name.data.toList=true∧edgeB t.data.toList x.p=true:=by
 unfold okM at h
 simpa using h
theorem BV {t:ByteArray} {p:Int} (h:edgeB t.data.toList p=true):0≤p∧p≤t.size:=by
 have:=iW h
 have e:t.data.toList.length=t.size:=by simp
 omega
theorem DA {l:List Mrk} {t:ByteArray} (h:rightM l t=true):∀ x∈l,0≤x.p∧x.p≤t.size:=fun x hx=>by
 obtain ⟨i,hi,rfl⟩:=List.getElem_of_mem hx
 have:=((aP l t).1 h).1 i hi
 rw [mget hi] at this
 exact BV (nT this).2
theorem jO {l:List Mrk} {t o n s:ByteArray} {p:Int} (hv:vldB t.data.toList=true) (h:appE t p o n=(s,0)) (hr:rightM l t=true):rightM (shfM l (shiftI p o.size n.size)) s=true:=by
 obtain ⟨h1,h2,h3⟩:=(aP l t).1 hr
 rw [aP]
 refine ⟨fun i hi=>?_,by rw [bH];exact h2,by rw [zY];exact h3⟩
 rw [bH] at hi
 rw [fB l _ i hi]
 have hk:=nT (h1 i hi)
 unfold okM
 rw [show markB (l[i]!).name.data.toList=true from hk.1,Bool.true_and]
 exact uZ hv h hk.2
theorem iQ {l:List Edt} {m:List Mrk} {t s:ByteArray} (hv:vldB t.data.toList=true) (ht:t.size≤4096) (h:runE t l=(s,0)) (hr:rightM m t=true):rightM (shfL m l) s=true:=by
 induction l generalizing t m with
 | nil =>
  rw [bZ] at h
  obtain rfl:t=s:=congrArg Prod.fst h
  exact hr
 | cons x r ih =>
  obtain ⟨u,hu,h2⟩:=gZ h
  rw [mO]
  exact ih (kW hv ht hu).2 (bQ hu) h2 (jO hv hu hr)
theorem uQ {f:List Edt→List Edt} {t:ByteArray} {L:List (List Edt)} (h:goesE f t L=true) (k:Nat):goesE f t (L.take k)=true:=by
 induction L generalizing t k with
 | nil=>rw [List.take_nil];rfl
 | cons x r ih =>
  cases k with
  | zero=>rw [List.take_zero];rfl
  | succ k =>
   rw [List.take_succ_cons]
   cases hx:rightS t (f x)
   ·rw [gN hx] at h;cases h
   ·rw [fC hx] at h ⊢
    exact ih h k
theorem cK {f:List Edt→List Edt} {t:ByteArray} {L:List (List Edt)}:goes16 f t L=true↔goesE f t L.reverse=true∧L.length≤16:=by unfold goes16;simp
theorem eJ (f:List Edt→List Edt) (t:ByteArray):goes16 f t []=true:=rfl
theorem dW {f:List Edt→List Edt} {t t':ByteArray} {L:List (List Edt)} {st:List Edt} (hs:rightS t' (f st)=true) (ht:(runE t' (f st)).1=t) (h:goes16 f t L=true):goes16 f t' (pushL L st)=true:=by
 obtain ⟨h1,h2⟩:=cK.1 h
 rw [cK]
 refine ⟨?_,by rw [yB];omega⟩
 have e:(pushL L st).reverse=st::(L.reverse.take (min L.length 15)):=by
  unfold pushL
  rw [List.reverse_drop,List.reverse_append,List.reverse_singleton,List.singleton_append,List.length_append,List.length_singleton,show L.length+1 - (L.length+1 - 16)=min L.length 15+1 by omega,List.take_succ_cons]
 rw [e,fC hs,ht]
 exact uQ h1 _
theorem cL {f:List Edt→List Edt} {t:ByteArray} {L:List (List Edt)} {k:Nat} (hk:L.length=k+1) (h:goes16 f t L=true):rightS t (f L[k]!)=true∧goes16 f (runE t (f L[k]!)).1 (L.take k)=true:=by
 obtain ⟨h1,h2⟩:=cK.1 h
 have e:=qX L k (by omega)
 rw [← hk,List.take_length] at e
 rw [e] at h1
 cases hx:rightS t (f L[k]!)
 ·rw [gN hx] at h1;cases h1
 ·rw [fC hx] at h1
  exact ⟨rfl,cK.2 ⟨h1,by rw [List.length_take];omega⟩⟩
theorem cH {t:ByteArray} {l:List Edt}:rightS t l=true↔1≤l.length∧l.length≤32∧(runE t l).2=0:=by
 unfold rightS
 simp [and_assoc]
theorem fY {L:List (List Edt)} {st x:List Edt} (h:x∈pushL L st):x∈L∨x=st:=by
 unfold pushL at h
 have:=List.mem_of_mem_drop h
 simpa using this
theorem eP {L:List (List Edt)} {k:Nat} (h:k<L.length):L[k]! ∈ L:=by rw [getElem!_pos L k h];exact List.getElem_mem h
structure InvS (s:StaD):Prop where
 v:vldB s.t.data.toList=true
 z:s.t.size≤4096
 m:rightM s.m s.t=true
 r:goes16 id s.t s.r=true
 go:s.g=[]∨(s.o=true∧s.r=[])
 gl:s.g.length≤32
 gr:(runE s.t (invL s.g)).2=0
 u:goes16 invL (runE s.t (invL s.g)).1 s.u=true
 ue:∀ l∈s.u,∀ x∈l,okE5 x=true
 re:∀ l∈s.r,∀ x∈l,okE5 x=true
 ge:∀ x∈s.g,okE5 x=true
theorem gI {l:List EPc}:smallE l=true↔∀ x∈lsP l,∀ y∈x,okE5 y=true:=by
 unfold smallE lsP
 simp only [List.all_eq_true,List.mem_map]
 exact ⟨fun h x ⟨y,hy,e⟩ z hz=>h y hy z (by rw [e];exact hz),fun h y hy z hz=>h y.l ⟨y,hy,rfl⟩ z hz⟩
theorem sU (s:Sta):rightP s=true↔InvS s.d:=by
 unfold rightP mayT lastB
 rw [uO]
 have hg:smallE [s.g]=true↔∀ x∈s.g.l,okE5 x=true:=by rw [gI];simp [lsP]
 by_cases g0:s.g.l.length=0
 ·have e:s.g.l=[]:=List.eq_nil_of_length_eq_zero g0
  rw [if_pos g0]
  simp only [Bool.and_eq_true,decide_eq_true_eq,gI]
  constructor
  ·rintro ⟨⟨h1,h2⟩,h3,h4,h5,h6,h7,h8⟩
   exact ⟨h2,h1,h3,h4,.inl e,by show s.g.l.length≤32;omega,by show (runE s.t (invL s.g.l)).2=0;rw [e];rfl,by show goes16 invL (runE s.t (invL s.g.l)).1 _=true;rw [e];exact h5,h6,h7,by show ∀ x∈s.g.l,_;rw [e];simp⟩
  ·intro h
   have hu:goes16 invL (runE s.t (invL s.g.l)).1 (lsP s.u.l)=true:=h.u
   rw [e] at hu
   exact ⟨⟨h.z,h.v⟩,h.m,h.r,hu,h.ue,h.re,by simp [lsP,e]⟩
 ·rw [if_neg g0]
  simp only [Bool.and_eq_true,decide_eq_true_eq,gI,cH,aE]
  have aa:(∀ x∈lsP [s.g],∀ y∈x,okE5 y=true)↔∀ x∈s.g.l,okE5 x=true:=by simp [lsP]
  rw [aa]
  constructor
  ·rintro ⟨⟨h1,h2⟩,h3,h4,h5,h6,⟨h7,h8,h9⟩,h10,h11,h12,h13⟩
   exact ⟨h2,h1,h3,h4,.inr ⟨h5,by show lsP s.r.l=[];rw [List.eq_nil_of_length_eq_zero h6];rfl⟩,h8,h9,h10,h11,h12,h13⟩
  ·intro h
   have hgo:=h.go
   rcases hgo with hgo|⟨h1,h2⟩
   ·exact absurd (congrArg List.length hgo) g0
   ·have h2:lsP s.r.l=[]:=h2
    have h2:=congrArg List.length h2
    rw [aA] at h2
    exact ⟨⟨h.z,h.v⟩,h.m,h.r,h1,h2,⟨by omega,h.gl,h.gr⟩,h.u,h.ue,h.re,h.ge⟩
def editD (s:StaD) (x:Edt):StaD×Int:=
 if s.o=true∧32≤s.g.length then (s,9)
 else (⟨(appE s.t x.p x.o x.n).1,shfM s.m (shiftI x.p x.o.size x.n.size),if s.o=true then s.u else pushL s.u [x],[],s.o,if s.o=true then s.g++[x] else s.g⟩,0)
def insX (i:Int) (x:ByteArray):Edt:=⟨i,⟨#[]⟩,x⟩
def delX (t:ByteArray) (i n:Int):Edt:=⟨i,t.extract i.toNat (i+n).toNat,⟨#[]⟩⟩
def insD (s:StaD) (i:Int) (x:ByteArray):StaD×Int:=
 if insE s.t i x≠0 then (s,insE s.t i x) else if 512<x.size then (s,6) else if x.size=0 then (s,0) else editD s (insX i x)
def delD (s:StaD) (i n:Int):StaD×Int:=
 if delE s.t i n≠0 then (s,delE s.t i n) else if 512<n then (s,6) else if n=0 then (s,0) else editD s (delX s.t i n)
def withMk (s:StaD) (r:List Mrk×Int):StaD×Int:=(if r.2=0 then ⟨s.t,r.1,s.u,s.r,s.o,s.g⟩ else s,r.2)
def markD (s:StaD) (i:Int) (x:ByteArray):StaD×Int:=
 if markB x.data.toList=false then (s,7) else if i<0∨(s.t.size:Int)<i then (s,3) else if edgeB s.t.data.toList i=false then (s,4) else withMk s (setM s.m ⟨x,i⟩)
def unmarkD (s:StaD) (x:ByteArray):StaD×Int:=withMk s (drpM s.m x)
def undoD (s:StaD):StaD×Int:=
 if s.o=true then (s,11) else if s.u.length=0 then (s,10)
 else (⟨(runE s.t (invL s.u[s.u.length - 1]!)).1,shfL s.m (invL s.u[s.u.length - 1]!),s.u.take (s.u.length - 1),pushL s.r s.u[s.u.length - 1]!,s.o,s.g⟩,0)
def redoD (s:StaD):StaD×Int:=
 if s.o=true then (s,11) else if s.r.length=0 then (s,10)
 else (⟨(runE s.t s.r[s.r.length - 1]!).1,shfL s.m s.r[s.r.length - 1]!,pushL s.u s.r[s.r.length - 1]!,s.r.take (s.r.length - 1),s.o,s.g⟩,0)
def beginD (s:StaD):StaD×Int:=if s.o=true then (s,11) else (⟨s.t,s.m,s.u,s.r,true,s.g⟩,0)
def endD (s:StaD):StaD×Int:=if s.o=false then (s,11) else (⟨s.t,s.m,if s.g.length=0 then s.u else pushL s.u s.g,s.r,false,[]⟩,0)
def doD (s:StaD) (k i n:Int) (x:ByteArray):StaD×Int:=
 if k=1 then insD s i x else if k=2 then delD s i n else if k=3 then markD s i x else if k=4 then unmarkD s x
 else if k=5 then undoD s else if k=6 then redoD s else if k=7 then beginD s else if k=8 then endD s else (s,2)
theorem tH {t x:ByteArray} {i:Int} (h:insE t i x=0):appE t (insX i x).p (insX i x).o (insX i x).n=(insS t i x,0):=by
 obtain ⟨h1,h2,h3,h4⟩:=xM h
 obtain ⟨g1,-,g3⟩:=dD.1 h1
 obtain ⟨k,rfl⟩:=Int.eq_ofNat_of_zero_le g1
 have hv:vldB (⟨#[]⟩:ByteArray).data.toList=true:=by decide
 show appE t k ⟨#[]⟩ x=_
 have hs:(⟨#[]⟩:ByteArray).size=0:=rfl
 rw [fS (by omega) (by
  have:t.extract k (k+(⟨#[]⟩:ByteArray).size)=⟨#[]⟩:=by
   apply aM
   rw [aB,hs]
   simp
  exact this) h2 (by rw [hs];exact h2) hv h3 (by rw [hs];omega)]
 unfold insS
 rw [if_pos h,hs]
 rfl
theorem GA {t:ByteArray} {a b:Nat} (hv:vldB t.data.toList=true) (hab:a≤b) (hb:b≤t.size) (ha:edgeB t.data.toList a=true) (hb2:edgeB t.data.toList b=true):vldB (t.extract a b).data.toList=true:=by
 rw [aW] at hv ⊢
 rw [bD] at ha hb2
 rw [aB]
 have h1:=(eT _ b hv hb2).1
 have e:(t.data.toList.take b).drop a=(t.data.toList.drop a).take (b - a):=by rw [List.drop_take]
 rw [← e]
 refine (eT _ a h1 ?_).2
 have hl:t.data.toList.length=t.size:=by simp
 rcases Nat.lt_or_ge a b with g|g
 ·rcases ha with h|h|⟨h,hc⟩
  ·exact .inl h
  ·omega
  ·refine .inr (.inr ⟨by rw [List.length_take];omega,?_⟩)
   have:=aV (t.data.toList.take b) (t.data.toList.drop b) a (by rw [List.length_take];omega)
   rw [List.take_append_drop] at this
   rw [← this]
   exact hc
 ·exact .inr (.inl (by rw [List.length_take];omega))
theorem tN {t:ByteArray} {i n:Int} (hv:vldB t.data.toList=true) (ht:t.size≤4096) (h:delE t i n=0):appE t (delX t i n).p (delX t i n).o (delX t i n).n=(delS t i n,0)∧((delX t i n).o.size:Int)=n:=by
 obtain ⟨h1,h2,h3⟩:=nH h
 obtain ⟨g1,g2,g3⟩:=dD.1 h1
 obtain ⟨k,rfl⟩:=Int.eq_ofNat_of_zero_le g1
 obtain ⟨m,rfl⟩:=Int.eq_ofNat_of_zero_le g2
 have e1:((k:Int)+(m:Int)).toNat=k+m:=by omega
 have e3:((k:Int)+(m:Int))=((k+m:Nat):Int):=by omega
 have hs:(t.extract k (k+m)).size=m:=by rw [ByteArray.size_extract];omega
 have hx:delX t k m=⟨k,t.extract k (k+m),⟨#[]⟩⟩:=by unfold delX;rw [e1,Int.toNat_natCast]
 rw [hx]
 rw [e3] at h3
 refine ⟨?_,by show ((t.extract k (k+m)).size:Int)=m;rw [hs]⟩
 show appE t k (t.extract k (k+m)) ⟨#[]⟩=_
 rw [fS (by omega) (by rw [hs]) h2 (by rw [hs];exact h3) (GA hv (by omega) (by omega) h2 h3) (by decide) (by rw [hs];show ¬ 4096+m<t.size+0;omega),hs]
 unfold delS
 rw [if_pos h,e1]
 congr 1
 apply aM
 simp
theorem InvS.runs {s:StaD} (h:InvS s) {st:List Edt} (hr:rightS s.t st=true):∃ t',runE s.t st=(t',0)∧vldB t'.data.toList=true∧t'.size≤4096∧rightS t' (invL st)=true∧(runE t' (invL st)).1=s.t:=by
 obtain ⟨h1,h2,h3⟩:=cH.1 hr
 obtain ⟨a,b,c⟩:=jZ h.v h.z (kJ h3)
 exact ⟨_,kJ h3,a,b,cH.2 ⟨by rw [aE];exact h1,by rw [aE];exact h2,by rw [c]⟩,by rw [c]⟩
theorem jW {s:StaD} {x:Edt} {t':ByteArray} (h:InvS s) (hx:appE s.t x.p x.o x.n=(t',0)) (ho:okE5 x=true):InvS (editD s x).1:=by
 unfold editD
 by_cases hc:s.o=true∧32≤s.g.length
 ·rw [if_pos hc];exact h
 rw [if_neg hc,hx]
 obtain ⟨hb,hv⟩:=kW h.v h.z hx
 have hm:=jO h.v hx h.m
 by_cases hp:s.o=true
 ·have hgr:runE t' (invL (s.g++[x]))=runE s.t (invL s.g):=by
   rw [EU]
   exact dS (x:=x.back) hb
  refine ⟨hv,bQ hx,hm,eJ _ _,.inr ⟨hp,rfl⟩,?_,?_,?_,?_,fun l hl=>absurd hl (by simp),?_⟩
  ·show (if s.o=true then s.g++[x] else s.g).length≤32
   rw [if_pos hp,List.length_append,List.length_singleton]
   have:¬ 32≤s.g.length:=fun g=>hc ⟨hp,g⟩
   omega
  ·show (runE t' (invL (if s.o=true then s.g++[x] else s.g))).2=0
   rw [if_pos hp,hgr]
   exact h.gr
  ·show goes16 invL (runE t' (invL (if s.o=true then s.g++[x] else s.g))).1 (if s.o=true then s.u else pushL s.u [x])=true
   rw [if_pos hp,if_pos hp,hgr]
   exact h.u
  ·show ∀ l∈(if s.o=true then s.u else pushL s.u [x]),_
   rw [if_pos hp]
   exact h.ue
  ·show ∀ y∈(if s.o=true then s.g++[x] else s.g),_
   rw [if_pos hp]
   intro y hy
   rcases List.mem_append.1 hy with hy|hy
   ·exact h.ge y hy
   ·rw [List.mem_singleton.1 hy];exact ho
 ·have hg:s.g=[]:=by
   rcases h.go with g|g
   ·exact g
   ·exact absurd g.1 hp
  have hu:=h.u
  rw [hg] at hu
  refine ⟨hv,bQ hx,hm,eJ _ _,.inl (by show (if s.o=true then s.g++[x] else s.g)=[];rw [if_neg hp,hg]),?_,?_,?_,?_,fun l hl=>absurd hl (by simp),?_⟩
  ·show (if s.o=true then s.g++[x] else s.g).length≤32
   rw [if_neg hp];exact h.gl
  ·show (runE t' (invL (if s.o=true then s.g++[x] else s.g))).2=0
   rw [if_neg hp,hg]
   rfl
  ·show goes16 invL (runE t' (invL (if s.o=true then s.g++[x] else s.g))).1 (if s.o=true then s.u else pushL s.u [x])=true
   rw [if_neg hp,if_neg hp,hg]
   have aa:runE t' (invL [x])=(s.t,0):=fT (x:=x.back) hb
   exact dW (t:=s.t) (cH.2 ⟨by rw [aE];exact Nat.le_refl _,by rw [aE];simp,by show (runE t' (invL [x])).2=0;rw [aa]⟩) (by show (runE t' (invL [x])).1=s.t;rw [aa]) hu
  ·show ∀ l∈(if s.o=true then s.u else pushL s.u [x]),_
   rw [if_neg hp]
   intro l hl y hy
   rcases fY hl with g|g
   ·exact h.ue l g y hy
   ·rw [g] at hy;rw [List.mem_singleton.1 hy];exact ho
  ·show ∀ y∈(if s.o=true then s.g++[x] else s.g),_
   rw [if_neg hp];exact h.ge
theorem nN {s:StaD} (h:InvS s) {l:List Mrk} (hl:rightM l s.t=true):InvS ⟨s.t,l,s.u,s.r,s.o,s.g⟩:=⟨h.v,h.z,hl,h.r,h.go,h.gl,h.gr,h.u,h.ue,h.re,h.ge⟩
theorem oW {s:StaD} (h:InvS s):InvS (undoD s).1:=by
 unfold undoD
 by_cases ho:s.o=true
 ·rw [if_pos ho];exact h
 rw [if_neg ho]
 by_cases hl:s.u.length=0
 ·rw [if_pos hl];exact h
 rw [if_neg hl]
 have hg:s.g=[]:=by
  rcases h.go with g|g
  ·exact g
  ·exact absurd g.1 ho
 have hu:=h.u
 rw [hg] at hu
 obtain ⟨k,hk⟩:∃ k,s.u.length=k+1:=⟨s.u.length - 1,by omega⟩
 rw [show s.u.length - 1=k by omega]
 obtain ⟨hr,hrest⟩:=cL hk hu
 obtain ⟨t',e,hv,hz,hb,hbt⟩:=h.runs hr
 rw [pN] at hb hbt
 replace hrest:goes16 invL (runE s.t (invL s.u[k]!)).1 (s.u.take k)=true:=hrest
 rw [e] at hrest ⊢
 have hm:=h.ue _ (eP (L:=s.u) (k:=k) (by omega))
 refine ⟨hv,hz,iQ h.v h.z e h.m,dW (f:=id) hb hbt h.r,.inl hg,h.gl,?_,?_,fun l hl=>h.ue l (List.mem_of_mem_take hl),fun l hl=>?_,h.ge⟩
 ·show (runE t' (invL s.g)).2=0
  rw [hg];rfl
 ·show goes16 invL (runE t' (invL s.g)).1 _=true
  rw [hg];exact hrest
 ·rcases fY hl with g|g
  ·exact h.re l g
  ·rw [g];exact hm
theorem pI {s:StaD} (h:InvS s):InvS (redoD s).1:=by
 unfold redoD
 by_cases ho:s.o=true
 ·rw [if_pos ho];exact h
 rw [if_neg ho]
 by_cases hl:s.r.length=0
 ·rw [if_pos hl];exact h
 rw [if_neg hl]
 have hg:s.g=[]:=by
  rcases h.go with g|g
  ·exact g
  ·exact absurd g.1 ho
 have hu:=h.u
 rw [hg] at hu
 obtain ⟨k,hk⟩:∃ k,s.r.length=k+1:=⟨s.r.length - 1,by omega⟩
 rw [show s.r.length - 1=k by omega]
 obtain ⟨hr,hrest⟩:=cL hk h.r
 obtain ⟨t',e,hv,hz,hb,hbt⟩:=h.runs (st:=s.r[k]!) hr
 replace hrest:goes16 id (runE s.t s.r[k]!).1 (s.r.take k)=true:=hrest
 rw [e] at hrest ⊢
 have hm:=h.re _ (eP (L:=s.r) (k:=k) (by omega))
 refine ⟨hv,hz,iQ h.v h.z e h.m,hrest,.inl hg,h.gl,?_,?_,fun l hl=>?_,fun l hl=>h.re l (List.mem_of_mem_take hl),h.ge⟩
 ·show (runE t' (invL s.g)).2=0
  rw [hg];rfl
 ·show goes16 invL (runE t' (invL s.g)).1 _=true
  rw [hg];exact dW (f:=invL) hb hbt hu
 ·rcases fY hl with g|g
  ·exact h.ue l g
  ·rw [g];exact hm
theorem yP {s:StaD} (h:InvS s):InvS (beginD s).1:=by
 unfold beginD
 by_cases ho:s.o=true
 ·rw [if_pos ho];exact h
 rw [if_neg ho]
 have hg:s.g=[]:=by
  rcases h.go with g|g
  ·exact g
  ·exact absurd g.1 ho
 exact ⟨h.v,h.z,h.m,h.r,.inl hg,h.gl,h.gr,h.u,h.ue,h.re,h.ge⟩
theorem tK {s:StaD} (h:InvS s):InvS (endD s).1:=by
 unfold endD
 by_cases ho:s.o=false
 ·rw [if_pos ho];exact h
 rw [if_neg ho]
 refine ⟨h.v,h.z,h.m,h.r,.inl rfl,Nat.zero_le _,rfl,?_,?_,h.re,fun x hx=>absurd hx (by simp)⟩
 ·show goes16 invL s.t (if s.g.length=0 then s.u else pushL s.u s.g)=true
  by_cases hg:s.g.length=0
  ·rw [if_pos hg]
   have e:s.g=[]:=List.eq_nil_of_length_eq_zero hg
   have hu:=h.u
   rw [e] at hu
   exact hu
  ·rw [if_neg hg]
   exact dW (f:=invL) (cH.2 ⟨by rw [aE];omega,by rw [aE];exact h.gl,h.gr⟩) rfl h.u
 ·show ∀ l∈(if s.g.length=0 then s.u else pushL s.u s.g),_
  by_cases hg:s.g.length=0
  ·rw [if_pos hg];exact h.ue
  ·rw [if_neg hg]
   intro l hl
   rcases fY hl with g|g
   ·exact h.ue l g
   ·rw [g];exact h.ge
theorem zC {l:List Mrk}:riseM l=true↔l.Pairwise (fun a b=>ltN a.name b.name):=by
 rw [List.pairwise_iff_getElem]
 constructor
 ·intro h i j hi hj hij
  have:=fU h hij hj
  rwa [mget hi,mget hj] at this
 ·intro h
  refine (fK l).2 fun i hi=>(dM _ _).2 ?_
  rw [mget hi,mget (show i<l.length by omega)]
  exact h i (i+1) (by omega) hi (Nat.lt_succ_self i)
theorem eN {l:List Mrk} {t:ByteArray}:rightM l t=true↔(∀ y∈l,okM t y=true)∧l.length≤16∧l.Pairwise (fun a b=>ltN a.name b.name):=by
 rw [aP,zC]
 constructor
 ·rintro ⟨h1,h2,h3⟩
  refine ⟨fun y hy=>?_,h2,h3⟩
  obtain ⟨i,hi,rfl⟩:=List.getElem_of_mem hy
  have:=h1 i hi
  rwa [mget hi] at this
 ·rintro ⟨h1,h2,h3⟩
  exact ⟨fun i hi=>by rw [mget hi];exact h1 _ (List.getElem_mem hi),h2,h3⟩
theorem xZ {a b:ByteArray} (h:¬ ltN b a) (hn:¬ a=b):ltN a b:=by
 unfold ltN at h ⊢
 rcases Decidable.em (a.data.toList<b.data.toList) with g|g
 ·exact g
 ·refine absurd ?_ hn
  have:=List.le_antisymm (List.not_lt.1 h) (List.not_lt.1 g)
  exact ByteArray.ext (Array.toList_inj.1 this)
theorem vV {l:List Mrk} {t:ByteArray} (h:rightM l t=true) (s:ByteArray):rightM (dropM l s) t=true:=by
 rw [eN] at h ⊢
 obtain ⟨h1,h2,h3⟩:=h
 exact ⟨fun y hy=>h1 y (List.mem_filter.1 hy).1,Nat.le_trans (yX l s) h2,h3.filter _⟩
theorem zN {l:List Mrk} {t:ByteArray} (h:rightM l t=true) (s:ByteArray) (ho:(drpM l s).2=0):rightM (drpM l s).1 t=true:=by
 unfold drpM at ho ⊢
 split
 ·exact vV h s
 ·rename_i hc
  rw [if_neg hc] at ho
  cases ho
theorem oN {R:Mrk→Mrk→Prop} {a b:List Mrk} {x:Mrk} (h:(a++b).Pairwise R) (ha:∀ y∈a,R y x) (hb:∀ y∈b,R x y):(a++[x]++b).Pairwise R:=by
 rw [List.pairwise_append] at h
 rw [List.append_assoc,List.pairwise_append]
 refine ⟨h.1,?_,?_⟩
 ·rw [List.singleton_append,List.pairwise_cons]
  exact ⟨hb,h.2.1⟩
 ·intro y hy z hz
  rw [List.singleton_append] at hz
  rcases List.mem_cons.1 hz with rfl|hz
  ·exact ha y hy
  ·exact h.2.2 y hy z hz
theorem yA {l:List Mrk} {x:Mrk} {t:ByteArray} (h:rightM l t=true) (hx:edgeB t.data.toList x.p=true) (ho:(setM l x).2=0):rightM (setM l x).1 t=true:=by
 have hri:=((aP l t).1 h).2.2
 obtain ⟨h1,h2,h3⟩:=eN.1 h
 unfold setM at ho ⊢
 by_cases c1:markB x.name.data.toList=false
 ·rw [if_pos c1] at ho;cases ho
 rw [if_neg c1] at ho ⊢
 have hok:okM t x=true:=by
  unfold okM
  rw [bW c1,hx]
  rfl
 by_cases c2:l.findIdx (nmB x.name)<l.length
 ·rw [if_pos c2]
  show rightM (withM (dropM l x.name) x) t=true
  rw [pE hri c2]
  obtain ⟨i,he⟩:∃ i,l.findIdx (nmB x.name)=i:=⟨_,rfl⟩
  have hn:=lU c2
  rw [he] at c2 hn ⊢
  have hn':(l[i]!).name=x.name:=of_decide_eq_true hn
  rw [mget c2] at hn'
  have e:l=l.take i++l[i]::l.drop (i+1):=by simp
  rw [e,List.pairwise_append,List.pairwise_cons] at h3
  obtain ⟨p1,⟨p2,p3⟩,p4⟩:=h3
  rw [eN]
  refine ⟨fun y hy=>?_,?_,?_⟩
  ·rw [List.append_assoc,List.mem_append,List.singleton_append,List.mem_cons] at hy
   rcases hy with hy|rfl|hy
   ·exact h1 y (List.mem_of_mem_take hy)
   ·exact hok
   ·exact h1 y (List.mem_of_mem_drop hy)
  ·rw [List.length_append,List.length_append,List.length_take,List.length_drop,List.length_singleton]
   omega
  ·refine oN ?_ (fun y hy=>?_) (fun y hy=>?_)
   ·rw [List.pairwise_append]
    exact ⟨p1,p3,fun y hy z hz=>p4 y hy z (List.mem_cons_of_mem _ hz)⟩
   ·have:=p4 y hy l[i] (List.mem_cons_self ..)
    rwa [hn'] at this
   ·have:=p2 y hy
    rwa [hn'] at this
 ·rw [if_neg c2] at ho ⊢
  by_cases c3:16≤l.length
  ·rw [if_pos c3] at ho;cases ho
  rw [if_neg c3]
  show rightM (withM l x) t=true
  unfold withM
  obtain ⟨i,he⟩:∃ i,l.findIdx (gtB x.name)=i:=⟨_,rfl⟩
  have hle:=lE l (gtB x.name)
  have ha:=fun j=>iH (l:=l) (f:=gtB x.name) (j:=j)
  have hat:=lU (l:=l) (f:=gtB x.name)
  have hnn:∀ j,j<l.length→¬ (l[j]!).name=x.name:=fun j hj g=>by
   have h4:l.findIdx (nmB x.name)=l.length:=Nat.le_antisymm (lE _ _) (Nat.not_lt.1 c2)
   have:=iH (l:=l) (f:=nmB x.name) (j:=j) (by omega)
   unfold nmB at this
   exact of_decide_eq_false this g
  rw [he] at hle ha hat ⊢
  rw [eN]
  unfold putM
  have e:l=l.take i++l.drop i:=(List.take_append_drop i l).symm
  refine ⟨fun y hy=>?_,?_,?_⟩
  ·rw [List.append_assoc,List.mem_append,List.singleton_append,List.mem_cons] at hy
   rcases hy with hy|rfl|hy
   ·exact h1 y (List.mem_of_mem_take hy)
   ·exact hok
   ·exact h1 y (List.mem_of_mem_drop hy)
  ·rw [List.length_append,List.length_append,List.length_take,List.length_drop,List.length_singleton]
   omega
  ·refine oN (by rw [← e];exact h3) (fun y hy=>?_) (fun y hy=>?_)
   ·obtain ⟨j,hj,rfl⟩:=List.getElem_of_mem hy
    rw [List.length_take] at hj
    rw [List.getElem_take]
    have g1:=ha j (by omega)
    have g2:=hnn j (by omega)
    rw [mget (by omega)] at g1 g2
    exact xZ (fun g=>by rw [(jB _ _).2 g] at g1;cases g1) g2
   ·obtain ⟨j,hj,rfl⟩:=List.getElem_of_mem hy
    rw [List.length_drop] at hj
    rw [List.getElem_drop]
    have hil:i<l.length:=by omega
    have g1:=(jB _ _).1 (hat hil)
    rcases Nat.eq_zero_or_pos j with rfl|aa
    ·rw [mget hil] at g1
     exact g1
    ·have g2:=fU hri (show i<i+j by omega) (by omega)
     rw [mget (show i+j<l.length by omega)] at g2
     exact iA g1 g2
def stD0:StaD:=⟨⟨#[]⟩,[],[],[],false,[]⟩
theorem GH:InvS stD0:=⟨by decide,Nat.zero_le _,by decide,eJ _ _,.inl rfl,Nat.zero_le _,rfl,eJ _ _,fun l hl=>absurd hl (by simp [stD0]),fun l hl=>absurd hl (by simp [stD0]),fun l hl=>absurd hl (by simp [stD0])⟩
theorem tS {s:StaD} {x:Edt} (h:(editD s x).2≠0):(editD s x).1=s:=by
 unfold editD at h ⊢
 split
 ·rfl
 ·rename_i c;rw [if_neg c] at h;exact absurd rfl h
theorem GQ {s:StaD} {i:Int} {x:ByteArray} (h:(insD s i x).2≠0):(insD s i x).1=s:=by
 unfold insD at h ⊢
 split
 ·rfl
 split
 ·rfl
 split
 ·rfl
 rename_i a b c
 rw [if_neg a,if_neg b,if_neg c] at h
 exact tS h
theorem IY {s:StaD} {i n:Int} (h:(delD s i n).2≠0):(delD s i n).1=s:=by
 unfold delD at h ⊢
 split
 ·rfl
 split
 ·rfl
 split
 ·rfl
 rename_i a b c
 rw [if_neg a,if_neg b,if_neg c] at h
 exact tS h
theorem tQ {s:StaD} {r:List Mrk×Int} (h:(withMk s r).2≠0):(withMk s r).1=s:=by
 unfold withMk at h ⊢
 exact if_neg h
theorem FV {s:StaD} {i:Int} {x:ByteArray} (h:(markD s i x).2≠0):(markD s i x).1=s:=by
 unfold markD at h ⊢
 split
 ·rfl
 split
 ·rfl
 split
 ·rfl
 rename_i a b c
 rw [if_neg a,if_neg b,if_neg c] at h
 exact tQ h
theorem FC {s:StaD} (h:(undoD s).2≠0):(undoD s).1=s:=by
 unfold undoD at h ⊢
 split
 ·rfl
 split
 ·rfl
 rename_i a b
 rw [if_neg a,if_neg b] at h
 exact absurd rfl h
theorem EY {s:StaD} (h:(redoD s).2≠0):(redoD s).1=s:=by
 unfold redoD at h ⊢
 split
 ·rfl
 split
 ·rfl
 rename_i a b
 rw [if_neg a,if_neg b] at h
 exact absurd rfl h
theorem BB {s:StaD} (h:(beginD s).2≠0):(beginD s).1=s:=by
 unfold beginD at h ⊢
 split
 ·rfl
 rename_i a
 rw [if_neg a] at h
 exact absurd rfl h
theorem IV {s:StaD} (h:(endD s).2≠0):(endD s).1=s:=by
 unfold endD at h ⊢
 split
 ·rfl
 rename_i a
 rw [if_neg a] at h
 exact absurd rfl h
theorem EW {s:StaD} {k i n:Int} {x:ByteArray} (h:(doD s k i n x).2≠0):(doD s k i n x).1=s:=by
 unfold doD at h ⊢
 by_cases c1:k=1
 ·rw [if_pos c1] at h ⊢;exact GQ h
 rw [if_neg c1] at h ⊢
 by_cases c2:k=2
 ·rw [if_pos c2] at h ⊢;exact IY h
 rw [if_neg c2] at h ⊢
 by_cases c3:k=3
 ·rw [if_pos c3] at h ⊢;exact FV h
 rw [if_neg c3] at h ⊢
 by_cases c4:k=4
 ·rw [if_pos c4] at h ⊢;exact tQ h
 rw [if_neg c4] at h ⊢
 by_cases c5:k=5
 ·rw [if_pos c5] at h ⊢;exact FC h
 rw [if_neg c5] at h ⊢
 by_cases c6:k=6
 ·rw [if_pos c6] at h ⊢;exact EY h
 rw [if_neg c6] at h ⊢
 by_cases c7:k=7
 ·rw [if_pos c7] at h ⊢;exact BB h
 rw [if_neg c7] at h ⊢
 by_cases c8:k=8
 ·rw [if_pos c8] at h ⊢;exact IV h
 rw [if_neg c8]
theorem mM {f:List Edt→List Edt} (hf:∀ l,(f l).length=l.length) {t:ByteArray} {L:List (List Edt)} (h:goesE f t L=true):∀ l∈L,1≤l.length∧l.length≤32:=by
 induction L generalizing t with
 | nil=>exact fun l hl=>absurd hl (by simp)
 | cons x r ih =>
  cases hx:rightS t (f x)
  ·rw [gN hx] at h;cases h
  ·rw [fC hx] at h
   intro l hl
   rcases List.mem_cons.1 hl with rfl|hl
   ·have:=cH.1 hx
    rw [hf] at this
    exact ⟨this.1,this.2.1⟩
   ·exact ih h l hl
theorem InvS.ul {s:StaD} (h:InvS s):s.u.length≤16∧∀ l∈s.u,1≤l.length∧l.length≤32:=by
 obtain ⟨h1,h2⟩:=cK.1 h.u
 exact ⟨h2,fun l hl=>mM aE h1 l (List.mem_reverse.2 hl)⟩
theorem InvS.rl {s:StaD} (h:InvS s):s.r.length≤16∧∀ l∈s.r,1≤l.length∧l.length≤32:=by
 obtain ⟨h1,h2⟩:=cK.1 h.r
 exact ⟨h2,fun l hl=>mM (f:=id) (fun _=>rfl) h1 l (List.mem_reverse.2 hl)⟩
theorem InvS.ml {s:StaD} (h:InvS s):s.m.length≤16:=((aP _ _).1 h.m).2.1
theorem cQ {l:List EPc} {P:List Edt→Prop} (h:∀ x∈lsP l,P x):∀ x∈l,P x.l:=fun x hx=>h _ (List.mem_map.2 ⟨x,hx,rfl⟩)
end Go.Proofs.YtfiobemeogaaiaaGreat
namespace Go.Proofs.YtfiobemeogaaiaaGreat
variable {T : List Nat}
open Go.RowKit
set_option linter.unusedVariables false
set_option linter.unusedSimpArgs false
structure EPo (S:List Nat) (w:World) (x:EPc):Prop where
 row:Edts w (Off S w) x.a x.l
 nil:x.a=none→x.c=0
structure KPo (S:List Nat) (w:World) (x:KPc):Prop where
 row:Mrks w (Off S w) x.a x.l
 nil:x.a=none→x.c=0
structure SPo (S:List Nat) (w:World) (x:SPc):Prop where
 row:Scs w (Off S w) x.a x.l
 all:∀ y∈x.l,EPo S w y
 nil:x.a=none→x.c=0
 le:x.l.length≤x.c
 cap:x.c≤maxLen
structure StaO (S:List Nat) (w:World) (s:Sta):Prop where
 m:KPo S w s.m
 u:SPo S w s.u
 r:SPo S w s.r
 g:EPo S w s.g
theorem kY {S S':List Nat} {w:World} (hS:∀ i∈S',i∈S∨w.heap.size≤i) {b:Nat} (hb:Off S w b):Off S' w b:=⟨hb.1,fun g=>by
 have h1:=hb.1
 rcases hS b g with g|g
 ·exact hb.2 g
 ·omega⟩
theorem EPo.in {S:List Nat} {w:World} {x:EPc} (h:EPo S w x):EPcs w x:=⟨h.row.more fun _ hb=>hb.1,h.nil⟩
theorem EPo.apart {S:List Nat} {w w':World} {x:EPc} (h:EPo S w x) (ha:Apart S w w'):EPo S w' x:=⟨(h.row.keep fun p hp=>ha.cell hp.1 hp.2).more fun b hb=>hb.on ha.size,h.nil⟩
theorem EPo.wide {S S':List Nat} {w:World} {x:EPc} (h:EPo S w x) (hS:∀ i∈S',i∈S∨w.heap.size≤i):EPo S' w x:=⟨h.row.more fun b hb=>kY hS hb,h.nil⟩
theorem EPo.later {S:List Nat} {w w':World} {x:EPc} (h:EPo S w x) (hb:Below w.heap.size w w'):EPo S w' x:=h.apart (.of_below hb)
theorem ERow.off {S:List Nat} {w:World} {base:Nat} {x:EPc} (h:ERow w base x) (hS:∀ i∈S,i<base):EPo S w x:=⟨h.row.more fun b hb=>⟨hb.2,fun g=>by have:=hS b g;have:=hb.1;omega⟩,h.nil⟩
theorem KPo.in {S:List Nat} {w:World} {x:KPc} (h:KPo S w x):KPcs w x:=⟨h.row.more fun _ hb=>hb.1,h.nil⟩
theorem KPo.pcs {S:List Nat} {w:World} {a:Option Addr} {l:List Mrk} {c:Nat} (h:KPo S w ⟨a,l,c⟩):Pcs w ⟨a,l,c⟩:=⟨h.row.more fun _ hb=>hb.1,h.nil⟩
theorem KPo.apart {S:List Nat} {w w':World} {x:KPc} (h:KPo S w x) (ha:Apart S w w'):KPo S w' x:=⟨(h.row.keep fun p hp=>ha.cell hp.1 hp.2).more fun b hb=>hb.on ha.size,h.nil⟩
theorem KPo.wide {S S':List Nat} {w:World} {x:KPc} (h:KPo S w x) (hS:∀ i∈S',i∈S∨w.heap.size≤i):KPo S' w x:=⟨h.row.more fun b hb=>kY hS hb,h.nil⟩
theorem KPo.later {S:List Nat} {w w':World} {x:KPc} (h:KPo S w x) (hb:Below w.heap.size w w'):KPo S w' x:=h.apart (.of_below hb)
theorem MrkR.off {S:List Nat} {w:World} {base:Nat} {a:Option Addr} {l:List Mrk} {c:Nat} (h:MrkR w base a l c) (hS:∀ i∈S,i<base):KPo S w ⟨a,l,c⟩:=⟨h.row.more fun b hb=>⟨hb.2,fun g=>by have:=hS b g;have:=hb.1;omega⟩,h.nil⟩
theorem SPo.in {S:List Nat} {w:World} {x:SPc} (h:SPo S w x):SPcs w x:=⟨h.row.more fun _ hb=>hb.1,fun y hy=>(h.all y hy).in,h.nil,h.le,h.cap⟩
theorem SPo.apart {S:List Nat} {w w':World} {x:SPc} (h:SPo S w x) (ha:Apart S w w'):SPo S w' x:=⟨(h.row.keep fun p hp=>ha.cell hp.1 hp.2).more fun b hb=>hb.on ha.size,fun y hy=>(h.all y hy).apart ha,h.nil,h.le,h.cap⟩
theorem SPo.wide {S S':List Nat} {w:World} {x:SPc} (h:SPo S w x) (hS:∀ i∈S',i∈S∨w.heap.size≤i):SPo S' w x:=⟨h.row.more fun b hb=>kY hS hb,fun y hy=>(h.all y hy).wide hS,h.nil,h.le,h.cap⟩
theorem SPo.later {S:List Nat} {w w':World} {x:SPc} (h:SPo S w x) (hb:Below w.heap.size w w'):SPo S w' x:=h.apart (.of_below hb)
theorem SRow.off {S:List Nat} {w:World} {base:Nat} {x:SPc} (h:SRow w base x) (hS:∀ i∈S,i<base) (ha:∀ y∈x.l,EPo S w y):SPo S w x:=⟨h.row.more fun b hb=>⟨hb.2,fun g=>by have:=hS b g;have:=hb.1;omega⟩,ha,h.nil,h.le,h.cap⟩
theorem SPo.empty (S:List Nat) (w:World):SPo S w ⟨none,[],0⟩:=⟨fun k hk=>absurd hk (by simp),fun x hx=>absurd hx (by simp),fun _=>rfl,Nat.le_refl _,Nat.zero_le _⟩
theorem EPo.empty (S:List Nat) (w:World):EPo S w ⟨none,[],0⟩:=⟨fun k hk=>absurd hk (by simp),fun _=>rfl⟩
theorem StaO.in {S:List Nat} {w:World} {s:Sta} (h:StaO S w s):StaIn w s:=⟨h.m.in,h.u.in,h.r.in,h.g.in⟩
theorem StaO.apart {S:List Nat} {w w':World} {s:Sta} (h:StaO S w s) (ha:Apart S w w'):StaO S w' s:=⟨h.m.apart ha,h.u.apart ha,h.r.apart ha,h.g.apart ha⟩
theorem StaO.wide {S S':List Nat} {w:World} {s:Sta} (h:StaO S w s) (hS:∀ i∈S',i∈S∨w.heap.size≤i):StaO S' w s:=⟨h.m.wide hS,h.u.wide hS,h.r.wide hS,h.g.wide hS⟩
theorem StaO.later {S:List Nat} {w w':World} {s:Sta} (h:StaO S w s) (hb:Below w.heap.size w w'):StaO S w' s:=h.apart (.of_below hb)
theorem fL {S:List Nat} {w w':World} {L:List (List Edt)} {e:Ending} (h:RetStk w L e w') (hS:∀ i∈S,i<w.heap.size):∃ x:SPc,e=.returned (.slice x.a x.l.length x.c)∧lsP x.l=L∧SPo S w' x∧Below w.heap.size w w':=by
 obtain ⟨a,c,l,rfl,hl,hr,⟨g,rfl,hg,ha⟩,-,hb⟩:=h
 exact ⟨⟨_,l,c⟩,rfl,hl,hr.off hS fun y hy=>(ha y hy).off fun i hi=>by have:=hS i hi;omega,hb⟩
theorem jM {S:List Nat} {w w':World} {L:List (List Edt)} {s:List Edt} {e:Ending} (h:RetPop w L s e w') (hS:∀ i∈S,i<w.heap.size):∃ (x:SPc) (a2:Option Addr) (c2:Nat),e=.returned (.tuple #[.slice x.a x.l.length x.c,stpV a2 s.length c2,.int .i64 0])∧lsP x.l=L∧SPo S w' x∧EPo S w' ⟨a2,s,c2⟩∧Below w.heap.size w w':=by
 obtain ⟨a,c,l,a2,c2,rfl,hl,hr,ha,h2,hb⟩:=h
 exact ⟨⟨a,l,c⟩,a2,c2,rfl,hl,hr.off hS fun y hy=>(ha y hy).off hS,h2.off hS,hb⟩
theorem KnotW.offb {w:World} {B:Nat→Prop} {b:Nat} {cs:Array Value} (hb:Blk w b cs 54) {m:Bool} (h0:cs[0]? = some (.bool m)):∀ {h k:Nat} {L:List ByteArray},KnotW w B h k L→KnotW w (fun i=>B i∧i≠b) h k L
 | 0,k,L,⟨hk,s,e,hf,hB⟩=>⟨⟨hk,fun g=>by
  subst g
  have:=hB.symm.trans hb
  cases this⟩,s,e,hf,hB⟩
 | h+1,k,L,⟨hk,K,g,c,h2,h3,h4,h5,e,h6,h7,h8⟩=>⟨⟨hk,fun g=>by
  subst g
  have:=h8.symm.trans hb
  cases this⟩,K,g,c,h2,h3,h4,fun x hx=>(h5 x hx).offb hb h0,e,⟨h6,fun q=>by
  subst q
  have h9:=h7.2 0 (by rw [aQ];omega)
  have h10:=hb.cell 0 _ h0
  rw [Nat.zero_add] at h9
  have h11:=h10.symm.trans h9
  simp [ptrs] at h11⟩,h7,h8⟩
theorem RopeW.apart {w w':World} {r p:Option Addr} {L:List ByteArray} {s:ByteArray} (h:RopeW w r p L s) {b:Nat} {cs:Array Value} (hb:Blk w b cs 54) {m:Bool} (h0:cs[0]? = some (.bool m)) (ha:Apart [b] w w'):RopeW w' r p L s:=by
 have hn:∀ i,i<w.heap.size→i≠b→w'.heap[i]? = w.heap[i]? :=fun i hi hne=>ha.block i hi (by simpa using hne)
 refine ⟨⟨?_,h.x.tight,h.x.txt,h.x.small⟩,?_⟩
 ·rcases h.x.t with t|⟨k,hh,e,hk⟩
  ·exact .inl t
  ·exact .inr ⟨k,hh,e,(((hk.offb hb h0).keep ha.size fun i hi=>hn i hi.1.1 hi.2).weak fun i hi=>hi.1.on ha.size)⟩
 ·rcases h.at' with t|⟨k,e,hl,hc⟩
  ·exact .inl t
  ·refine .inr ⟨k,e,Nat.lt_of_lt_of_le hl ha.size,?_⟩
   have hne:k≠b:=fun g=>by
    subst g
    have:=(hb.cell 0 _ h0).symm.trans hc
    cases this
   exact (World.cell?_of_block (w:=w) (hn k hl hne)).trans hc
theorem wide2 {b n:Nat} {T:List Nat} {w:World} (hn:w.heap.size≤n):∀ i∈b::n::T,i∈b::T∨w.heap.size≤i:=fun i hi=>by
 simp only [List.mem_cons] at hi ⊢
 rcases hi with rfl|rfl|hi
 ·exact .inl (.inl rfl)
 ·exact .inr hn
 ·exact .inl (.inr hi)
theorem wide3 {b n m:Nat} {T:List Nat} {w:World} (hn:w.heap.size≤m):∀ i∈b::n::m::T,i∈b::n::T∨w.heap.size≤i:=fun i hi=>by
 simp only [List.mem_cons] at hi ⊢
 rcases hi with rfl|rfl|rfl|hi
 ·exact .inl (.inl rfl)
 ·exact .inl (.inr (.inl rfl))
 ·exact .inr hn
 ·exact .inl (.inr (.inr hi))
abbrev edC (made:Bool) (r:Option Addr) (t:ByteArray) (m:KPc) (u ro:SPc) (o:Bool) (g:EPc):Array Value:=#[.bool made,.pointer r,.string t,.slice m.a m.l.length m.c,.slice u.a u.l.length u.c,.slice ro.a ro.l.length ro.c,.bool o,.slice g.a g.l.length g.c]
structure IsEd (T:List Nat) (w:World) (b:Nat) (s:Sta) (rb:Nat) (p:Option Addr) (L:List ByteArray):Prop where
 blk:Blk w b (edC true (some ⟨rb,0,none⟩) ⟨#[]⟩ s.m s.u s.r s.o s.g) 54
 rope:RopeW w (some ⟨rb,0,none⟩) p L s.t
 rows:StaO (b::T) w s
 ml:s.m.l.length≤s.m.c
 mc:s.m.c≤maxLen
 inv:InvS s.d
 tlt:∀ i∈T,i<w.heap.size
theorem IsEd.lt {w:World} {b:Nat} {s:Sta} {rb:Nat} {p:Option Addr} {L:List ByteArray} (h:IsEd T w b s rb p L):b<w.heap.size:=h.blk.lt
theorem IsEd.later {w w':World} {b:Nat} {s:Sta} {rb:Nat} {p:Option Addr} {L:List ByteArray} (h:IsEd T w b s rb p L) (hb:Below w.heap.size w w'):IsEd T w' b s rb p L:=⟨h.blk.onto hb,h.rope.later hb,h.rows.later hb,h.ml,h.mc,h.inv,fun i hi=>Nat.lt_of_lt_of_le (h.tlt i hi) hb.size⟩
def RetEd (T:List Nat) (w:World) (b:Nat) (r:StaD×Int) (e:Ending) (w':World):Prop:=∃ (s':Sta) (rb':Nat) (p':Option Addr) (L':List ByteArray),e=.returned (.int .i64 r.2)∧IsEd T w' b s' rb' p' L'∧s'.d=r.1∧Apart [b] w w'
theorem Blk.eight {w:World} {b:Nat} {x0 x1 x2 x3 x4 x5 x6 x7:Value} {t:TypeId} (h:Blk w b #[x0,x1,x2,x3,x4,x5,x6,x7] t) :
 w.cell? ⟨b,0,none⟩=some x0∧w.cell? ⟨b,1,none⟩=some x1∧w.cell? ⟨b,2,none⟩=some x2∧w.cell? ⟨b,3,none⟩=some x3∧w.cell? ⟨b,4,none⟩=some x4∧w.cell? ⟨b,5,none⟩=some x5∧w.cell? ⟨b,6,none⟩=some x6∧w.cell? ⟨b,7,none⟩=some x7:=
 ⟨h.cell 0 _ rfl,h.cell 1 _ rfl,h.cell 2 _ rfl,h.cell 3 _ rfl,h.cell 4 _ rfl,h.cell 5 _ rfl,h.cell 6 _ rfl,h.cell 7 _ rfl⟩
theorem Blk.all8 {w:World} {b:Nat} {x0 x1 x2 x3 x4 x5 x6 x7:Value} {t:TypeId} (h:Blk w b #[x0,x1,x2,x3,x4,x5,x6,x7] t) :
 w.cell? ⟨b,0,none⟩=some x0∧w.cell? ⟨b,1,none⟩=some x1∧w.cell? ⟨b,2,none⟩=some x2∧w.cell? ⟨b,3,none⟩=some x3∧w.cell? ⟨b,4,none⟩=some x4∧w.cell? ⟨b,5,none⟩=some x5∧w.cell? ⟨b,6,none⟩=some x6∧w.cell? ⟨b,7,none⟩=some x7 ∧
 w.frozen? ⟨b,0,none⟩=false∧w.frozen? ⟨b,1,none⟩=false∧w.frozen? ⟨b,2,none⟩=false∧w.frozen? ⟨b,3,none⟩=false∧w.frozen? ⟨b,4,none⟩=false∧w.frozen? ⟨b,5,none⟩=false∧w.frozen? ⟨b,6,none⟩=false∧w.frozen? ⟨b,7,none⟩=false:=
 ⟨h.cell 0 _ rfl,h.cell 1 _ rfl,h.cell 2 _ rfl,h.cell 3 _ rfl,h.cell 4 _ rfl,h.cell 5 _ rfl,h.cell 6 _ rfl,h.cell 7 _ rfl,h.free 0,h.free 1,h.free 2,h.free 3,h.free 4,h.free 5,h.free 6,h.free 7⟩
theorem Blk.all6 {w:World} {b:Nat} {x0 x1 x2 x3 x4 x5:Value} {t:TypeId} (h:Blk w b #[x0,x1,x2,x3,x4,x5] t) :
 w.cell? ⟨b,0,none⟩=some x0∧w.cell? ⟨b,1,none⟩=some x1∧w.cell? ⟨b,2,none⟩=some x2∧w.cell? ⟨b,3,none⟩=some x3∧w.cell? ⟨b,4,none⟩=some x4∧w.cell? ⟨b,5,none⟩=some x5 ∧
 w.frozen? ⟨b,0,none⟩=false∧w.frozen? ⟨b,1,none⟩=false∧w.frozen? ⟨b,2,none⟩=false∧w.frozen? ⟨b,3,none⟩=false∧w.frozen? ⟨b,4,none⟩=false∧w.frozen? ⟨b,5,none⟩=false:=
 ⟨h.cell 0 _ rfl,h.cell 1 _ rfl,h.cell 2 _ rfl,h.cell 3 _ rfl,h.cell 4 _ rfl,h.cell 5 _ rfl,h.free 0,h.free 1,h.free 2,h.free 3,h.free 4,h.free 5⟩
theorem Blk.all4 {w:World} {b:Nat} {x0 x1 x2 x3:Value} {t:TypeId} (h:Blk w b #[x0,x1,x2,x3] t) :
 w.cell? ⟨b,0,none⟩=some x0∧w.cell? ⟨b,1,none⟩=some x1∧w.cell? ⟨b,2,none⟩=some x2∧w.cell? ⟨b,3,none⟩=some x3 ∧
 w.frozen? ⟨b,0,none⟩=false∧w.frozen? ⟨b,1,none⟩=false∧w.frozen? ⟨b,2,none⟩=false∧w.frozen? ⟨b,3,none⟩=false:=
 ⟨h.cell 0 _ rfl,h.cell 1 _ rfl,h.cell 2 _ rfl,h.cell 3 _ rfl,h.free 0,h.free 1,h.free 2,h.free 3⟩
theorem Blk.all3 {w:World} {b:Nat} {x0 x1 x2:Value} {t:TypeId} (h:Blk w b #[x0,x1,x2] t) :
 w.cell? ⟨b,0,none⟩=some x0∧w.cell? ⟨b,1,none⟩=some x1∧w.cell? ⟨b,2,none⟩=some x2 ∧
 w.frozen? ⟨b,0,none⟩=false∧w.frozen? ⟨b,1,none⟩=false∧w.frozen? ⟨b,2,none⟩=false:=
 ⟨h.cell 0 _ rfl,h.cell 1 _ rfl,h.cell 2 _ rfl,h.free 0,h.free 1,h.free 2⟩
theorem Blk.all1 {w:World} {b:Nat} {x0:Value} {t:TypeId} (h:Blk w b #[x0] t) :
 w.cell? ⟨b,0,none⟩=some x0 ∧
 w.frozen? ⟨b,0,none⟩=false:=
 ⟨h.cell 0 _ rfl,h.free 0⟩
theorem box2 (w:World) (A B:Array Value) (ta tb:TypeId):∃ W,(w.alloc (.cells A ta)).alloc (.cells B tb)=W∧Blk W w.heap.size A ta∧Blk W (w.heap.size+1) B tb∧Below w.heap.size w W∧W.heap.size=w.heap.size+1+1:=by
 have h2:=Blk.new (w.alloc (.cells A ta)) B tb
 rw [World.size_alloc] at h2
 exact ⟨_,rfl,(Blk.new w A ta).alloc _,h2,below2 w _ _,by simp⟩
theorem box1 (w:World) (A:Array Value) (ta:TypeId):∃ W,w.alloc (.cells A ta)=W∧Blk W w.heap.size A ta∧Below w.heap.size w W∧W.heap.size=w.heap.size+1:=⟨_,rfl,Blk.new w A ta,below1 w _,by simp⟩
end Go.Proofs.YtfiobemeogaaiaaGreat
namespace Go.Proofs.YtfiobemeogaaiaaGreat
open Lib (hid)
open Go.RowKit
set_option linter.unusedVariables false
set_option linter.unusedSimpArgs false
section
variable (made : Bool) (r : Option Addr) (t : ByteArray) (ma : Option Addr) (mn mc : Nat) (ua : Option Addr) (un uc : Nat) (ra : Option Addr) (rn rc : Nat) (o : Bool) (ga : Option Addr) (gn gc : Nat)
abbrev edN:Value:=.agg #[.bool made,.pointer r,.string t,.slice ma mn mc,.slice ua un uc,.slice ra rn rc,.bool o,.slice ga gn gc]
theorem xA (w:World):(Instr.field 54 (edN made r t ma mn mc ua un uc ra rn rc o ga gn gc) 0).run Tryz.prog w=.ok (.bool made) w:=by kernel_rfl
theorem GS (w:World):(Instr.field 54 (edN made r t ma mn mc ua un uc ra rn rc o ga gn gc) 1).run Tryz.prog w=.ok (.pointer r) w:=by kernel_rfl
theorem GT (w:World):(Instr.field 54 (edN made r t ma mn mc ua un uc ra rn rc o ga gn gc) 2).run Tryz.prog w=.ok (.agg #[.string t,.slice ma mn mc,.slice ua un uc,.slice ra rn rc,.bool o,.slice ga gn gc]) w:=by kernel_rfl
end
structure Nw (w:World) (e:Option Addr) (v:Value):Prop where
 out:∀ W,Below w.heap.size w W→Calls Tryz.prog 31 #[.pointer e] W fun x W'=>x=.returned v∧Below W.heap.size W W'
theorem Nw.later {w W:World} {e:Option Addr} {v:Value} (h:Nw w e v) (hb:Below w.heap.size w W):Nw W e v:=⟨fun W' hW'=>h.out W' (hb.trans (hW'.mono hb.size))⟩
set_option maxRecDepth 100000 in
set_option maxHeartbeats 800000 in
theorem jS {w:World} {b:Nat} {made:Bool} {r:Option Addr} {t:ByteArray} {ma:Option Addr} {mn mc:Nat} {ua:Option Addr} {un uc:Nat} {ra:Option Addr} {rn rc:Nat} {o:Bool} {ga:Option Addr} {gn gc:Nat}
 (h:Blk w b #[.bool made,.pointer r,.string t,.slice ma mn mc,.slice ua un uc,.slice ra rn rc,.bool o,.slice ga gn gc] 54) :
 Calls Tryz.prog 31 #[.pointer (some ⟨b,0,none⟩)] w fun x w'=>x=.returned (edN made r t ma mn mc ua un uc ra rn rc o ga gn gc)∧Below w.heap.size w w':=by
 obtain ⟨p0,p1,p2,p3,p4,p5,p6,p7⟩:=h.alloc (.cells #[.bool false,.pointer none,.string ⟨#[]⟩,.slice none 0 0,.slice none 0 0,.slice none 0 0,.bool false,.slice none 0 0] 54) |>.eight
 clear h
 go_enter Tryz.func31,Tryz.ntmps31
 go_wp2
 refine bodyPost_ret (results_cell_row (P:=Tryz.prog) (fn:=Tryz.f31) (p:=2) (ty:=54) rfl _ _ w.heap.size 54 _ (0,0) _ rfl (Blk.new _ _ _) Tryz.underlying54 rfl (by kernel_rfl)) rfl ?_
 exact ⟨rfl,below1 _ _⟩
theorem Nw.some {w:World} {b:Nat} {made:Bool} {r:Option Addr} {t:ByteArray} {ma:Option Addr} {mn mc:Nat} {ua:Option Addr} {un uc:Nat} {ra:Option Addr} {rn rc:Nat} {o:Bool} {ga:Option Addr} {gn gc:Nat}
 (h:Blk w b #[.bool made,.pointer r,.string t,.slice ma mn mc,.slice ua un uc,.slice ra rn rc,.bool o,.slice ga gn gc] 54):Nw w (.some ⟨b,0,none⟩) (edN made r t ma mn mc ua un uc ra rn rc o ga gn gc):=⟨fun W hW=>jS (h.onto hW)⟩
section
variable {w : World} {e : Option Addr} {made : Bool} {r : Option Addr} {t : ByteArray} {ma : Option Addr} {mn mc : Nat} {ua : Option Addr} {un uc : Nat} {ra : Option Addr} {rn rc : Nat} {o : Bool} {ga : Option Addr} {gn gc : Nat}
set_option maxRecDepth 100000 in
set_option maxHeartbeats 800000 in
theorem tM (h:Nw w e (edN made r t ma mn mc ua un uc ra rn rc o ga gn gc)) :
 Calls Tryz.prog 18 #[.pointer e] w fun x w'=>x=.returned (.pointer r)∧Below w.heap.size w w':=by
 have cn:=h.out w (Below.refl _ _)
 have cf:=GS made r t ma mn mc ua un uc ra rn rc o ga gn gc
 have CN:=hid cn
 clear cn h
 go_enter Tryz.func18,Tryz.ntmps18
 go_wp2_with fail
 refine CN.out.mono ?_;rintro x w1 ⟨rfl,aa⟩
 go_wp2
 go_ret
 exact ⟨rfl,aa⟩
set_option maxRecDepth 100000 in
set_option maxHeartbeats 800000 in
theorem lK (h:Nw w e (edN made r t ma mn mc ua un uc ra rn rc o ga gn gc)) {p:Option Addr} {L:List ByteArray} {s:ByteArray} (hr:RopeW w r p L s) :
 Calls Tryz.prog 13 #[.pointer e] w fun x w'=>x=.returned (.int .i64 s.size)∧Below w.heap.size w w':=by
 have cn:=tM h
 have cl:=fun W (hW:Below w.heap.size w W)=>pU (hr.later hW)
 have CN:=hid cn;have CL:=hid cl
 clear cn cl h hr
 go_enter Tryz.func13,Tryz.ntmps13
 go_wp2_with fail
 refine CN.out.mono ?_;rintro x w1 ⟨rfl,aa⟩
 have ab:=hid aa
 clear aa
 go_wp2_with fail
 refine (onward ab.out (CL.out _ ab.out)).mono ?_;rintro x w2 ⟨rfl,ac⟩
 go_wp2
 go_ret
 exact ⟨rfl,ac⟩
end
end Go.Proofs.YtfiobemeogaaiaaGreat
namespace Go.Proofs.YtfiobemeogaaiaaGreat
open Lib (hid)
variable {T : List Nat}
open Go.RowKit
set_option linter.unusedVariables false
set_option linter.unusedSimpArgs false
set_option maxRecDepth 100000 in
set_option maxHeartbeats 1600000 in
theorem mC {w:World} {b:Nat} {made:Bool} {r:Option Addr} {t:ByteArray} {m:KPc} {u ro:SPc} {o:Bool} {g:EPc} (hk:Blk w b (edC made r t m u ro o g) 54) (hT:InS T w) (hu:SPo (b::T) w u) (y:EPc) (hy:EPo (b::T) w y) (hl:u.l.length≤900) (hb:∀ x∈u.l,x.l.length≤1000000) (hb2:y.l.length≤1000000) :
 Calls Tryz.prog 109 #[.pointer (some ⟨b,0,none⟩),stpV y.a y.l.length y.c] w fun e w'=>e=.returned (.tuple #[])∧∃ u':SPc,lsP u'.l=pushL (lsP u.l) y.l∧Blk w' b (edC made r t m u' ro o g) 54∧SPo (b::T) w' u'∧Apart [b] w w':=by
 have hbl:b<w.heap.size:=hk.lt
 obtain ⟨ya,yl,yc⟩:=y
 obtain ⟨n,hn⟩:∃ n,yl.length=n:=⟨_,rfl⟩
 dsimp only at hb2 ⊢
 rw [hn]
 obtain ⟨wX,hwX,kS,ab,hz⟩:=box1 w #[.slice ya n yc] 69
 have a1:=hid (hk.onto ab)
 have ac:=hid (kS)
 have ba:=hid ((Apart.of_below ab:Apart [b] w wX))
 have bb:=hid (Nat.le_refl wX.heap.size)
 have af:∀ W:World,wX.heap.size≤W.heap.size→∀ i∈b::w.heap.size::T,i<W.heap.size:=fun W hWz i hi=>by simp only [List.mem_cons] at hi;rcases hi with rfl|rfl|hi;all_goals first|omega|(have:=hT i hi;omega)|(have:=hT i hi;have:=hap.size;omega)
 have cP:=fun W (hW:Below wX.heap.size wX W)=>(eW u.a u.l u.c ⟨ya,yl,yc⟩ W ((hu.later ab).later hW).in ((hy.later ab).later hW).in hl hb hb2).mono fun e w' h=>fL (S:=b::w.heap.size::T) h (af W hW.size)
 simp only [hn] at cP
 have HN:=hid hn;have CP:=hid cP
 clear hk kS hu hy hl hb hb2 cP ab hz af
 obtain ⟨ah,ai,aj,ak,ad,al,am,an,ao,aq,ar,au,av,aw,ax,ay⟩:=a1.out.all8
 obtain ⟨az,a0⟩:=ac.out.all1
 have q4:wX.drew.cell? ⟨b,4,none⟩=some (.slice u.a u.l.length u.c):=ad
 go_enter Tryz.func109,Tryz.ntmps109
 go_wp2_with fail
 clear ah ai aj ak ad al am an ao aq ar au av aw ax ay az a0
 refine wp_region_held_drew (S:=(fun W:World=>W.cell? ⟨w.heap.size,0,none⟩=some (.slice ya n yc))) (by kernel_rfl) (ac.out.cell 0 _ rfl) (fun hHeld=>?_)
 refine sqt 0 ?_
 refine sqt 1 ?_
 refine sqt 2 ?_
 refine sqt 3 ?_
 refine sqt 4 ?_
 refine sqt 6 ?_
 refine sqr 5 fun K hK=>?_
 go_simp
 skip
 try go_wp2_with fail
 refine hK.out _ _ ?_ (fun hHeld=>?_)
 ·exact hHeld
 clear hK K
 try simp only [Act.put,sqp]
 refine sqr 7 fun K hK=>?_
 go_simp
 (go_at_call 139;refine (CP.out _ (Below.refl _ _).drew).mono ?_;rintro e w1 ⟨⟨xa,xl,xc⟩,rfl,a2,a3,a4⟩;have aa:Below wX.heap.size wX w1:=(Below.refl _ _).drew.trans a4)
 try go_wp2_with fail
 refine hK.out _ _ ?_ (fun hHeld=>?_)
 ·exact (aa.cell (p:=⟨w.heap.size,0,none⟩) ac.out.lt).trans (ac.out.cell 0 _ rfl)
 clear hK K
 try simp only [Act.put,sqp]
 clear q4 a4 hwX CP
 have ag:=hid (a1.out.onto aa)
 have ae:=hid (ac.out.onto aa)
 have a5:=hid (ba.out.trans (S':=[]) (.of_below aa) (by simp))
 have a6:=hid (Nat.le_trans bb.out aa.size)
 have HL:=hid a2;have a7:=hid a3
 clear a2 a3 aa
 obtain ⟨bf,bg,bh,bi,bj,bk,bl,bm,bn,bo,bp,bq,br,bs,bu,bv⟩:=ag.out.all8
 obtain ⟨bw,bx⟩:=ae.out.all1
 refine sqt 8 ?_
 refine sqt 9 ?_
 refine sqt 10 ?_
 refine sqr 11 fun K hK=>?_
 go_simp
 skip
 try go_wp2_with fail
 refine hK.out _ _ ?_ (fun hHeld=>?_)
 ·exact (ae.out.other ⟨b,4,none⟩ (by show b≠w.heap.size;omega) _).cell 0 _ rfl
 clear hK K
 try simp only [Act.put,sqp]
 refine wpAnyH_done (by kernel_rfl) ?_ _
 have kO:Blk (w1.setCell ⟨b,4,none⟩ (.slice xa xl.length xc)) (b) #[.bool made,.pointer r,.string t,.slice m.a m.l.length m.c,.slice xa xl.length xc,.slice ro.a ro.l.length ro.c,.bool o,.slice g.a g.l.length g.c] 54:=(ag.out.set 4 _)
 have kS:Blk (w1.setCell ⟨b,4,none⟩ (.slice xa xl.length xc)) (w.heap.size) #[.slice ya n yc] 69:=(ae.out.other ⟨b,4,none⟩ (by show b≠w.heap.size;omega) _)
 have ap:Apart (b::w.heap.size::T) w1 (w1.setCell ⟨b,4,none⟩ (.slice xa xl.length xc)):=(Apart.refl (b::w.heap.size::T) w1).setCell (p:=⟨b,4,none⟩) (.inl (by simp)) _
 have rP:=a7.out.apart ap
 have hB:=((a5.out.setCell (p:=⟨b,4,none⟩) (by simp) _):Apart [b] w (w1.setCell ⟨b,4,none⟩ (.slice xa xl.length xc)))
 have hz:(w1.setCell ⟨b,4,none⟩ (.slice xa xl.length xc)).heap.size=w1.heap.size:=by simp
 obtain ⟨v2,a8⟩:∃ V,(w1.setCell ⟨b,4,none⟩ (.slice xa xl.length xc))=V:=⟨_,rfl⟩
 rw [a8] at kO kS rP hB hz
 rw [a8]
 have a9:=hid kO
 have bc:=hid kS
 have bd:=hid rP
 have be:=hid hB
 have ck:=hid (Nat.le_trans a6.out (Nat.le_of_eq hz.symm))
 clear kO kS rP hB hz ap ag ae a7 a5 a6
 obtain ⟨bz,b3,b4,b5,b6,b7,b8,b9,ca,cb,cc,cd,ce,cf,cg,ch⟩:=a9.out.all8
 obtain ⟨ci,cj⟩:=bc.out.all1
 go_wp2
 go_end0
 exact ⟨rfl,⟨xa,xl,xc⟩,HL.out,a9.out,bd.out.wide (S':=b::T) (fun i hi=>.inl (by simp only [List.mem_cons] at hi ⊢;rcases hi with h|h <;> simp [h])),be.out⟩
set_option maxRecDepth 100000 in
set_option maxHeartbeats 800000 in
theorem tB {w:World} {b:Nat} {made:Bool} {r:Option Addr} {t:ByteArray} {m:KPc} {u ro:SPc} {o:Bool} {g:EPc} (hk:Blk w b (edC made r t m u ro o g) 54) (a:Option Addr) (n c:Nat) :
 Calls Tryz.prog 104 #[.pointer (some ⟨b,0,none⟩),.slice a n c,.int .i64 0] w fun e w'=>e=.returned (.int .i64 0)∧Blk w' b #[.bool made,.pointer r,.string t,.slice a n c,.slice u.a u.l.length u.c,.slice ro.a ro.l.length ro.c,.bool o,.slice g.a g.l.length g.c] 54∧Apart [b] w w':=by
 have hbl:b<w.heap.size:=hk.lt
 have aa:=hid (hk)
 have ab:=hid ((Apart.refl [b] w))
 have ac:=hid (Nat.le_refl w.heap.size)
 clear hk
 obtain ⟨ag,ah,ai,aj,ak,al,am,an,ao,aq,ar,au,av,aw,ax,ay⟩:=aa.out.all8
 go_enter Tryz.func104,Tryz.ntmps104
 have kO:Blk (w.setCell ⟨b,3,none⟩ (.slice a n c)) (b) #[.bool made,.pointer r,.string t,.slice a n c,.slice u.a u.l.length u.c,.slice ro.a ro.l.length ro.c,.bool o,.slice g.a g.l.length g.c] 54:=(aa.out.set 3 _)
 have hB:=((ab.out.setCell (p:=⟨b,3,none⟩) (by simp) _):Apart [b] w (w.setCell ⟨b,3,none⟩ (.slice a n c)))
 have hz:(w.setCell ⟨b,3,none⟩ (.slice a n c)).heap.size=w.heap.size:=by simp
 obtain ⟨v1,ae⟩:∃ V,(w.setCell ⟨b,3,none⟩ (.slice a n c))=V:=⟨_,rfl⟩
 rw [ae] at kO hB hz
 have ad:=hid kO
 have af:=hid hB
 have bf:=hid (Nat.le_trans ac.out (Nat.le_of_eq hz.symm))
 clear kO hB hz aa ab ac
 obtain ⟨az,a0,a1,a2,a3,a4,a5,a6,a7,a8,a9,ba,bb,bc,bd,be⟩:=ad.out.all8
 go_wp2
 go_ret
 exact ⟨rfl,ad.out,af.out⟩
set_option maxRecDepth 100000 in
set_option maxHeartbeats 800000 in
theorem lP (w:World) (p:Option Addr) (v:Value) (E:Int) (hE:E≠0) :
 Calls Tryz.prog 104 #[.pointer p,v,.int .i64 E] w fun e w'=>e=.returned (.int .i64 E)∧w=w':=by
 have h0:(E == 0)=false:=beq_eq_false_iff_ne.2 hE
 go_enter Tryz.func104,Tryz.ntmps104
 go_wp2
 go_ret
 exact ⟨rfl,rfl⟩
set_option maxRecDepth 100000 in
set_option maxHeartbeats 1600000 in
theorem eR {w:World} {b:Nat} {made:Bool} {r:Option Addr} {t:ByteArray} {m:KPc} {u ro:SPc} {o:Bool} {g:EPc} (hk:Blk w b (edC made r t m u ro o g) 54) (hT:InS T w) (hm:KPo (b::T) w m) (hml:m.l.length≤1000000) (hmc:m.l.length≤m.c∧m.c≤maxLen) (r':Option Addr) (x:EPc) (hx:EPo (b::T) w x) (hxl:x.l.length≤100000) (hz:Edtz x.l 4294967296) (hp:∀ y∈x.l,0≤y.p∧y.p≤4096)
 (hms:∀ k,k≤x.l.length→∀ y∈shfL m.l (x.l.take k),-2305843009213693952≤y.p∧y.p≤2305843009213693952) :
 Calls Tryz.prog 133 #[.pointer (some ⟨b,0,none⟩),.pointer r',.slice x.a x.l.length x.c] w fun e w'=>e=.returned (.tuple #[])∧∃ m':KPc,m'.l=shfL m.l x.l∧(m'.l.length≤m'.c∧m'.c≤maxLen)∧Blk w' b (edC made r' t m' u ro o g) 54∧KPo (b::T) w' m'∧Apart [b] w w':=by
 have hbl:b<w.heap.size:=hk.lt
 obtain ⟨xa,l,xc⟩:=x
 dsimp only at hxl hz hp hms ⊢
 obtain ⟨n,hn⟩:∃ n,l.length=n:=⟨_,rfl⟩
 rw [hn] at hxl hms ⊢
 have ac:=hid (hk)
 have az:=hid ((Apart.refl [b] w))
 have a0:=hid (Nat.le_refl w.heap.size)
 clear hk
 obtain ⟨ah,ai,aj,ab,ak,al,am,an,ao,aq,ar,au,av,aw,ax,ay⟩:=ac.out.all8
 have HX:=hid hx;have HM:=hid hm;have HZ:=hid hz;have HP:=hid hp;have b4:=hid hms;have b5:=hid hml;have b6:=hid hmc;have HN:=hid hn
 clear hx hm hz hp hms hml hmc hn
 go_enter Tryz.func133,Tryz.ntmps133
 have kO:Blk (w.setCell ⟨b,1,none⟩ (.pointer r')) (b) #[.bool made,.pointer r',.string t,.slice m.a m.l.length m.c,.slice u.a u.l.length u.c,.slice ro.a ro.l.length ro.c,.bool o,.slice g.a g.l.length g.c] 54:=(ac.out.set 1 _)
 have hB:=((az.out.setCell (p:=⟨b,1,none⟩) (by simp) _):Apart [b] w (w.setCell ⟨b,1,none⟩ (.pointer r')))
 have hz:(w.setCell ⟨b,1,none⟩ (.pointer r')).heap.size=w.heap.size:=by simp
 obtain ⟨v1,bu⟩:∃ V,(w.setCell ⟨b,1,none⟩ (.pointer r'))=V:=⟨_,rfl⟩
 rw [bu] at kO hB hz
 have ae:=hid kO
 have af:=hid hB
 have bk:=hid (Nat.le_trans a0.out (Nat.le_of_eq hz.symm))
 clear kO hB hz ac az a0
 obtain ⟨a1,a2,a4,a5,a6,a7,a8,a9,ba,bb,bc,bd,be,bf,bg,bh⟩:=ae.out.all8
 go_wp2
 clear ah ai aj ab ak al am an ao aq ar au av aw ax ay bu a1 a2 a4 a5 a6 a7 a8 a9 ba bb bc bd be bf bg bh
 go_loopw [14] (fun i wr=>∃ (k:Nat) (m':KPc),k≤n∧i=.int .i64 k∧m'.l=shfL m.l (l.take k)∧(m'.l.length≤m'.c∧m'.c≤maxLen)∧Blk wr b #[.bool made,.pointer r',.string t,.slice m'.a m'.l.length m'.c,.slice u.a u.l.length u.c,.slice ro.a ro.l.length ro.c,.bool o,.slice g.a g.l.length g.c] 54∧KPo (b::T) wr m'∧EPo (b::T) wr ⟨xa,l,xc⟩∧Apart [b] w wr) (fun i _=>n - (intOf i).toNat)
 case atStart=>exact ⟨0,m,Nat.zero_le _,rfl,rfl,b6.out,ae.out,HM.out.apart (af.out.more (by simp)),HX.out.apart (af.out.more (by simp)),af.out⟩
 case round =>
  obtain ⟨k,⟨ma,ml,mc⟩,hk,rfl,hml,hmc,hblk,hkm,hkx,hap⟩:=hrel
  dsimp only at hml hmc hblk
  by_cases hlt:k<n
  ·have hkl:k<l.length:=by rw [HN.out];exact hlt
   obtain ⟨ad,rfl,hab,q0,q1,q2⟩:=hkx.in.row.at k hkl
   obtain ⟨s1,s2⟩:=HZ.out.at k hkl
   have sp:=HP.out (l[k]!) (by rw [eget hkl];exact List.getElem_mem hkl)
   have sn:=yO m.l l k hkl
   have sm:=b4.out k hk
   rw [← hml] at sn sm
   obtain ⟨x,hx⟩:∃ x,l[k]! = x:=⟨_,rfl⟩
   rw [hx] at q0 q1 q2 s1 s2 sp sn
   obtain ⟨p,eo,en⟩:=x
   simp only at q0 q1 q2 s1 s2 sp sn
   have da:b<wr.heap.size:=hblk.lt
   have mle:ml.length≤1000000:=by rw [hml,BA];exact b5.out
   obtain ⟨wE,hwE,kE,hb,hz⟩:=box1 wr #[.int .i64 p,.string eo,.string en] 87
   have q3:wr.cell? ⟨b,3,none⟩=some (.slice ma ml.length mc):=hblk.cell 3 _ rfl
   have ac:=hid (hblk.onto hb)
   have ag:=hid (kE)
   have b7:=hid ((hkx.wide (S':=b::wr.heap.size::T) (wide2 (Nat.le_refl _))).later hb)
   have az:=hid (hap.trans (S':=[]) (.of_below hb) (by simp))
   have a0:=hid (Nat.le_refl wE.heap.size)
   have bl:∀ W:World,wE.heap.size≤W.heap.size→∀ i∈b::wr.heap.size::T,i<W.heap.size:=fun W hWz i hi=>by simp only [List.mem_cons] at hi;rcases hi with rfl|rfl|hi;all_goals first|omega|(have:=hT i hi;omega)|(have:=hT i hi;have:=hap.size;omega)
   have cs:=fun W (hW:Below wE.heap.size wE W)=>rJ ma ml mc p eo en W (KPo.pcs ((hkm.later hb).later hW)) mle s1 s2 (by omega) sm
   have CS:=hid cs;have SN:=hid sn;have b8:=hid bl;have db:=hid hap
   have b0:(0:Int)≤(k:Int):=by omega
   have b1:(k:Int)<(n:Int):=by omega
   clear cs sn bl hkx hkm hblk hap hb hz kE hx s1 s2 sp sm hml mle hab hkl
   obtain ⟨ah,ai,aj,ab,ak,al,am,an,ao,aq,ar,au,av,aw,ax,ay⟩:=ac.out.all8
   obtain ⟨bn,bo,bp,bq,br,bs⟩:=ag.out.all3
   have q5:wE.drew.cell? ⟨b,3,none⟩=some (.slice ma ml.length mc):=ab
   go_wp2_with fail
   clear ah ai aj ab ak al am an ao aq ar au av aw ax ay bn bo bp bq br bs
   refine wp_region_held_drew (S:=(fun W:World=>W.cell? ⟨wr.heap.size,0,none⟩=some (.int .i64 p)∧W.cell? ⟨wr.heap.size,1,none⟩=some (.string eo)∧W.cell? ⟨wr.heap.size,2,none⟩=some (.string en))) (by kernel_rfl) ⟨ag.out.cell 0 _ rfl,ag.out.cell 1 _ rfl,ag.out.cell 2 _ rfl⟩ (fun hHeld=>?_)
   refine sqt 0 ?_
   refine sqt 1 ?_
   refine sqt 2 ?_
   refine sqt 3 ?_
   refine sqt 4 ?_
   refine sqt 6 ?_
   clear q0 q1 q2 q3
   refine sqr 5 fun K hK=>?_
   go_simp
   skip
   try go_wp2_with fail
   refine hK.out _ _ ?_ (fun hHeld=>?_)
   ·exact hHeld
   clear hK K
   try simp only [Act.put,sqp]
   refine sqr 7 fun K hK=>?_
   go_simp
   (go_at_call 156;refine (CS.out _ (Below.refl _ _).drew).mono ?_;rintro e w1 ⟨a3,c3,rfl,bi,bv⟩;have aa:Below wE.heap.size wE w1:=(Below.refl _ _).drew.trans bv)
   try go_wp2_with fail
   refine hK.out _ _ ?_ (fun hHeld=>?_)
   ·exact (by have h:=ag.out.onto aa;exact ⟨h.cell 0 _ rfl,h.cell 1 _ rfl,h.cell 2 _ rfl⟩)
   clear hK K
   try simp only [Act.put,sqp]
   clear q5 bv hwE CS
   have ae:=hid (ac.out.onto aa)
   have bj:=hid (ag.out.onto aa)
   have bw:=hid (b7.out.later aa)
   have af:=hid (az.out.trans (S':=[]) (.of_below aa) (by simp))
   have bk:=hid (Nat.le_trans a0.out aa.size)
   have bm:=hid (bi.off (S:=b::wr.heap.size::T) (b8.out _ (Nat.le_refl _)))
   have bx:=hid (And.intro bi.le bi.cap)
   clear bi aa
   obtain ⟨q,hq⟩:∃ q,shfM ml (shiftI p eo.size en.size)=q:=⟨_,rfl⟩
   have HQ:=hid hq
   rw [hq] at bm bx ⊢
   clear hq
   obtain ⟨a1,a2,a4,a5,a6,a7,a8,a9,ba,bb,bc,bd,be,bf,bg,bh⟩:=ae.out.all8
   obtain ⟨cd,ce,cf,cg,ch,ci⟩:=bj.out.all3
   refine sqt 8 ?_
   refine sqt 9 ?_
   refine sqt 10 ?_
   refine sqr 11 fun K hK=>?_
   go_simp
   skip
   try go_wp2_with fail
   refine hK.out _ _ ?_ (fun hHeld=>?_)
   ·exact (by have h:=bj.out.other ⟨b,3,none⟩ (by show b≠wr.heap.size;omega) (.slice a3 q.length c3);exact ⟨h.cell 0 _ rfl,h.cell 1 _ rfl,h.cell 2 _ rfl⟩)
   clear hK K
   try simp only [Act.put,sqp]
   refine wpAnyH_done (by kernel_rfl) ?_ _
   have kO:Blk (w1.setCell ⟨b,3,none⟩ (.slice a3 q.length c3)) (b) #[.bool made,.pointer r',.string t,.slice a3 q.length c3,.slice u.a u.l.length u.c,.slice ro.a ro.l.length ro.c,.bool o,.slice g.a g.l.length g.c] 54:=(ae.out.set 3 _)
   have kE:Blk (w1.setCell ⟨b,3,none⟩ (.slice a3 q.length c3)) (wr.heap.size) #[.int .i64 p,.string eo,.string en] 87:=(bj.out.other ⟨b,3,none⟩ (by show b≠wr.heap.size;omega) _)
   have ap:Apart (b::wr.heap.size::T) w1 (w1.setCell ⟨b,3,none⟩ (.slice a3 q.length c3)):=(Apart.refl (b::wr.heap.size::T) w1).setCell (p:=⟨b,3,none⟩) (.inl (by simp)) _
   have rX:=bw.out.apart ap
   have rM:=bm.out.apart ap
   have hB:=((af.out.setCell (p:=⟨b,3,none⟩) (by simp) _):Apart [b] w (w1.setCell ⟨b,3,none⟩ (.slice a3 q.length c3)))
   have hz:(w1.setCell ⟨b,3,none⟩ (.slice a3 q.length c3)).heap.size=w1.heap.size:=by simp
   obtain ⟨v2,bz⟩:∃ V,(w1.setCell ⟨b,3,none⟩ (.slice a3 q.length c3))=V:=⟨_,rfl⟩
   rw [bz] at kO kE rX rM hB hz
   rw [bz]
   have b3:=hid kO
   have b9:=hid kE
   have ca:=hid rX
   have cb:=hid rM
   have cc:=hid hB
   have dc:=hid (Nat.le_trans bk.out (Nat.le_of_eq hz.symm))
   clear kO kE rX rM hB hz ap ae bj bw bm af bk
   obtain ⟨cj,ck,cl,cm,cn,co,cp,cq,cr,ct,cu,cv,cw,cx,cy,cz⟩:=b3.out.all8
   obtain ⟨c4,c5,c6,c7,c8,c9⟩:=b9.out.all3
   go_wp2
   go_roundw
   case rel=>exact ⟨k+1,⟨a3,q,c3⟩,by omega,by go_num,by show q=_;rw [SN.out,HQ.out],bx.out,b3.out,cb.out.wide (S':=b::T) (fun i hi=>.inl (by simp only [List.mem_cons] at hi ⊢;rcases hi with h|h <;> simp [h])),ca.out.wide (S':=b::T) (fun i hi=>.inl (by simp only [List.mem_cons] at hi ⊢;rcases hi with h|h <;> simp [h])),cc.out⟩
   case measure=>simp [intOf];omega
  ·obtain rfl:k=n:=by omega
   rw [← HN.out,List.take_length] at hml
   have HR:=hid (And.intro hml (And.intro hmc (And.intro hblk (And.intro hkm hap))))
   clear hml hmc hblk hkm hkx hap
   go_wp2
   go_end0
   exact ⟨rfl,⟨ma,ml,mc⟩,HR.out.1,HR.out.2.1,HR.out.2.2.1,HR.out.2.2.2.1,HR.out.2.2.2.2⟩
end Go.Proofs.YtfiobemeogaaiaaGreat
namespace Go.Proofs.YtfiobemeogaaiaaGreat
open Go.RowKit
set_option linter.unusedVariables false
set_option linter.unusedSimpArgs false
theorem InvS.shown {s:StaD} (h:InvS s) {l:List Edt} {t':ByteArray} (hr:runE s.t l=(t',0)):∀ k,k≤l.length→∀ y∈shfL s.m (l.take k),-2305843009213693952≤y.p∧y.p≤2305843009213693952:=fun k hk y hy=>by
 obtain ⟨u,hu,-⟩:=ET hr k
 have hm:=iQ h.v h.z hu h.m
 have hz:=(jZ h.v h.z hu).2.1
 have:=DA hm y hy
 omega
theorem InvS.edz {s:StaD} (h:InvS s) {l:List Edt} (hl:∀ x∈l,okE5 x=true):Edtz l 4294967296:=fun x hx=>by
 have:=(cO x).1 (hl x hx)
 omega
theorem BX {l:List Edt} (h:∀ x∈l,okE5 x=true):∀ x∈invL l,okE5 x=true:=fun x hx=>by
 unfold invL at hx
 obtain ⟨y,hy,rfl⟩:=List.mem_map.1 (List.mem_reverse.1 hx)
 have:=(cO y).1 (h y hy)
 exact (cO _).2 ⟨this.2.1,this.1,this.2.2.elim .inr .inl⟩
theorem Blk.apart {S:List Nat} {w w':World} {b:Nat} {cs:Array Value} {t:TypeId} (h:Blk w b cs t) (ha:Apart S w w') (hb:b ∉ S):Blk w' b cs t:=(ha.block b h.lt hb).trans h
theorem eone {w:World} {B:Nat→Prop} {b:Nat} {p:Int} {o n:ByteArray} {t:TypeId} (h:Blk w b #[.int .i64 p,.string o,.string n] t) (hB:B b):Edts w B (some ⟨b,0,none⟩) [⟨p,o,n⟩]:=fun k hk=>by
 obtain rfl:k=0:=by simpa using hk
 exact ⟨⟨b,0,none⟩,rfl,hB,h.cell 0 _ rfl,h.cell 1 _ rfl,h.cell 2 _ rfl⟩
end Go.Proofs.YtfiobemeogaaiaaGreat
namespace Go.Proofs.YtfiobemeogaaiaaGreat
open Lib (hid)
variable {T : List Nat}
open Go.RowKit
set_option linter.unusedVariables false
set_option linter.unusedSimpArgs false
set_option maxRecDepth 100000 in
set_option maxHeartbeats 800000 in
theorem qT {so:Bool} {w:World} {b:Nat} {t:ByteArray} {m:KPc} {u ro:SPc} {g:EPc} {rb:Nat} {p:Option Addr} {L:List ByteArray} (h:IsEd T w b ⟨t,m,u,ro,so,g⟩ rb p L) (r':Option Addr) (x:Int) (eo en:ByteArray) (ho:eo.size≤4294967296) (hn:en.size≤4294967296) (hx:512<eo.size+en.size):Calls Tryz.prog 99 #[.pointer (some ⟨b,0,none⟩),.pointer r',edV x eo en] w (RetEd T w b ((Sta.d ⟨t,m,u,ro,so,g⟩),6)):=by
 have hbl:b<w.heap.size:=h.lt
 obtain ⟨wX,hwX,kE,aa,hz⟩:=box1 w #[.int .i64 x,.string eo,.string en] 87
 have ac:=hid (show Blk wX b #[.bool true,.pointer (some ⟨rb,0,none⟩),.string ⟨#[]⟩,.slice m.a m.l.length m.c,.slice u.a u.l.length u.c,.slice ro.a ro.l.length ro.c,.bool so,.slice g.a g.l.length g.c] 54 from h.blk.onto aa)
 have ad:=hid (kE)
 have a4:=hid ((h.rows.wide (S':=b::w.heap.size::T) (wide2 (Nat.le_refl _))).later aa)
 have ae:=hid ((Apart.of_below aa:Apart [b] w wX))
 have a5:=hid (Nat.le_refl wX.heap.size)
 have ab:∀ W:World,wX.heap.size≤W.heap.size→∀ i∈b::w.heap.size::T,i<W.heap.size:=fun W hWz i hi=>by simp only [List.mem_cons] at hi;rcases hi with rfl|rfl|hi;all_goals first|omega|(have:=h.tlt i hi;omega)
 have a6:=hid ab;have H:=hid h;have HB:=hid aa
 clear ab kE
 obtain ⟨af,ag,ah,ai,aj,ak,al,am,an,ao,aq,ar,au,av,aw,ax⟩:=ac.out.all8
 obtain ⟨ay,az,a0,a1,a2,a3⟩:=ad.out.all3
 have gz:(512:Int)<(eo.size:Int)+(en.size:Int):=by omega
 clear h aa hz
 go_enter Tryz.func99,Tryz.ntmps99
 go_wp2
 go_ret
 exact ⟨⟨t,m,u,ro,so,g⟩,rb,p,L,rfl,H.out.later (by rw [← hwX];exact below1 _ _),rfl,ae.out⟩
set_option maxRecDepth 100000 in
set_option maxHeartbeats 800000 in
theorem qS {so:Bool} {w:World} {b:Nat} {t:ByteArray} {m:KPc} {u ro:SPc} {g:EPc} {rb:Nat} {p:Option Addr} {L:List ByteArray} (h:IsEd T w b ⟨t,m,u,ro,so,g⟩ rb p L) (r':Option Addr) (x:Int) (eo en:ByteArray) (ho:eo.size≤4294967296) (hn:en.size≤4294967296) (hx:eo.size+en.size=0):Calls Tryz.prog 99 #[.pointer (some ⟨b,0,none⟩),.pointer r',edV x eo en] w (RetEd T w b ((Sta.d ⟨t,m,u,ro,so,g⟩),0)):=by
 have hbl:b<w.heap.size:=h.lt
 obtain ⟨wX,hwX,kE,aa,hz⟩:=box1 w #[.int .i64 x,.string eo,.string en] 87
 have ac:=hid (show Blk wX b #[.bool true,.pointer (some ⟨rb,0,none⟩),.string ⟨#[]⟩,.slice m.a m.l.length m.c,.slice u.a u.l.length u.c,.slice ro.a ro.l.length ro.c,.bool so,.slice g.a g.l.length g.c] 54 from h.blk.onto aa)
 have ad:=hid (kE)
 have a4:=hid ((h.rows.wide (S':=b::w.heap.size::T) (wide2 (Nat.le_refl _))).later aa)
 have ae:=hid ((Apart.of_below aa:Apart [b] w wX))
 have a5:=hid (Nat.le_refl wX.heap.size)
 have ab:∀ W:World,wX.heap.size≤W.heap.size→∀ i∈b::w.heap.size::T,i<W.heap.size:=fun W hWz i hi=>by simp only [List.mem_cons] at hi;rcases hi with rfl|rfl|hi;all_goals first|omega|(have:=h.tlt i hi;omega)
 have a6:=hid ab;have H:=hid h;have HB:=hid aa
 clear ab kE
 obtain ⟨af,ag,ah,ai,aj,ak,al,am,an,ao,aq,ar,au,av,aw,ax⟩:=ac.out.all8
 obtain ⟨ay,az,a0,a1,a2,a3⟩:=ad.out.all3
 have gz:(eo.size:Int)+(en.size:Int)≤512:=by omega
 have gy:(eo.size:Int)+(en.size:Int)=0:=by omega
 clear h aa hz
 go_enter Tryz.func99,Tryz.ntmps99
 go_wp2
 go_ret
 exact ⟨⟨t,m,u,ro,so,g⟩,rb,p,L,rfl,H.out.later (by rw [← hwX];exact below1 _ _),rfl,ae.out⟩
set_option maxRecDepth 100000 in
set_option maxHeartbeats 1600000 in
theorem pV {w:World} {b:Nat} {t:ByteArray} {m:KPc} {u ro:SPc} {g:EPc} {rb:Nat} {p:Option Addr} {L:List ByteArray} (h:IsEd T w b ⟨t,m,u,ro,true,g⟩ rb p L) (r':Option Addr) (x:Int) (eo en:ByteArray) (ho:eo.size≤4294967296) (hn:en.size≤4294967296) (hx:eo.size+en.size≤512) (hy:1≤eo.size+en.size) (h2:32≤g.l.length):Calls Tryz.prog 99 #[.pointer (some ⟨b,0,none⟩),.pointer r',edV x eo en] w (RetEd T w b ((Sta.d ⟨t,m,u,ro,true,g⟩),9)):=by
 have hbl:b<w.heap.size:=h.lt
 have hgl:g.l.length≤32:=h.inv.gl
 have hadd:addS g.l ⟨x,eo,en⟩=([],9):=by unfold addS;rw [if_pos h2]
 obtain ⟨wX,hwX,kE,af,hz⟩:=box1 w #[.int .i64 x,.string eo,.string en] 87
 have aq:=hid (show Blk wX b #[.bool true,.pointer (some ⟨rb,0,none⟩),.string ⟨#[]⟩,.slice m.a m.l.length m.c,.slice u.a u.l.length u.c,.slice ro.a ro.l.length ro.c,.bool true,.slice g.a g.l.length g.c] 54 from h.blk.onto af)
 have ag:=hid (kE)
 have ar:=hid ((h.rows.wide (S':=b::w.heap.size::T) (wide2 (Nat.le_refl _))).later af)
 have cg:=hid ((Apart.of_below af:Apart [b] w wX))
 have ch:=hid (Nat.le_refl wX.heap.size)
 have au:∀ W:World,wX.heap.size≤W.heap.size→∀ i∈b::w.heap.size::T,i<W.heap.size:=fun W hWz i hi=>by simp only [List.mem_cons] at hi;rcases hi with rfl|rfl|hi;all_goals first|omega|(have:=h.tlt i hi;omega)
 have cl:=hid au;have H:=hid h;have HB:=hid af
 clear au kE
 obtain ⟨az,a0,a1,a2,a3,a5,a6,a7,a8,a9,ba,bb,bc,bd,be,bf⟩:=aq.out.all8
 obtain ⟨bg,bh,bi,bj,bk,bl⟩:=ag.out.all3
 have ca:=fun W (hW:Below wX.heap.size wX W)=>jY g.a g.l g.c ⟨x,eo,en⟩ W ((h.rows.g.later af).later hW).in (by omega)
 rw [hadd] at ca
 have CA:=hid ca
 have hzl:w.heap.size<wX.heap.size:=by omega
 clear h af hz ca hadd
 have gz:(eo.size:Int)+(en.size:Int)≤512:=by omega
 have gy:¬ (eo.size:Int)+(en.size:Int)=0:=by omega
 go_enter Tryz.func99,Tryz.ntmps99
 have hfs:∀ W,Below wX.heap.size wX W→W.cell? ⟨b,7,none⟩=some (.slice g.a g.l.length g.c)∧W.cell? ⟨w.heap.size,0,none⟩=some (.int .i64 x)∧W.cell? ⟨w.heap.size,1,none⟩=some (.string eo)∧W.cell? ⟨w.heap.size,2,none⟩=some (.string en):=fun W h=>⟨(aq.out.onto h).cell 7 _ rfl,(ag.out.onto h).cell 0 _ rfl,(ag.out.onto h).cell 1 _ rfl,(ag.out.onto h).cell 2 _ rfl⟩
 have FS:=hid hfs
 clear hfs
 go_wp2_with fail
 clear az a0 a1 a2 a3 a5 a6 a7 a8 a9 ba bb bc bd be bf bg bh bi bj bk bl
 refine wp_region_held_drew (S:=(fun W:World=>W.cell? ⟨b,7,none⟩=some (.slice g.a g.l.length g.c)∧W.cell? ⟨w.heap.size,0,none⟩=some (.int .i64 x)∧W.cell? ⟨w.heap.size,1,none⟩=some (.string eo)∧W.cell? ⟨w.heap.size,2,none⟩=some (.string en))) (by kernel_rfl) (FS.out _ (Below.refl _ _).drew) (fun hHeld=>?_)
 refine sqt 0 ?_
 refine sqt 1 ?_
 refine sqt 2 ?_
 refine sqt 3 ?_
 refine sqt 4 ?_
 refine sqt 5 ?_
 refine sqt 6 ?_
 clear hwX
 refine wpAnyH_ready (rs:=[7,11]) (by kernel_rfl) (by simp) ?_
 refine AllReadyH.cons (by simp only [sqg];rfl) (fun K hK=>?_) (AllReadyH.cons (by simp only [sqg];rfl) (fun K hK=>?_) AllReadyH.nil)
 ·go_simp
  (go_at_call 132;refine (CA.out _ (Below.refl _ _).drew).mono ?_;rintro e w1 ⟨a4,c4,rfl,aj,ah⟩;have aa:Below wX.heap.size wX w1:=(Below.refl _ _).drew.trans ah)
  try go_wp2_with fail
  refine hK.out _ _ ?_ (fun hHeld=>?_)
  ·exact FS.out _ aa
  clear hK K
  try simp only [Act.put,sqp]
  have ac:=hid (aq.out.onto aa)
  have ab:=hid (ag.out.onto aa)
  have ai:=hid (ar.out.later aa)
  have ak:=hid (cg.out.trans (S':=[]) (.of_below aa) (by simp))
  have al:=hid (Nat.le_trans ch.out aa.size)
  have am:=hid (aj.off (S:=b::w.heap.size::T) (cl.out _ (Nat.le_refl _)))
  clear aj ah CA
  refine sqt 8 ?_
  refine sqt 9 ?_
  refine sqt 10 ?_
  refine sqr 11 fun K hK=>?_
  go_simp
  skip
  try go_wp2_with fail
  refine hK.out _ _ ?_ (fun hHeld=>?_)
  ·exact FS.out _ (aa.alloc aa.size _)
  clear hK K
  try simp only [Act.put,sqp]
  refine sqr 12 fun K hK=>?_
  go_simp
  skip
  try go_wp2_with fail
  refine hK.out _ _ ?_ (fun hHeld=>?_)
  ·exact FS.out _ (aa.alloc aa.size _)
  clear hK K
  try simp only [Act.put,sqp]
  refine sqt 13 ?_
  refine wpAnyH_done (by kernel_rfl) ?_ _
  have dh:wX.heap.size≤w1.heap.size:=aa.size
  clear aa
  obtain ⟨cm,hwA1,kA,hbA,hzA⟩:=box1 w1 #[.slice a4 0 c4] 69
  have an:=hid (ac.out.onto hbA)
  have av:=hid (ab.out.onto hbA)
  have ad:=hid (ai.out.later hbA)
  have ao:=hid (am.out.later hbA)
  have ae:=hid (ak.out.trans (S':=[]) (.of_below hbA) (by simp))
  have cn:=hid (Nat.le_trans al.out hbA.size)
  have aw:=hid kA
  have ax:w1.heap.size<cm.heap.size:=by omega
  have di:=hid ax
  clear kA hbA hzA ax ac ab ai am ak al
  obtain ⟨bm,bn,bo,bp,bq,br,bs,bu,bv,bw,bx,bz,b3,b4,b5,b6⟩:=an.out.all8
  obtain ⟨b7,b8,b9,cb,cc,cd⟩:=av.out.all3
  obtain ⟨ce,cf⟩:=aw.out.all1
  rw [hwA1]
  replace ad:=hid (ad.out.wide (S':=b::T) (fun i hi=>.inl (by simp only [List.mem_cons] at hi ⊢;rcases hi with h|h <;> simp [h])))
  replace ao:=hid (ao.out.wide (S':=b::T) (fun i hi=>.inl (by simp only [List.mem_cons] at hi ⊢;rcases hi with h|h <;> simp [h])))
  go_wp2
  go_ret
  exact ⟨⟨t,m,u,ro,true,g⟩,rb,p,L,rfl,⟨an.out,H.out.rope.apart H.out.blk rfl ae.out,ad.out,H.out.ml,H.out.mc,H.out.inv,fun i hi=>Nat.lt_of_lt_of_le (H.out.tlt i hi) (ae.out).size⟩,rfl,ae.out⟩
 ·go_simp
  have BSA:=hid ((Below.refl wX.heap.size wX).drew.alloc (Nat.le_refl _) (.cells #[.slice none 0 0] 69));have ci:=hid (Blk.new wX.drew #[.slice none 0 0] 69)
  try go_wp2_with fail
  refine hK.out _ _ ?_ (fun hHeld=>?_)
  ·exact FS.out _ BSA.out
  clear hK K
  try simp only [Act.put,sqp]
  refine sqr 7 fun K hK=>?_
  go_simp
  (go_at_call 132;refine (CA.out _ BSA.out).mono ?_;rintro e w1 ⟨a4,c4,rfl,aj,ah⟩;have aa:Below wX.heap.size wX w1:=BSA.out.trans (ah.mono BSA.out.size))
  try go_wp2_with fail
  refine hK.out _ _ ?_ (fun hHeld=>?_)
  ·exact FS.out _ aa
  clear hK K
  try simp only [Act.put,sqp]
  have ac:=hid (aq.out.onto aa)
  have ab:=hid (ag.out.onto aa)
  have ai:=hid (ar.out.later aa)
  have ak:=hid (cg.out.trans (S':=[]) (.of_below aa) (by simp))
  have al:=hid (Nat.le_trans ch.out aa.size)
  have ay:=hid (show Blk w1 wX.heap.size #[.slice none 0 0] 69 from ci.out.onto ah)
  have am:=hid (aj.off (S:=b::w.heap.size::wX.heap.size::T) (fun i hi=>by
   have hs:wX.heap.size+1≤(World.alloc wX.drew (.cells #[.slice none 0 0] 69)).heap.size:=by simp
   simp only [List.mem_cons,List.not_mem_nil,or_false] at hi
   have dj:(World.alloc wX.drew (.cells #[.slice none 0 0] 69)).heap.size=(World.alloc wX (.cells #[.slice none 0 0] 69)).heap.size:=by simp
   rcases hi with rfl|rfl|rfl|hi
   ·exact Nat.lt_of_lt_of_le (by omega) hs
   ·exact Nat.lt_of_lt_of_le (by omega) hs
   ·exact hs
   ·exact Nat.lt_of_lt_of_le (by have:=H.out.tlt i hi;omega) hs))
  replace ai:=hid (((ar.out.wide (S':=b::w.heap.size::wX.heap.size::T) (wide3 (Nat.le_refl _))).later aa))
  clear aj ah CA ci
  refine sqt 8 ?_
  refine sqt 9 ?_
  refine sqt 10 ?_
  obtain ⟨co,cp,cq,cr,ct,cu,cv,cw,cx,cy,cz,c3,c5,c6,c7,c8⟩:=ac.out.all8
  obtain ⟨c9,da,db,dc,dd,de⟩:=ab.out.all3
  obtain ⟨df,dg⟩:=ay.out.all1
  have ck:w1.cell? ⟨b,7,none⟩=some (.slice g.a g.l.length g.c):=ac.out.cell 7 _ rfl
  refine sqr 12 fun K hK=>?_
  go_simp
  skip
  try go_wp2_with fail
  refine hK.out _ _ ?_ (fun hHeld=>?_)
  ·exact ⟨(ac.out.other ⟨wX.heap.size,0,none⟩ (by show wX.heap.size≠b;omega) _).cell 7 _ rfl,(ab.out.other ⟨wX.heap.size,0,none⟩ (by show wX.heap.size≠w.heap.size;omega) _).cell 0 _ rfl,(ab.out.other ⟨wX.heap.size,0,none⟩ (by show wX.heap.size≠w.heap.size;omega) _).cell 1 _ rfl,(ab.out.other ⟨wX.heap.size,0,none⟩ (by show wX.heap.size≠w.heap.size;omega) _).cell 2 _ rfl⟩
  clear hK K
  try simp only [Act.put,sqp]
  refine sqt 13 ?_
  refine wpAnyH_done (by kernel_rfl) ?_ _
  clear aa ck BSA
  have kT:Blk (w1.setCell ⟨wX.heap.size,0,none⟩ (.slice a4 0 c4)) (wX.heap.size) #[.slice a4 0 c4] 69:=(ay.out.set 0 _)
  have kO:Blk (w1.setCell ⟨wX.heap.size,0,none⟩ (.slice a4 0 c4)) (b) #[.bool true,.pointer (some ⟨rb,0,none⟩),.string ⟨#[]⟩,.slice m.a m.l.length m.c,.slice u.a u.l.length u.c,.slice ro.a ro.l.length ro.c,.bool true,.slice g.a g.l.length g.c] 54:=(ac.out.other ⟨wX.heap.size,0,none⟩ (by show wX.heap.size≠b;omega) _)
  have kE:Blk (w1.setCell ⟨wX.heap.size,0,none⟩ (.slice a4 0 c4)) (w.heap.size) #[.int .i64 x,.string eo,.string en] 87:=(ab.out.other ⟨wX.heap.size,0,none⟩ (by show wX.heap.size≠w.heap.size;omega) _)
  have ap:Apart (b::w.heap.size::wX.heap.size::T) w1 (w1.setCell ⟨wX.heap.size,0,none⟩ (.slice a4 0 c4)):=(Apart.refl (b::w.heap.size::wX.heap.size::T) w1).setCell (p:=⟨wX.heap.size,0,none⟩) (.inl (by simp)) _
  have rS:=ai.out.apart ap
  have rG:=am.out.apart ap
  have hB:=((ak.out.setCell (p:=⟨wX.heap.size,0,none⟩) (by right;show w.heap.size≤wX.heap.size;omega) _):Apart [b] w (w1.setCell ⟨wX.heap.size,0,none⟩ (.slice a4 0 c4)))
  have hz:(w1.setCell ⟨wX.heap.size,0,none⟩ (.slice a4 0 c4)).heap.size=w1.heap.size:=by simp
  obtain ⟨v2,cj⟩:∃ V,(w1.setCell ⟨wX.heap.size,0,none⟩ (.slice a4 0 c4))=V:=⟨_,rfl⟩
  rw [cj] at kO kE kT rS rG hB hz
  rw [cj]
  have an:=hid kO
  have av:=hid kE
  have aw:=hid kT
  have ad:=hid rS
  have ao:=hid rG
  have ae:=hid hB
  have cn:=hid (Nat.le_trans al.out (Nat.le_of_eq hz.symm))
  clear kO kE kT rS rG hB hz ap ac ab ay ai am ak al
  obtain ⟨bm,bn,bo,bp,bq,br,bs,bu,bv,bw,bx,bz,b3,b4,b5,b6⟩:=an.out.all8
  obtain ⟨b7,b8,b9,cb,cc,cd⟩:=av.out.all3
  obtain ⟨ce,cf⟩:=aw.out.all1
  replace ad:=hid (ad.out.wide (S':=b::T) (fun i hi=>.inl (by simp only [List.mem_cons] at hi ⊢;rcases hi with h|h <;> simp [h])))
  replace ao:=hid (ao.out.wide (S':=b::T) (fun i hi=>.inl (by simp only [List.mem_cons] at hi ⊢;rcases hi with h|h <;> simp [h])))
  go_wp2
  go_ret
  exact ⟨⟨t,m,u,ro,true,g⟩,rb,p,L,rfl,⟨an.out,H.out.rope.apart H.out.blk rfl ae.out,ad.out,H.out.ml,H.out.mc,H.out.inv,fun i hi=>Nat.lt_of_lt_of_le (H.out.tlt i hi) (ae.out).size⟩,rfl,ae.out⟩
set_option maxRecDepth 100000 in
set_option maxHeartbeats 3200000 in
theorem pJ {w:World} {b:Nat} {t:ByteArray} {m:KPc} {u ro:SPc} {g:EPc} {rb:Nat} {p:Option Addr} {L:List ByteArray} (h:IsEd T w b ⟨t,m,u,ro,true,g⟩ rb p L) (x:Int) (eo en:ByteArray) (ho:eo.size≤4294967296) (hn:en.size≤4294967296) (hx:eo.size+en.size≤512) (hy:1≤eo.size+en.size) {t':ByteArray} {rb':Nat} {p':Option Addr} {L':List ByteArray} (hap:appE t x eo en=(t',0)) (hr:RopeW w (some ⟨rb',0,none⟩) p' L' t') (h2:g.l.length<32):Calls Tryz.prog 99 #[.pointer (some ⟨b,0,none⟩),.pointer (some ⟨rb',0,none⟩),edV x eo en] w (RetEd T w b (editD (Sta.d ⟨t,m,u,ro,true,g⟩) ⟨x,eo,en⟩)):=by
 have hbl:b<w.heap.size:=h.lt
 have hadd:addS g.l ⟨x,eo,en⟩=(g.l++[⟨x,eo,en⟩],0):=by unfold addS;rw [if_neg (by omega)]
 have hok:okE5 ⟨x,eo,en⟩=true:=(cO _).2 ⟨by show eo.size≤512;omega,by show en.size≤512;omega,by show 1≤eo.size∨1≤en.size;omega⟩
 have hrun:runE t [⟨x,eo,en⟩]=(t',0):=fT hap
 have hmx:=h.inv.shown hrun
 have hpx:=lJ h.inv.z hrun
 have hzx:=h.inv.edz (l:=[⟨x,eo,en⟩]) (fun y hy=>by rw [List.mem_singleton.1 hy];exact hok)
 have hie:=jW (x:=⟨x,eo,en⟩) (t':=t') h.inv hap hok
 have hml:m.l.length≤1000000:=Nat.le_trans h.inv.ml (by decide)
 have hmc:m.l.length≤m.c∧m.c≤maxLen:=⟨h.ml,h.mc⟩
 obtain ⟨l,hl⟩:∃ l,g.l++[(⟨x,eo,en⟩:Edt)]=l:=⟨_,rfl⟩
 have h9:=hid hzx;have ia:=hid hpx;have ib:=hid hmx;have ic:=hid hml;have ie:=hid hmc;have HI:=hid hie;have HR:=hid hr;have HL:=hid hl
 rw [hl] at hadd
 have he:editD (Sta.d ⟨t,m,u,ro,true,g⟩) ⟨x,eo,en⟩=(⟨t',shfM m.l (shiftI x eo.size en.size),lsP u.l,[],true,l⟩,0):=by unfold editD;rw [if_neg (fun h=>by have:=h.2;have:32≤g.l.length:=this;omega)];simp only [hap,← hl];simp only [Sta.d,hap];rfl
 have HE:=hid he
 rw [he]
 clear he hmx hpx hzx hie hml hmc hap hr hrun hok hl
 obtain ⟨wX,hwX,kE,a6,hz⟩:=box1 w #[.int .i64 x,.string eo,.string en] 87
 have e4:=hid (show Blk wX b #[.bool true,.pointer (some ⟨rb,0,none⟩),.string ⟨#[]⟩,.slice m.a m.l.length m.c,.slice u.a u.l.length u.c,.slice ro.a ro.l.length ro.c,.bool true,.slice g.a g.l.length g.c] 54 from h.blk.onto a6)
 have a7:=hid (kE)
 have e5:=hid ((h.rows.wide (S':=b::w.heap.size::T) (wide2 (Nat.le_refl _))).later a6)
 have ig:=hid ((Apart.of_below a6:Apart [b] w wX))
 have ih:=hid (Nat.le_refl wX.heap.size)
 have e6:∀ W:World,wX.heap.size≤W.heap.size→∀ i∈b::w.heap.size::T,i<W.heap.size:=fun W hWz i hi=>by simp only [List.mem_cons] at hi;rcases hi with rfl|rfl|hi;all_goals first|omega|(have:=h.tlt i hi;omega)
 have ik:=hid e6;have H:=hid h;have HB:=hid a6
 clear e6 kE
 obtain ⟨fj,fk,fm,fn,fo,fp,fq,fr,fs,ft,fu,fv,fw,fx,fy,fz⟩:=e4.out.all8
 obtain ⟨f0,f1,f2,f3,f4,f5⟩:=a7.out.all3
 have ca:=fun W (hW:Below wX.heap.size wX W)=>jY g.a g.l g.c ⟨x,eo,en⟩ W ((h.rows.g.later a6).later hW).in (by omega)
 rw [hadd] at ca
 have CA:=hid ca
 have hzl:w.heap.size<wX.heap.size:=by omega
 clear h a6 hz ca hadd
 have gz:(eo.size:Int)+(en.size:Int)≤512:=by omega
 have gy:¬ (eo.size:Int)+(en.size:Int)=0:=by omega
 go_enter Tryz.func99,Tryz.ntmps99
 have hfs:∀ W,Below wX.heap.size wX W→W.cell? ⟨b,7,none⟩=some (.slice g.a g.l.length g.c)∧W.cell? ⟨w.heap.size,0,none⟩=some (.int .i64 x)∧W.cell? ⟨w.heap.size,1,none⟩=some (.string eo)∧W.cell? ⟨w.heap.size,2,none⟩=some (.string en):=fun W h=>⟨(e4.out.onto h).cell 7 _ rfl,(a7.out.onto h).cell 0 _ rfl,(a7.out.onto h).cell 1 _ rfl,(a7.out.onto h).cell 2 _ rfl⟩
 have FS:=hid hfs
 clear hfs
 go_wp2_with fail
 clear fj fk fm fn fo fp fq fr fs ft fu fv fw fx fy fz f0 f1 f2 f3 f4 f5
 refine wp_region_held_drew (S:=(fun W:World=>W.cell? ⟨b,7,none⟩=some (.slice g.a g.l.length g.c)∧W.cell? ⟨w.heap.size,0,none⟩=some (.int .i64 x)∧W.cell? ⟨w.heap.size,1,none⟩=some (.string eo)∧W.cell? ⟨w.heap.size,2,none⟩=some (.string en))) (by kernel_rfl) (FS.out _ (Below.refl _ _).drew) (fun hHeld=>?_)
 refine sqt 0 ?_
 refine sqt 1 ?_
 refine sqt 2 ?_
 refine sqt 3 ?_
 refine sqt 4 ?_
 refine sqt 5 ?_
 refine sqt 6 ?_
 clear hwX
 refine wpAnyH_ready (rs:=[7,11]) (by kernel_rfl) (by simp) ?_
 refine AllReadyH.cons (by simp only [sqg];rfl) (fun K hK=>?_) (AllReadyH.cons (by simp only [sqg];rfl) (fun K hK=>?_) AllReadyH.nil)
 ·go_simp
  (go_at_call 132;refine (CA.out _ (Below.refl _ _).drew).mono ?_;rintro e w1 ⟨a4,c4,rfl,eg,a8⟩;have aa:Below wX.heap.size wX w1:=(Below.refl _ _).drew.trans a8)
  try go_wp2_with fail
  refine hK.out _ _ ?_ (fun hHeld=>?_)
  ·exact FS.out _ aa
  clear hK K
  try simp only [Act.put,sqp]
  have ai:=hid (e4.out.onto aa)
  have ad:=hid (a7.out.onto aa)
  have a9:=hid (e5.out.later aa)
  have eh:=hid (ig.out.trans (S':=[]) (.of_below aa) (by simp))
  have ei:=hid (Nat.le_trans ih.out aa.size)
  have ej:=hid (eg.off (S:=b::w.heap.size::T) (ik.out _ (Nat.le_refl _)))
  clear eg a8 CA
  refine sqt 8 ?_
  refine sqt 9 ?_
  refine sqt 10 ?_
  refine sqr 11 fun K hK=>?_
  go_simp
  skip
  try go_wp2_with fail
  refine hK.out _ _ ?_ (fun hHeld=>?_)
  ·exact FS.out _ (aa.alloc aa.size _)
  clear hK K
  try simp only [Act.put,sqp]
  refine sqr 12 fun K hK=>?_
  go_simp
  skip
  try go_wp2_with fail
  refine hK.out _ _ ?_ (fun hHeld=>?_)
  ·exact FS.out _ (aa.alloc aa.size _)
  clear hK K
  try simp only [Act.put,sqp]
  refine sqt 13 ?_
  refine wpAnyH_done (by kernel_rfl) ?_ _
  have io:wX.heap.size≤w1.heap.size:=aa.size
  clear aa
  obtain ⟨ab,hwA1,kA,hbA,hzA⟩:=box1 w1 #[.slice a4 l.length c4] 69
  have aj:=hid (ai.out.onto hbA)
  have ak:=hid (ad.out.onto hbA)
  have ae:=hid (a9.out.later hbA)
  have af:=hid (ej.out.later hbA)
  have ek:=hid (eh.out.trans (S':=[]) (.of_below hbA) (by simp))
  have el:=hid (Nat.le_trans ei.out hbA.size)
  have al:=hid kA
  have e7:w1.heap.size<ab.heap.size:=by omega
  have ip:=hid e7
  clear kA hbA hzA e7 ai ad a9 ej eh ei
  obtain ⟨ba,bb,bc,bd,be,bf,bg,bh,bi,bj,bk,bl,bm,bn,bo,bp⟩:=aj.out.all8
  obtain ⟨bq,br,bs,bu,bv,bw⟩:=ak.out.all3
  obtain ⟨bx,bz⟩:=al.out.all1
  rw [hwA1]
  replace ae:=hid (ae.out.wide (S':=b::T) (fun i hi=>.inl (by simp only [List.mem_cons] at hi ⊢;rcases hi with h|h <;> simp [h])))
  replace af:=hid (af.out.wide (S':=b::T) (fun i hi=>.inl (by simp only [List.mem_cons] at hi ⊢;rcases hi with h|h <;> simp [h])))
  have kO:Blk (ab.setCell ⟨b,7,none⟩ (.slice a4 l.length c4)) (b) #[.bool true,.pointer (some ⟨rb,0,none⟩),.string ⟨#[]⟩,.slice m.a m.l.length m.c,.slice u.a u.l.length u.c,.slice ro.a ro.l.length ro.c,.bool true,.slice a4 l.length c4] 54:=(aj.out.set 7 _)
  have kE:Blk (ab.setCell ⟨b,7,none⟩ (.slice a4 l.length c4)) (w.heap.size) #[.int .i64 x,.string eo,.string en] 87:=(ak.out.other ⟨b,7,none⟩ (by show b≠w.heap.size;omega) _)
  have kT:Blk (ab.setCell ⟨b,7,none⟩ (.slice a4 l.length c4)) (w1.heap.size) #[.slice a4 l.length c4] 69:=(al.out.other ⟨b,7,none⟩ (by show b≠w1.heap.size;omega) _)
  have ap:Apart (b::T) ab (ab.setCell ⟨b,7,none⟩ (.slice a4 l.length c4)):=(Apart.refl (b::T) ab).setCell (p:=⟨b,7,none⟩) (.inl (by simp)) _
  have rS:=ae.out.apart ap
  have rG:=af.out.apart ap
  have hB:=((ek.out.setCell (p:=⟨b,7,none⟩) (by simp) _):Apart [b] w (ab.setCell ⟨b,7,none⟩ (.slice a4 l.length c4)))
  have hz:(ab.setCell ⟨b,7,none⟩ (.slice a4 l.length c4)).heap.size=ab.heap.size:=by simp
  obtain ⟨v3,em⟩:∃ V,(ab.setCell ⟨b,7,none⟩ (.slice a4 l.length c4))=V:=⟨_,rfl⟩
  rw [em] at kO kE kT rS rG hB hz
  have am:=hid kO
  have an:=hid kE
  have ao:=hid kT
  have ep:=hid rS
  have eq:=hid rG
  have er:=hid hB
  have es:=hid (Nat.le_trans el.out (Nat.le_of_eq hz.symm))
  clear kO kE kT rS rG hB hz ap aj ak al ae af ek el
  obtain ⟨b3,b4,b5,b6,b7,b8,b9,cb,cc,cd,ce,cf,cg,ch,ci,cj⟩:=am.out.all8
  obtain ⟨ck,cl,cm,cn,co,cp⟩:=an.out.all3
  obtain ⟨cq,cr⟩:=ao.out.all1
  have kO:Blk (v3.setCell ⟨b,5,none⟩ (.slice none 0 0)) (b) #[.bool true,.pointer (some ⟨rb,0,none⟩),.string ⟨#[]⟩,.slice m.a m.l.length m.c,.slice u.a u.l.length u.c,.slice none 0 0,.bool true,.slice a4 l.length c4] 54:=(am.out.set 5 _)
  have kE:Blk (v3.setCell ⟨b,5,none⟩ (.slice none 0 0)) (w.heap.size) #[.int .i64 x,.string eo,.string en] 87:=(an.out.other ⟨b,5,none⟩ (by show b≠w.heap.size;omega) _)
  have kT:Blk (v3.setCell ⟨b,5,none⟩ (.slice none 0 0)) (w1.heap.size) #[.slice a4 l.length c4] 69:=(ao.out.other ⟨b,5,none⟩ (by show b≠w1.heap.size;omega) _)
  have ap:Apart (b::T) v3 (v3.setCell ⟨b,5,none⟩ (.slice none 0 0)):=(Apart.refl (b::T) v3).setCell (p:=⟨b,5,none⟩) (.inl (by simp)) _
  have rS:=ep.out.apart ap
  have rG:=eq.out.apart ap
  have hB:=((er.out.setCell (p:=⟨b,5,none⟩) (by simp) _):Apart [b] w (v3.setCell ⟨b,5,none⟩ (.slice none 0 0)))
  have hz:(v3.setCell ⟨b,5,none⟩ (.slice none 0 0)).heap.size=v3.heap.size:=by simp
  obtain ⟨v4,et⟩:∃ V,(v3.setCell ⟨b,5,none⟩ (.slice none 0 0))=V:=⟨_,rfl⟩
  rw [et] at kO kE kT rS rG hB hz
  have ag:=hid kO
  have aq:=hid kE
  have ar:=hid kT
  have eu:=hid rS
  have ev:=hid rG
  have au:=hid hB
  have ew:=hid (Nat.le_trans es.out (Nat.le_of_eq hz.symm))
  clear kO kE kT rS rG hB hz ap am an ao ep eq er es
  obtain ⟨ct,cu,cv,cw,cx,cy,cz,c3,c5,c6,c7,c8,c9,da,db,dc⟩:=ag.out.all8
  obtain ⟨dd,de,df,dg,dh,di⟩:=aq.out.all3
  obtain ⟨dj,dk⟩:=ar.out.all1
  have e8:=hid (show b<v4.heap.size from ag.out.lt);have e9:=hid au.out.size
  obtain ⟨ex,hwA4,kA,hbA,hzA⟩:=box1 v4 #[.int .i64 x,.string eo,.string en] 87
  have av:=hid (ag.out.onto hbA)
  have aw:=hid (aq.out.onto hbA)
  have ax:=hid (ar.out.onto hbA)
  have ay:=hid (eu.out.later hbA)
  have ey:=hid (ev.out.later hbA)
  have az:=hid (au.out.trans (S':=[]) (.of_below hbA) (by simp))
  have ez:=hid (Nat.le_trans ew.out hbA.size)
  have ac:=hid kA
  have a0:v4.heap.size<ex.heap.size:=by omega
  have il:=hid a0
  clear kA hbA hzA a0 ag aq ar eu ev au ew
  obtain ⟨dl,dm,dn,dp,dq,dr,ds,dt,du,dv,dw,dx,dy,dz,d0,d1⟩:=av.out.all8
  obtain ⟨d2,d3,d4,d5,d6,d7⟩:=aw.out.all3
  obtain ⟨d8,d9⟩:=ax.out.all1
  obtain ⟨ea,eb,ec,ed,ee,ef⟩:=ac.out.all3
  have hbv:b≠v4.heap.size:=by have h1:=e8.out;omega
  have csh:=eR (made:=true) (r:=some ⟨rb,0,none⟩) (t:=⟨#[]⟩) (m:=m) (u:=u) (ro:=⟨none,[],0⟩) (o:=true) (g:=⟨a4,l,c4⟩) av.out (fun i hi=>Nat.lt_of_lt_of_le (H.out.tlt i hi) az.out.size) ay.out.m ic.out ie.out (some ⟨rb',0,none⟩) ⟨some ⟨v4.heap.size,0,none⟩,[⟨x,eo,en⟩],1⟩ ⟨eone ac.out ⟨ac.out.lt,by simp only [List.mem_cons,not_or];exact ⟨by omega,fun hi=>by have h1:=H.out.tlt _ hi;have h2:=e9.out;(try dsimp only at h1 h2);omega⟩⟩,fun e=>by cases e⟩ (by simp) h9.out ia.out ib.out
  have fa:=hid (show Calls Tryz.prog 133 #[.pointer (some ⟨b,0,none⟩),.pointer (some ⟨rb',0,none⟩),.slice (some ⟨v4.heap.size,0,none⟩) (1:Nat) 1] ex _ from csh)
  clear csh
  go_wp2_with fail
  refine (fa.out).mono ?_;rintro e wZ ⟨rfl,⟨ma,ml,mc⟩,a1,a2,e0,a3,ha⟩
  clear hwA1 ba bb bc bd be bf bg bh bi bj bk bl bm bn bo bp bq br bs bu bv bw bx bz em b3 b4 b5 b6 b7 b8 b9 cb cc cd ce cf cg ch ci cj ck cl cm cn co cp cq cr et ct cu cv cw cx cy cz c3 c5 c6 c7 c8 c9 da db dc dd de df dg dh di dj dk hwA4 dl dm dn dp dq dr ds dt du dv dw dx dy dz d0 d1 d2 d3 d4 d5 d6 d7 d8 d9 ea eb ec ed ee ef
  have e3:=hid (e0)
  have fb:=hid (aw.out.apart ha (by simp only [List.mem_singleton];omega))
  have fc:=hid (ax.out.apart ha (by simp only [List.mem_singleton];omega))
  have fd:=hid (ac.out.apart ha (by simp only [List.mem_singleton];omega))
  have fe:=hid (ay.out.apart (ha.more (by simp)))
  have ff:=hid (ey.out.apart (ha.more (by simp)))
  have a5:=hid (az.out.trans ha (by simp))
  have im:=hid (Nat.le_trans ez.out ha.size)
  have ah:=hid (And.intro a1 a2)
  have fg:=hid (a3)
  clear ha a1 a2 e0 a3 av aw ax ac ay ey az ez
  obtain ⟨f6,f7,f8,f9,ga,gb,gc,gd,gf,gg,gh,gi,gj,gk,gm,gn⟩:=e3.out.all8
  obtain ⟨gp,gq,gs,gt,gu,gv⟩:=fb.out.all3
  obtain ⟨gw,gx⟩:=fc.out.all1
  obtain ⟨g0,g1,g2,g3,g4,g5⟩:=fd.out.all3
  go_wp2
  go_ret
  refine ⟨⟨t',⟨ma,ml,mc⟩,u,⟨none,[],0⟩,true,⟨a4,l,c4⟩⟩,rb',p',L',rfl,⟨e3.out,HR.out.apart H.out.blk rfl a5.out,⟨fg.out,fe.out.u,SPo.empty _ _,ff.out⟩,ah.out.2.1,ah.out.2.2,?_,fun i hi=>Nat.lt_of_lt_of_le (H.out.tlt i hi) (a5.out).size⟩,?_,a5.out⟩
  ·have e:=HI.out
   rw [HE.out] at e
   have h3:ml=shfM m.l (shiftI x eo.size en.size):=ah.out.1
   show InvS (⟨t',ml,lsP u.l,[],true,l⟩:StaD)
   rw [h3]
   exact e
  ·have h3:ml=shfM m.l (shiftI x eo.size en.size):=ah.out.1
   show (⟨t',ml,lsP u.l,[],true,l⟩:StaD)=_
   rw [h3]
 ·go_simp
  have BSA:=hid ((Below.refl wX.heap.size wX).drew.alloc (Nat.le_refl _) (.cells #[.slice none 0 0] 69));have ii:=hid (Blk.new wX.drew #[.slice none 0 0] 69)
  try go_wp2_with fail
  refine hK.out _ _ ?_ (fun hHeld=>?_)
  ·exact FS.out _ BSA.out
  clear hK K
  try simp only [Act.put,sqp]
  refine sqr 7 fun K hK=>?_
  go_simp
  (go_at_call 132;refine (CA.out _ BSA.out).mono ?_;rintro e w1 ⟨a4,c4,rfl,eg,a8⟩;have aa:Below wX.heap.size wX w1:=BSA.out.trans (a8.mono BSA.out.size))
  try go_wp2_with fail
  refine hK.out _ _ ?_ (fun hHeld=>?_)
  ·exact FS.out _ aa
  clear hK K
  try simp only [Act.put,sqp]
  have ai:=hid (e4.out.onto aa)
  have ad:=hid (a7.out.onto aa)
  have a9:=hid (e5.out.later aa)
  have eh:=hid (ig.out.trans (S':=[]) (.of_below aa) (by simp))
  have ei:=hid (Nat.le_trans ih.out aa.size)
  have fh:=hid (show Blk w1 wX.heap.size #[.slice none 0 0] 69 from ii.out.onto a8)
  have ej:=hid (eg.off (S:=b::w.heap.size::wX.heap.size::T) (fun i hi=>by
   have hs:wX.heap.size+1≤(World.alloc wX.drew (.cells #[.slice none 0 0] 69)).heap.size:=by simp
   simp only [List.mem_cons,List.not_mem_nil,or_false] at hi
   have iq:(World.alloc wX.drew (.cells #[.slice none 0 0] 69)).heap.size=(World.alloc wX (.cells #[.slice none 0 0] 69)).heap.size:=by simp
   rcases hi with rfl|rfl|rfl|hi
   ·exact Nat.lt_of_lt_of_le (by omega) hs
   ·exact Nat.lt_of_lt_of_le (by omega) hs
   ·exact hs
   ·exact Nat.lt_of_lt_of_le (by have:=H.out.tlt i hi;omega) hs))
  replace a9:=hid (((e5.out.wide (S':=b::w.heap.size::wX.heap.size::T) (wide3 (Nat.le_refl _))).later aa))
  clear eg a8 CA ii
  refine sqt 8 ?_
  refine sqt 9 ?_
  refine sqt 10 ?_
  obtain ⟨g6,g7,g8,g9,hb,hc,hd,hf,hg,hj,hk,hm,hp,hq,ht,hu⟩:=ai.out.all8
  obtain ⟨hv,hw,h0,h4,h5,h6⟩:=ad.out.all3
  obtain ⟨h7,h8⟩:=fh.out.all1
  have ij:w1.cell? ⟨b,7,none⟩=some (.slice g.a g.l.length g.c):=ai.out.cell 7 _ rfl
  refine sqr 12 fun K hK=>?_
  go_simp
  skip
  try go_wp2_with fail
  refine hK.out _ _ ?_ (fun hHeld=>?_)
  ·exact ⟨(ai.out.other ⟨wX.heap.size,0,none⟩ (by show wX.heap.size≠b;omega) _).cell 7 _ rfl,(ad.out.other ⟨wX.heap.size,0,none⟩ (by show wX.heap.size≠w.heap.size;omega) _).cell 0 _ rfl,(ad.out.other ⟨wX.heap.size,0,none⟩ (by show wX.heap.size≠w.heap.size;omega) _).cell 1 _ rfl,(ad.out.other ⟨wX.heap.size,0,none⟩ (by show wX.heap.size≠w.heap.size;omega) _).cell 2 _ rfl⟩
  clear hK K
  try simp only [Act.put,sqp]
  refine sqt 13 ?_
  refine wpAnyH_done (by kernel_rfl) ?_ _
  clear aa ij BSA
  have kT:Blk (w1.setCell ⟨wX.heap.size,0,none⟩ (.slice a4 l.length c4)) (wX.heap.size) #[.slice a4 l.length c4] 69:=(fh.out.set 0 _)
  have kO:Blk (w1.setCell ⟨wX.heap.size,0,none⟩ (.slice a4 l.length c4)) (b) #[.bool true,.pointer (some ⟨rb,0,none⟩),.string ⟨#[]⟩,.slice m.a m.l.length m.c,.slice u.a u.l.length u.c,.slice ro.a ro.l.length ro.c,.bool true,.slice g.a g.l.length g.c] 54:=(ai.out.other ⟨wX.heap.size,0,none⟩ (by show wX.heap.size≠b;omega) _)
  have kE:Blk (w1.setCell ⟨wX.heap.size,0,none⟩ (.slice a4 l.length c4)) (w.heap.size) #[.int .i64 x,.string eo,.string en] 87:=(ad.out.other ⟨wX.heap.size,0,none⟩ (by show wX.heap.size≠w.heap.size;omega) _)
  have ap:Apart (b::w.heap.size::wX.heap.size::T) w1 (w1.setCell ⟨wX.heap.size,0,none⟩ (.slice a4 l.length c4)):=(Apart.refl (b::w.heap.size::wX.heap.size::T) w1).setCell (p:=⟨wX.heap.size,0,none⟩) (.inl (by simp)) _
  have rS:=a9.out.apart ap
  have rG:=ej.out.apart ap
  have hB:=((eh.out.setCell (p:=⟨wX.heap.size,0,none⟩) (by right;show w.heap.size≤wX.heap.size;omega) _):Apart [b] w (w1.setCell ⟨wX.heap.size,0,none⟩ (.slice a4 l.length c4)))
  have hz:(w1.setCell ⟨wX.heap.size,0,none⟩ (.slice a4 l.length c4)).heap.size=w1.heap.size:=by simp
  obtain ⟨v2,fi⟩:∃ V,(w1.setCell ⟨wX.heap.size,0,none⟩ (.slice a4 l.length c4))=V:=⟨_,rfl⟩
  rw [fi] at kO kE kT rS rG hB hz
  rw [fi]
  have aj:=hid kO
  have ak:=hid kE
  have al:=hid kT
  have ae:=hid rS
  have af:=hid rG
  have ek:=hid hB
  have el:=hid (Nat.le_trans ei.out (Nat.le_of_eq hz.symm))
  clear kO kE kT rS rG hB hz ap ai ad fh a9 ej eh ei
  obtain ⟨ba,bb,bc,bd,be,bf,bg,bh,bi,bj,bk,bl,bm,bn,bo,bp⟩:=aj.out.all8
  obtain ⟨bq,br,bs,bu,bv,bw⟩:=ak.out.all3
  obtain ⟨bx,bz⟩:=al.out.all1
  replace ae:=hid (ae.out.wide (S':=b::T) (fun i hi=>.inl (by simp only [List.mem_cons] at hi ⊢;rcases hi with h|h <;> simp [h])))
  replace af:=hid (af.out.wide (S':=b::T) (fun i hi=>.inl (by simp only [List.mem_cons] at hi ⊢;rcases hi with h|h <;> simp [h])))
  have kO:Blk (v2.setCell ⟨b,7,none⟩ (.slice a4 l.length c4)) (b) #[.bool true,.pointer (some ⟨rb,0,none⟩),.string ⟨#[]⟩,.slice m.a m.l.length m.c,.slice u.a u.l.length u.c,.slice ro.a ro.l.length ro.c,.bool true,.slice a4 l.length c4] 54:=(aj.out.set 7 _)
  have kE:Blk (v2.setCell ⟨b,7,none⟩ (.slice a4 l.length c4)) (w.heap.size) #[.int .i64 x,.string eo,.string en] 87:=(ak.out.other ⟨b,7,none⟩ (by show b≠w.heap.size;omega) _)
  have kT:Blk (v2.setCell ⟨b,7,none⟩ (.slice a4 l.length c4)) (wX.heap.size) #[.slice a4 l.length c4] 69:=(al.out.other ⟨b,7,none⟩ (by show b≠wX.heap.size;omega) _)
  have ap:Apart (b::T) v2 (v2.setCell ⟨b,7,none⟩ (.slice a4 l.length c4)):=(Apart.refl (b::T) v2).setCell (p:=⟨b,7,none⟩) (.inl (by simp)) _
  have rS:=ae.out.apart ap
  have rG:=af.out.apart ap
  have hB:=((ek.out.setCell (p:=⟨b,7,none⟩) (by simp) _):Apart [b] w (v2.setCell ⟨b,7,none⟩ (.slice a4 l.length c4)))
  have hz:(v2.setCell ⟨b,7,none⟩ (.slice a4 l.length c4)).heap.size=v2.heap.size:=by simp
  obtain ⟨v3,em⟩:∃ V,(v2.setCell ⟨b,7,none⟩ (.slice a4 l.length c4))=V:=⟨_,rfl⟩
  rw [em] at kO kE kT rS rG hB hz
  have am:=hid kO
  have an:=hid kE
  have ao:=hid kT
  have ep:=hid rS
  have eq:=hid rG
  have er:=hid hB
  have es:=hid (Nat.le_trans el.out (Nat.le_of_eq hz.symm))
  clear kO kE kT rS rG hB hz ap aj ak al ae af ek el
  obtain ⟨b3,b4,b5,b6,b7,b8,b9,cb,cc,cd,ce,cf,cg,ch,ci,cj⟩:=am.out.all8
  obtain ⟨ck,cl,cm,cn,co,cp⟩:=an.out.all3
  obtain ⟨cq,cr⟩:=ao.out.all1
  have kO:Blk (v3.setCell ⟨b,5,none⟩ (.slice none 0 0)) (b) #[.bool true,.pointer (some ⟨rb,0,none⟩),.string ⟨#[]⟩,.slice m.a m.l.length m.c,.slice u.a u.l.length u.c,.slice none 0 0,.bool true,.slice a4 l.length c4] 54:=(am.out.set 5 _)
  have kE:Blk (v3.setCell ⟨b,5,none⟩ (.slice none 0 0)) (w.heap.size) #[.int .i64 x,.string eo,.string en] 87:=(an.out.other ⟨b,5,none⟩ (by show b≠w.heap.size;omega) _)
  have kT:Blk (v3.setCell ⟨b,5,none⟩ (.slice none 0 0)) (wX.heap.size) #[.slice a4 l.length c4] 69:=(ao.out.other ⟨b,5,none⟩ (by show b≠wX.heap.size;omega) _)
  have ap:Apart (b::T) v3 (v3.setCell ⟨b,5,none⟩ (.slice none 0 0)):=(Apart.refl (b::T) v3).setCell (p:=⟨b,5,none⟩) (.inl (by simp)) _
  have rS:=ep.out.apart ap
  have rG:=eq.out.apart ap
  have hB:=((er.out.setCell (p:=⟨b,5,none⟩) (by simp) _):Apart [b] w (v3.setCell ⟨b,5,none⟩ (.slice none 0 0)))
  have hz:(v3.setCell ⟨b,5,none⟩ (.slice none 0 0)).heap.size=v3.heap.size:=by simp
  obtain ⟨v4,et⟩:∃ V,(v3.setCell ⟨b,5,none⟩ (.slice none 0 0))=V:=⟨_,rfl⟩
  rw [et] at kO kE kT rS rG hB hz
  have ag:=hid kO
  have aq:=hid kE
  have ar:=hid kT
  have eu:=hid rS
  have ev:=hid rG
  have au:=hid hB
  have ew:=hid (Nat.le_trans es.out (Nat.le_of_eq hz.symm))
  clear kO kE kT rS rG hB hz ap am an ao ep eq er es
  obtain ⟨ct,cu,cv,cw,cx,cy,cz,c3,c5,c6,c7,c8,c9,da,db,dc⟩:=ag.out.all8
  obtain ⟨dd,de,df,dg,dh,di⟩:=aq.out.all3
  obtain ⟨dj,dk⟩:=ar.out.all1
  have e8:=hid (show b<v4.heap.size from ag.out.lt);have e9:=hid au.out.size
  obtain ⟨ex,hwA4,kA,hbA,hzA⟩:=box1 v4 #[.int .i64 x,.string eo,.string en] 87
  have av:=hid (ag.out.onto hbA)
  have aw:=hid (aq.out.onto hbA)
  have ax:=hid (ar.out.onto hbA)
  have ay:=hid (eu.out.later hbA)
  have ey:=hid (ev.out.later hbA)
  have az:=hid (au.out.trans (S':=[]) (.of_below hbA) (by simp))
  have ez:=hid (Nat.le_trans ew.out hbA.size)
  have ac:=hid kA
  have a0:v4.heap.size<ex.heap.size:=by omega
  have il:=hid a0
  clear kA hbA hzA a0 ag aq ar eu ev au ew
  obtain ⟨dl,dm,dn,dp,dq,dr,ds,dt,du,dv,dw,dx,dy,dz,d0,d1⟩:=av.out.all8
  obtain ⟨d2,d3,d4,d5,d6,d7⟩:=aw.out.all3
  obtain ⟨d8,d9⟩:=ax.out.all1
  obtain ⟨ea,eb,ec,ed,ee,ef⟩:=ac.out.all3
  have hbv:b≠v4.heap.size:=by have h1:=e8.out;omega
  have csh:=eR (made:=true) (r:=some ⟨rb,0,none⟩) (t:=⟨#[]⟩) (m:=m) (u:=u) (ro:=⟨none,[],0⟩) (o:=true) (g:=⟨a4,l,c4⟩) av.out (fun i hi=>Nat.lt_of_lt_of_le (H.out.tlt i hi) az.out.size) ay.out.m ic.out ie.out (some ⟨rb',0,none⟩) ⟨some ⟨v4.heap.size,0,none⟩,[⟨x,eo,en⟩],1⟩ ⟨eone ac.out ⟨ac.out.lt,by simp only [List.mem_cons,not_or];exact ⟨by omega,fun hi=>by have h1:=H.out.tlt _ hi;have h2:=e9.out;(try dsimp only at h1 h2);omega⟩⟩,fun e=>by cases e⟩ (by simp) h9.out ia.out ib.out
  have fa:=hid (show Calls Tryz.prog 133 #[.pointer (some ⟨b,0,none⟩),.pointer (some ⟨rb',0,none⟩),.slice (some ⟨v4.heap.size,0,none⟩) (1:Nat) 1] ex _ from csh)
  clear csh
  go_wp2_with fail
  refine (fa.out).mono ?_;rintro e wZ ⟨rfl,⟨ma,ml,mc⟩,a1,a2,e0,a3,ha⟩
  clear g6 g7 g8 g9 hb hc hd hf hg hj hk hm hp hq ht hu hv hw h0 h4 h5 h6 h7 h8 fi ba bb bc bd be bf bg bh bi bj bk bl bm bn bo bp bq br bs bu bv bw bx bz em b3 b4 b5 b6 b7 b8 b9 cb cc cd ce cf cg ch ci cj ck cl cm cn co cp cq cr et ct cu cv cw cx cy cz c3 c5 c6 c7 c8 c9 da db dc dd de df dg dh di dj dk hwA4 dl dm dn dp dq dr ds dt du dv dw dx dy dz d0 d1 d2 d3 d4 d5 d6 d7 d8 d9 ea eb ec ed ee ef
  have e3:=hid (e0)
  have fb:=hid (aw.out.apart ha (by simp only [List.mem_singleton];omega))
  have fc:=hid (ax.out.apart ha (by simp only [List.mem_singleton];omega))
  have fd:=hid (ac.out.apart ha (by simp only [List.mem_singleton];omega))
  have fe:=hid (ay.out.apart (ha.more (by simp)))
  have ff:=hid (ey.out.apart (ha.more (by simp)))
  have a5:=hid (az.out.trans ha (by simp))
  have im:=hid (Nat.le_trans ez.out ha.size)
  have ah:=hid (And.intro a1 a2)
  have fg:=hid (a3)
  clear ha a1 a2 e0 a3 av aw ax ac ay ey az ez
  obtain ⟨f6,f7,f8,f9,ga,gb,gc,gd,gf,gg,gh,gi,gj,gk,gm,gn⟩:=e3.out.all8
  obtain ⟨gp,gq,gs,gt,gu,gv⟩:=fb.out.all3
  obtain ⟨gw,gx⟩:=fc.out.all1
  obtain ⟨g0,g1,g2,g3,g4,g5⟩:=fd.out.all3
  go_wp2
  go_ret
  refine ⟨⟨t',⟨ma,ml,mc⟩,u,⟨none,[],0⟩,true,⟨a4,l,c4⟩⟩,rb',p',L',rfl,⟨e3.out,HR.out.apart H.out.blk rfl a5.out,⟨fg.out,fe.out.u,SPo.empty _ _,ff.out⟩,ah.out.2.1,ah.out.2.2,?_,fun i hi=>Nat.lt_of_lt_of_le (H.out.tlt i hi) (a5.out).size⟩,?_,a5.out⟩
  ·have e:=HI.out
   rw [HE.out] at e
   have h3:ml=shfM m.l (shiftI x eo.size en.size):=ah.out.1
   show InvS (⟨t',ml,lsP u.l,[],true,l⟩:StaD)
   rw [h3]
   exact e
  ·have h3:ml=shfM m.l (shiftI x eo.size en.size):=ah.out.1
   show (⟨t',ml,lsP u.l,[],true,l⟩:StaD)=_
   rw [h3]
set_option maxRecDepth 100000 in
set_option maxHeartbeats 3200000 in
theorem mB {w:World} {b:Nat} {t:ByteArray} {m:KPc} {u ro:SPc} {g:EPc} {rb:Nat} {p:Option Addr} {L:List ByteArray} (h:IsEd T w b ⟨t,m,u,ro,false,g⟩ rb p L) (x:Int) (eo en:ByteArray) (ho:eo.size≤4294967296) (hn:en.size≤4294967296) (hx:eo.size+en.size≤512) (hy:1≤eo.size+en.size) {t':ByteArray} {rb':Nat} {p':Option Addr} {L':List ByteArray} (hap:appE t x eo en=(t',0)) (hr:RopeW w (some ⟨rb',0,none⟩) p' L' t'):Calls Tryz.prog 99 #[.pointer (some ⟨b,0,none⟩),.pointer (some ⟨rb',0,none⟩),edV x eo en] w (RetEd T w b (editD (Sta.d ⟨t,m,u,ro,false,g⟩) ⟨x,eo,en⟩)):=by
 have hbl:b<w.heap.size:=h.lt
 have hg:g.l=[]:=by
  rcases h.inv.go with e|e
  ·exact e
  ·have:=e.1;cases this
 have hadd:addS g.l ⟨x,eo,en⟩=([⟨x,eo,en⟩],0):=by unfold addS;rw [hg];rfl
 have hok:okE5 ⟨x,eo,en⟩=true:=(cO _).2 ⟨by show eo.size≤512;omega,by show en.size≤512;omega,by show 1≤eo.size∨1≤en.size;omega⟩
 have hrun:runE t [⟨x,eo,en⟩]=(t',0):=fT hap
 have hmx:=h.inv.shown hrun
 have hpx:=lJ h.inv.z hrun
 have hzx:=h.inv.edz (l:=[⟨x,eo,en⟩]) (fun y hy=>by rw [List.mem_singleton.1 hy];exact hok)
 have hie:=jW (x:=⟨x,eo,en⟩) (t':=t') h.inv hap hok
 have hml:m.l.length≤1000000:=Nat.le_trans h.inv.ml (by decide)
 have hmc:m.l.length≤m.c∧m.c≤maxLen:=⟨h.ml,h.mc⟩
 obtain ⟨l,hl⟩:∃ l,[(⟨x,eo,en⟩:Edt)]=l:=⟨_,rfl⟩
 have ii:=hid hzx;have ij:=hid hpx;have ik:=hid hmx;have il:=hid hml;have im:=hid hmc;have HI:=hid hie;have HR:=hid hr;have HL:=hid hl
 rw [hl] at hadd
 have hll:l.length=1:=by rw [← hl];rfl
 have hul:u.l.length≤900∧∀ y∈u.l,y.l.length≤1000000:=by
  have h1:=h.inv.ul
  have h2:(lsP u.l).length≤16:=h1.1
  rw [aA] at h2
  exact ⟨by omega,cQ fun y hy=>Nat.le_trans (h1.2 y hy).2 (by decide)⟩
 have io:=hid hll;have e7:=hid hul
 have he:editD (Sta.d ⟨t,m,u,ro,false,g⟩) ⟨x,eo,en⟩=(⟨t',shfM m.l (shiftI x eo.size en.size),pushL (lsP u.l) [⟨x,eo,en⟩],[],false,g.l⟩,0):=by unfold editD;rw [if_neg (fun h=>by cases h.1)];simp only [Sta.d,hap];rfl
 have HE:=hid he
 rw [he]
 have hgz:g.l.length≤32:=by rw [hg];exact Nat.zero_le _
 clear he hmx hpx hzx hie hml hmc hap hr hrun hok hl hll hul hg
 obtain ⟨wX,hwX,kE,a7,hz⟩:=box1 w #[.int .i64 x,.string eo,.string en] 87
 have e8:=hid (show Blk wX b #[.bool true,.pointer (some ⟨rb,0,none⟩),.string ⟨#[]⟩,.slice m.a m.l.length m.c,.slice u.a u.l.length u.c,.slice ro.a ro.l.length ro.c,.bool false,.slice g.a g.l.length g.c] 54 from h.blk.onto a7)
 have a8:=hid (kE)
 have e9:=hid ((h.rows.wide (S':=b::w.heap.size::T) (wide2 (Nat.le_refl _))).later a7)
 have ip:=hid ((Apart.of_below a7:Apart [b] w wX))
 have iq:=hid (Nat.le_refl wX.heap.size)
 have fa:∀ W:World,wX.heap.size≤W.heap.size→∀ i∈b::w.heap.size::T,i<W.heap.size:=fun W hWz i hi=>by simp only [List.mem_cons] at hi;rcases hi with rfl|rfl|hi;all_goals first|omega|(have:=h.tlt i hi;omega)
 have iv:=hid fa;have H:=hid h;have HB:=hid a7
 clear fa kE
 obtain ⟨fp,fq,fr,fs,ft,fu,fv,fw,fx,fy,fz,f0,f1,f2,f3,f4⟩:=e8.out.all8
 obtain ⟨f5,f6,f7,f8,f9,ga⟩:=a8.out.all3
 have ca:=fun W (hW:Below wX.heap.size wX W)=>jY g.a g.l g.c ⟨x,eo,en⟩ W ((h.rows.g.later a7).later hW).in (by omega)
 rw [hadd] at ca
 have CA:=hid ca
 have hzl:w.heap.size<wX.heap.size:=by omega
 clear h a7 hz ca hadd
 have gz:(eo.size:Int)+(en.size:Int)≤512:=by omega
 have gy:¬ (eo.size:Int)+(en.size:Int)=0:=by omega
 go_enter Tryz.func99,Tryz.ntmps99
 have hfs:∀ W,Below wX.heap.size wX W→W.cell? ⟨b,7,none⟩=some (.slice g.a g.l.length g.c)∧W.cell? ⟨w.heap.size,0,none⟩=some (.int .i64 x)∧W.cell? ⟨w.heap.size,1,none⟩=some (.string eo)∧W.cell? ⟨w.heap.size,2,none⟩=some (.string en):=fun W h=>⟨(e8.out.onto h).cell 7 _ rfl,(a8.out.onto h).cell 0 _ rfl,(a8.out.onto h).cell 1 _ rfl,(a8.out.onto h).cell 2 _ rfl⟩
 have FS:=hid hfs
 clear hfs
 go_wp2_with fail
 clear fp fq fr fs ft fu fv fw fx fy fz f0 f1 f2 f3 f4 f5 f6 f7 f8 f9 ga
 refine wp_region_held_drew (S:=(fun W:World=>W.cell? ⟨b,7,none⟩=some (.slice g.a g.l.length g.c)∧W.cell? ⟨w.heap.size,0,none⟩=some (.int .i64 x)∧W.cell? ⟨w.heap.size,1,none⟩=some (.string eo)∧W.cell? ⟨w.heap.size,2,none⟩=some (.string en))) (by kernel_rfl) (FS.out _ (Below.refl _ _).drew) (fun hHeld=>?_)
 refine sqt 0 ?_
 refine sqt 1 ?_
 refine sqt 2 ?_
 refine sqt 3 ?_
 refine sqt 4 ?_
 refine sqt 5 ?_
 refine sqt 6 ?_
 clear hwX
 refine wpAnyH_ready (rs:=[7,11]) (by kernel_rfl) (by simp) ?_
 refine AllReadyH.cons (by simp only [sqg];rfl) (fun K hK=>?_) (AllReadyH.cons (by simp only [sqg];rfl) (fun K hK=>?_) AllReadyH.nil)
 ·go_simp
  (go_at_call 132;refine (CA.out _ (Below.refl _ _).drew).mono ?_;rintro e w1 ⟨a4,c4,rfl,eh,a9⟩;have aa:Below wX.heap.size wX w1:=(Below.refl _ _).drew.trans a9)
  try go_wp2_with fail
  refine hK.out _ _ ?_ (fun hHeld=>?_)
  ·exact FS.out _ aa
  clear hK K
  try simp only [Act.put,sqp]
  have ah:=hid (e8.out.onto aa)
  have ae:=hid (a8.out.onto aa)
  have ba:=hid (e9.out.later aa)
  have ei:=hid (ip.out.trans (S':=[]) (.of_below aa) (by simp))
  have ej:=hid (Nat.le_trans iq.out aa.size)
  have ek:=hid (eh.off (S:=b::w.heap.size::T) (iv.out _ (Nat.le_refl _)))
  clear eh a9 CA
  refine sqt 8 ?_
  refine sqt 9 ?_
  refine sqt 10 ?_
  refine sqr 11 fun K hK=>?_
  go_simp
  skip
  try go_wp2_with fail
  refine hK.out _ _ ?_ (fun hHeld=>?_)
  ·exact FS.out _ (aa.alloc aa.size _)
  clear hK K
  try simp only [Act.put,sqp]
  refine sqr 12 fun K hK=>?_
  go_simp
  skip
  try go_wp2_with fail
  refine hK.out _ _ ?_ (fun hHeld=>?_)
  ·exact FS.out _ (aa.alloc aa.size _)
  clear hK K
  try simp only [Act.put,sqp]
  refine sqt 13 ?_
  refine wpAnyH_done (by kernel_rfl) ?_ _
  have iz:wX.heap.size≤w1.heap.size:=aa.size
  clear aa
  obtain ⟨ir,hwA1,kA,hbA,hzA⟩:=box1 w1 #[.slice a4 l.length c4] 69
  have ai:=hid (ah.out.onto hbA)
  have aj:=hid (ae.out.onto hbA)
  have ab:=hid (ba.out.later hbA)
  have ac:=hid (ek.out.later hbA)
  have ak:=hid (ei.out.trans (S':=[]) (.of_below hbA) (by simp))
  have el:=hid (Nat.le_trans ej.out hbA.size)
  have al:=hid kA
  have fb:w1.heap.size<ir.heap.size:=by omega
  have i0:=hid fb
  clear kA hbA hzA fb ah ae ba ek ei ej
  obtain ⟨bb,bc,bd,be,bf,bg,bh,bi,bj,bk,bl,bm,bn,bo,bp,bq⟩:=ai.out.all8
  obtain ⟨br,bs,bu,bv,bw,bx⟩:=aj.out.all3
  obtain ⟨bz,b3⟩:=al.out.all1
  rw [hwA1]
  replace ab:=hid (ab.out.wide (S':=b::T) (fun i hi=>.inl (by simp only [List.mem_cons] at hi ⊢;rcases hi with h|h <;> simp [h])))
  replace ac:=hid (ac.out.wide (S':=b::T) (fun i hi=>.inl (by simp only [List.mem_cons] at hi ⊢;rcases hi with h|h <;> simp [h])))
  have cpu:=mC (made:=true) (r:=some ⟨rb,0,none⟩) (t:=⟨#[]⟩) (m:=m) (u:=u) (ro:=ro) (o:=false) (g:=g) ai.out (fun i hi=>Nat.lt_of_lt_of_le (H.out.tlt i hi) ak.out.size) ab.out.u ⟨a4,l,c4⟩ ac.out e7.out.1 e7.out.2 (by rw [io.out];decide)
  have fc:=hid (show Calls Tryz.prog 109 #[.pointer (some ⟨b,0,none⟩),stpV a4 l.length c4] ir _ from cpu)
  clear cpu
  go_wp2_with fail
  refine (fc.out).mono ?_;rintro e wP ⟨rfl,⟨ua,ul,uc⟩,hul,em,hsu,ha⟩
  clear hwA1 bb bc bd be bf bg bh bi bj bk bl bm bn bo bp bq br bs bu bv bw bx bz b3
  have am:=hid (em)
  have an:=hid (aj.out.apart ha (by simp only [List.mem_singleton];omega))
  have ao:=hid (al.out.apart ha (by simp only [List.mem_singleton];omega))
  have ep:=hid (ab.out.apart (ha.more (by simp)))
  have eq:=hid (ac.out.apart (ha.more (by simp)))
  have er:=hid (ak.out.trans ha (by simp))
  have es:=hid (Nat.le_trans el.out ha.size)
  have aq:=hid hul
  have et:=hid (hsu)
  clear ha hul em hsu ai aj al ab ac ak el
  obtain ⟨b4,b5,b6,b7,b8,b9,cb,cc,cd,ce,cf,cg,ch,ci,cj,ck⟩:=am.out.all8
  obtain ⟨cl,cm,cn,co,cp,cq⟩:=an.out.all3
  obtain ⟨cr,ct⟩:=ao.out.all1
  have kO:Blk (wP.setCell ⟨b,5,none⟩ (.slice none 0 0)) (b) #[.bool true,.pointer (some ⟨rb,0,none⟩),.string ⟨#[]⟩,.slice m.a m.l.length m.c,.slice ua ul.length uc,.slice none 0 0,.bool false,.slice g.a g.l.length g.c] 54:=(am.out.set 5 _)
  have kE:Blk (wP.setCell ⟨b,5,none⟩ (.slice none 0 0)) (w.heap.size) #[.int .i64 x,.string eo,.string en] 87:=(an.out.other ⟨b,5,none⟩ (by show b≠w.heap.size;omega) _)
  have kT:Blk (wP.setCell ⟨b,5,none⟩ (.slice none 0 0)) (w1.heap.size) #[.slice a4 l.length c4] 69:=(ao.out.other ⟨b,5,none⟩ (by show b≠w1.heap.size;omega) _)
  have ap:Apart (b::T) wP (wP.setCell ⟨b,5,none⟩ (.slice none 0 0)):=(Apart.refl (b::T) wP).setCell (p:=⟨b,5,none⟩) (.inl (by simp)) _
  have rS:=ep.out.apart ap
  have rG:=eq.out.apart ap
  have rU:=et.out.apart ap
  have hB:=((er.out.setCell (p:=⟨b,5,none⟩) (by simp) _):Apart [b] w (wP.setCell ⟨b,5,none⟩ (.slice none 0 0)))
  have hz:(wP.setCell ⟨b,5,none⟩ (.slice none 0 0)).heap.size=wP.heap.size:=by simp
  obtain ⟨v4,eu⟩:∃ V,(wP.setCell ⟨b,5,none⟩ (.slice none 0 0))=V:=⟨_,rfl⟩
  rw [eu] at kO kE kT rS rG rU hB hz
  have af:=hid kO
  have ar:=hid kE
  have au:=hid kT
  have ev:=hid rS
  have ew:=hid rG
  have ex:=hid rU
  have av:=hid hB
  have ey:=hid (Nat.le_trans es.out (Nat.le_of_eq hz.symm))
  clear kO kE kT rS rG rU hB hz ap am an ao ep eq et er es
  obtain ⟨cu,cv,cw,cx,cy,cz,c3,c5,c6,c7,c8,c9,da,db,dc,dd⟩:=af.out.all8
  obtain ⟨de,df,dg,dh,di,dj⟩:=ar.out.all3
  obtain ⟨dk,dl⟩:=au.out.all1
  have fd:=hid (show b<v4.heap.size from af.out.lt);have fe:=hid av.out.size
  obtain ⟨ez,hwA4,kA,hbA,hzA⟩:=box1 v4 #[.int .i64 x,.string eo,.string en] 87
  have aw:=hid (af.out.onto hbA)
  have ax:=hid (ar.out.onto hbA)
  have ay:=hid (au.out.onto hbA)
  have az:=hid (ev.out.later hbA)
  have e0:=hid (ew.out.later hbA)
  have e3:=hid (ex.out.later hbA)
  have a0:=hid (av.out.trans (S':=[]) (.of_below hbA) (by simp))
  have e4:=hid (Nat.le_trans ey.out hbA.size)
  have ad:=hid kA
  have a1:v4.heap.size<ez.heap.size:=by omega
  have iw:=hid a1
  clear kA hbA hzA a1 af ar au ev ew ex av ey
  obtain ⟨dm,dn,dp,dq,dr,ds,dt,du,dv,dw,dx,dy,dz,d0,d1,d2⟩:=aw.out.all8
  obtain ⟨d3,d4,d5,d6,d7,d8⟩:=ax.out.all3
  obtain ⟨d9,ea⟩:=ay.out.all1
  obtain ⟨eb,ec,ed,ee,ef,eg⟩:=ad.out.all3
  have hbv:b≠v4.heap.size:=by have h1:=fd.out;omega
  have csh:=eR (made:=true) (r:=some ⟨rb,0,none⟩) (t:=⟨#[]⟩) (m:=m) (u:=⟨ua,ul,uc⟩) (ro:=⟨none,[],0⟩) (o:=false) (g:=g) aw.out (fun i hi=>Nat.lt_of_lt_of_le (H.out.tlt i hi) a0.out.size) az.out.m il.out im.out (some ⟨rb',0,none⟩) ⟨some ⟨v4.heap.size,0,none⟩,[⟨x,eo,en⟩],1⟩ ⟨eone ad.out ⟨ad.out.lt,by simp only [List.mem_cons,not_or];exact ⟨by omega,fun hi=>by have h1:=H.out.tlt _ hi;have h2:=fe.out;(try dsimp only at h1 h2);omega⟩⟩,fun e=>by cases e⟩ (by simp) ii.out ij.out ik.out
  have ff:=hid (show Calls Tryz.prog 133 #[.pointer (some ⟨b,0,none⟩),.pointer (some ⟨rb',0,none⟩),.slice (some ⟨v4.heap.size,0,none⟩) (1:Nat) 1] ez _ from csh)
  clear csh
  go_wp2_with fail
  refine (ff.out).mono ?_;rintro e wZ ⟨rfl,⟨ma,ml,mc⟩,a2,a3,e5,a5,ha⟩
  clear b4 b5 b6 b7 b8 b9 cb cc cd ce cf cg ch ci cj ck cl cm cn co cp cq cr ct eu cu cv cw cx cy cz c3 c5 c6 c7 c8 c9 da db dc dd de df dg dh di dj dk dl hwA4 dm dn dp dq dr ds dt du dv dw dx dy dz d0 d1 d2 d3 d4 d5 d6 d7 d8 d9 ea eb ec ed ee ef eg
  have e6:=hid (e5)
  have fg:=hid (ax.out.apart ha (by simp only [List.mem_singleton];omega))
  have fh:=hid (ay.out.apart ha (by simp only [List.mem_singleton];omega))
  have fi:=hid (ad.out.apart ha (by simp only [List.mem_singleton];omega))
  have fj:=hid (az.out.apart (ha.more (by simp)))
  have ix:=hid (e0.out.apart (ha.more (by simp)))
  have fk:=hid (e3.out.apart (ha.more (by simp)))
  have a6:=hid (a0.out.trans ha (by simp))
  have iy:=hid (Nat.le_trans e4.out ha.size)
  have ag:=hid (And.intro a2 a3)
  have fm:=hid (a5)
  clear ha a2 a3 e5 a5 aw ax ay ad az e0 e3 a0 e4
  obtain ⟨gb,gc,gd,gf,gg,gh,gi,gj,gk,gm,gn,gp,gq,gs,gt,gu⟩:=e6.out.all8
  obtain ⟨gv,gw,gx,g0,g1,g2⟩:=fg.out.all3
  obtain ⟨g3,g4⟩:=fh.out.all1
  obtain ⟨g5,g6,g7,g8,g9,hb⟩:=fi.out.all3
  go_wp2
  go_ret
  refine ⟨⟨t',⟨ma,ml,mc⟩,⟨ua,ul,uc⟩,⟨none,[],0⟩,false,g⟩,rb',p',L',rfl,⟨e6.out,HR.out.apart H.out.blk rfl a6.out,⟨fm.out,fk.out,SPo.empty _ _,fj.out.g⟩,ag.out.2.1,ag.out.2.2,?_,fun i hi=>Nat.lt_of_lt_of_le (H.out.tlt i hi) (a6.out).size⟩,?_,a6.out⟩
  ·have e:=HI.out
   rw [HE.out] at e
   have h3:ml=shfM m.l (shiftI x eo.size en.size):=ag.out.1
   have h4:lsP ul=pushL (lsP u.l) [⟨x,eo,en⟩]:=by rw [HL.out];exact aq.out
   show InvS (⟨t',ml,lsP ul,[],false,g.l⟩:StaD)
   rw [h3,h4]
   exact e
  ·have h3:ml=shfM m.l (shiftI x eo.size en.size):=ag.out.1
   have h4:lsP ul=pushL (lsP u.l) [⟨x,eo,en⟩]:=by rw [HL.out];exact aq.out
   show (⟨t',ml,lsP ul,[],false,g.l⟩:StaD)=_
   rw [h3,h4]
 ·go_simp
  have BSA:=hid ((Below.refl wX.heap.size wX).drew.alloc (Nat.le_refl _) (.cells #[.slice none 0 0] 69));have it:=hid (Blk.new wX.drew #[.slice none 0 0] 69)
  try go_wp2_with fail
  refine hK.out _ _ ?_ (fun hHeld=>?_)
  ·exact FS.out _ BSA.out
  clear hK K
  try simp only [Act.put,sqp]
  refine sqr 7 fun K hK=>?_
  go_simp
  (go_at_call 132;refine (CA.out _ BSA.out).mono ?_;rintro e w1 ⟨a4,c4,rfl,eh,a9⟩;have aa:Below wX.heap.size wX w1:=BSA.out.trans (a9.mono BSA.out.size))
  try go_wp2_with fail
  refine hK.out _ _ ?_ (fun hHeld=>?_)
  ·exact FS.out _ aa
  clear hK K
  try simp only [Act.put,sqp]
  have ah:=hid (e8.out.onto aa)
  have ae:=hid (a8.out.onto aa)
  have ba:=hid (e9.out.later aa)
  have ei:=hid (ip.out.trans (S':=[]) (.of_below aa) (by simp))
  have ej:=hid (Nat.le_trans iq.out aa.size)
  have fn:=hid (show Blk w1 wX.heap.size #[.slice none 0 0] 69 from it.out.onto a9)
  have ek:=hid (eh.off (S:=b::w.heap.size::wX.heap.size::T) (fun i hi=>by
   have hs:wX.heap.size+1≤(World.alloc wX.drew (.cells #[.slice none 0 0] 69)).heap.size:=by simp
   simp only [List.mem_cons,List.not_mem_nil,or_false] at hi
   have i1:(World.alloc wX.drew (.cells #[.slice none 0 0] 69)).heap.size=(World.alloc wX (.cells #[.slice none 0 0] 69)).heap.size:=by simp
   rcases hi with rfl|rfl|rfl|hi
   ·exact Nat.lt_of_lt_of_le (by omega) hs
   ·exact Nat.lt_of_lt_of_le (by omega) hs
   ·exact hs
   ·exact Nat.lt_of_lt_of_le (by have:=H.out.tlt i hi;omega) hs))
  replace ba:=hid (((e9.out.wide (S':=b::w.heap.size::wX.heap.size::T) (wide3 (Nat.le_refl _))).later aa))
  clear eh a9 CA it
  refine sqt 8 ?_
  refine sqt 9 ?_
  refine sqt 10 ?_
  obtain ⟨hc,hd,hf,hj,hk,hm,hp,hq,ht,hu,hv,hw,h0,h5,h6,h7⟩:=ah.out.all8
  obtain ⟨h8,h9,ia,ib,ic,ie⟩:=ae.out.all3
  obtain ⟨ig,ih⟩:=fn.out.all1
  have iu:w1.cell? ⟨b,7,none⟩=some (.slice g.a g.l.length g.c):=ah.out.cell 7 _ rfl
  refine sqr 12 fun K hK=>?_
  go_simp
  skip
  try go_wp2_with fail
  refine hK.out _ _ ?_ (fun hHeld=>?_)
  ·exact ⟨(ah.out.other ⟨wX.heap.size,0,none⟩ (by show wX.heap.size≠b;omega) _).cell 7 _ rfl,(ae.out.other ⟨wX.heap.size,0,none⟩ (by show wX.heap.size≠w.heap.size;omega) _).cell 0 _ rfl,(ae.out.other ⟨wX.heap.size,0,none⟩ (by show wX.heap.size≠w.heap.size;omega) _).cell 1 _ rfl,(ae.out.other ⟨wX.heap.size,0,none⟩ (by show wX.heap.size≠w.heap.size;omega) _).cell 2 _ rfl⟩
  clear hK K
  try simp only [Act.put,sqp]
  refine sqt 13 ?_
  refine wpAnyH_done (by kernel_rfl) ?_ _
  clear aa iu BSA
  have kT:Blk (w1.setCell ⟨wX.heap.size,0,none⟩ (.slice a4 l.length c4)) (wX.heap.size) #[.slice a4 l.length c4] 69:=(fn.out.set 0 _)
  have kO:Blk (w1.setCell ⟨wX.heap.size,0,none⟩ (.slice a4 l.length c4)) (b) #[.bool true,.pointer (some ⟨rb,0,none⟩),.string ⟨#[]⟩,.slice m.a m.l.length m.c,.slice u.a u.l.length u.c,.slice ro.a ro.l.length ro.c,.bool false,.slice g.a g.l.length g.c] 54:=(ah.out.other ⟨wX.heap.size,0,none⟩ (by show wX.heap.size≠b;omega) _)
  have kE:Blk (w1.setCell ⟨wX.heap.size,0,none⟩ (.slice a4 l.length c4)) (w.heap.size) #[.int .i64 x,.string eo,.string en] 87:=(ae.out.other ⟨wX.heap.size,0,none⟩ (by show wX.heap.size≠w.heap.size;omega) _)
  have ap:Apart (b::w.heap.size::wX.heap.size::T) w1 (w1.setCell ⟨wX.heap.size,0,none⟩ (.slice a4 l.length c4)):=(Apart.refl (b::w.heap.size::wX.heap.size::T) w1).setCell (p:=⟨wX.heap.size,0,none⟩) (.inl (by simp)) _
  have rS:=ba.out.apart ap
  have rG:=ek.out.apart ap
  have hB:=((ei.out.setCell (p:=⟨wX.heap.size,0,none⟩) (by right;show w.heap.size≤wX.heap.size;omega) _):Apart [b] w (w1.setCell ⟨wX.heap.size,0,none⟩ (.slice a4 l.length c4)))
  have hz:(w1.setCell ⟨wX.heap.size,0,none⟩ (.slice a4 l.length c4)).heap.size=w1.heap.size:=by simp
  obtain ⟨v2,fo⟩:∃ V,(w1.setCell ⟨wX.heap.size,0,none⟩ (.slice a4 l.length c4))=V:=⟨_,rfl⟩
  rw [fo] at kO kE kT rS rG hB hz
  rw [fo]
  have ai:=hid kO
  have aj:=hid kE
  have al:=hid kT
  have ab:=hid rS
  have ac:=hid rG
  have ak:=hid hB
  have el:=hid (Nat.le_trans ej.out (Nat.le_of_eq hz.symm))
  clear kO kE kT rS rG hB hz ap ah ae fn ba ek ei ej
  obtain ⟨bb,bc,bd,be,bf,bg,bh,bi,bj,bk,bl,bm,bn,bo,bp,bq⟩:=ai.out.all8
  obtain ⟨br,bs,bu,bv,bw,bx⟩:=aj.out.all3
  obtain ⟨bz,b3⟩:=al.out.all1
  replace ab:=hid (ab.out.wide (S':=b::T) (fun i hi=>.inl (by simp only [List.mem_cons] at hi ⊢;rcases hi with h|h <;> simp [h])))
  replace ac:=hid (ac.out.wide (S':=b::T) (fun i hi=>.inl (by simp only [List.mem_cons] at hi ⊢;rcases hi with h|h <;> simp [h])))
  have cpu:=mC (made:=true) (r:=some ⟨rb,0,none⟩) (t:=⟨#[]⟩) (m:=m) (u:=u) (ro:=ro) (o:=false) (g:=g) ai.out (fun i hi=>Nat.lt_of_lt_of_le (H.out.tlt i hi) ak.out.size) ab.out.u ⟨a4,l,c4⟩ ac.out e7.out.1 e7.out.2 (by rw [io.out];decide)
  have fc:=hid (show Calls Tryz.prog 109 #[.pointer (some ⟨b,0,none⟩),stpV a4 l.length c4] v2 _ from cpu)
  clear cpu
  go_wp2_with fail
  refine (fc.out).mono ?_;rintro e wP ⟨rfl,⟨ua,ul,uc⟩,hul,em,hsu,ha⟩
  clear hc hd hf hj hk hm hp hq ht hu hv hw h0 h5 h6 h7 h8 h9 ia ib ic ie ig ih fo bb bc bd be bf bg bh bi bj bk bl bm bn bo bp bq br bs bu bv bw bx bz b3
  have am:=hid (em)
  have an:=hid (aj.out.apart ha (by simp only [List.mem_singleton];omega))
  have ao:=hid (al.out.apart ha (by simp only [List.mem_singleton];omega))
  have ep:=hid (ab.out.apart (ha.more (by simp)))
  have eq:=hid (ac.out.apart (ha.more (by simp)))
  have er:=hid (ak.out.trans ha (by simp))
  have es:=hid (Nat.le_trans el.out ha.size)
  have aq:=hid hul
  have et:=hid (hsu)
  clear ha hul em hsu ai aj al ab ac ak el
  obtain ⟨b4,b5,b6,b7,b8,b9,cb,cc,cd,ce,cf,cg,ch,ci,cj,ck⟩:=am.out.all8
  obtain ⟨cl,cm,cn,co,cp,cq⟩:=an.out.all3
  obtain ⟨cr,ct⟩:=ao.out.all1
  have kO:Blk (wP.setCell ⟨b,5,none⟩ (.slice none 0 0)) (b) #[.bool true,.pointer (some ⟨rb,0,none⟩),.string ⟨#[]⟩,.slice m.a m.l.length m.c,.slice ua ul.length uc,.slice none 0 0,.bool false,.slice g.a g.l.length g.c] 54:=(am.out.set 5 _)
  have kE:Blk (wP.setCell ⟨b,5,none⟩ (.slice none 0 0)) (w.heap.size) #[.int .i64 x,.string eo,.string en] 87:=(an.out.other ⟨b,5,none⟩ (by show b≠w.heap.size;omega) _)
  have kT:Blk (wP.setCell ⟨b,5,none⟩ (.slice none 0 0)) (wX.heap.size) #[.slice a4 l.length c4] 69:=(ao.out.other ⟨b,5,none⟩ (by show b≠wX.heap.size;omega) _)
  have ap:Apart (b::T) wP (wP.setCell ⟨b,5,none⟩ (.slice none 0 0)):=(Apart.refl (b::T) wP).setCell (p:=⟨b,5,none⟩) (.inl (by simp)) _
  have rS:=ep.out.apart ap
  have rG:=eq.out.apart ap
  have rU:=et.out.apart ap
  have hB:=((er.out.setCell (p:=⟨b,5,none⟩) (by simp) _):Apart [b] w (wP.setCell ⟨b,5,none⟩ (.slice none 0 0)))
  have hz:(wP.setCell ⟨b,5,none⟩ (.slice none 0 0)).heap.size=wP.heap.size:=by simp
  obtain ⟨v4,eu⟩:∃ V,(wP.setCell ⟨b,5,none⟩ (.slice none 0 0))=V:=⟨_,rfl⟩
  rw [eu] at kO kE kT rS rG rU hB hz
  have af:=hid kO
  have ar:=hid kE
  have au:=hid kT
  have ev:=hid rS
  have ew:=hid rG
  have ex:=hid rU
  have av:=hid hB
  have ey:=hid (Nat.le_trans es.out (Nat.le_of_eq hz.symm))
  clear kO kE kT rS rG rU hB hz ap am an ao ep eq et er es
  obtain ⟨cu,cv,cw,cx,cy,cz,c3,c5,c6,c7,c8,c9,da,db,dc,dd⟩:=af.out.all8
  obtain ⟨de,df,dg,dh,di,dj⟩:=ar.out.all3
  obtain ⟨dk,dl⟩:=au.out.all1
  have fd:=hid (show b<v4.heap.size from af.out.lt);have fe:=hid av.out.size
  obtain ⟨ez,hwA4,kA,hbA,hzA⟩:=box1 v4 #[.int .i64 x,.string eo,.string en] 87
  have aw:=hid (af.out.onto hbA)
  have ax:=hid (ar.out.onto hbA)
  have ay:=hid (au.out.onto hbA)
  have az:=hid (ev.out.later hbA)
  have e0:=hid (ew.out.later hbA)
  have e3:=hid (ex.out.later hbA)
  have a0:=hid (av.out.trans (S':=[]) (.of_below hbA) (by simp))
  have e4:=hid (Nat.le_trans ey.out hbA.size)
  have ad:=hid kA
  have a1:v4.heap.size<ez.heap.size:=by omega
  have iw:=hid a1
  clear kA hbA hzA a1 af ar au ev ew ex av ey
  obtain ⟨dm,dn,dp,dq,dr,ds,dt,du,dv,dw,dx,dy,dz,d0,d1,d2⟩:=aw.out.all8
  obtain ⟨d3,d4,d5,d6,d7,d8⟩:=ax.out.all3
  obtain ⟨d9,ea⟩:=ay.out.all1
  obtain ⟨eb,ec,ed,ee,ef,eg⟩:=ad.out.all3
  have hbv:b≠v4.heap.size:=by have h1:=fd.out;omega
  have csh:=eR (made:=true) (r:=some ⟨rb,0,none⟩) (t:=⟨#[]⟩) (m:=m) (u:=⟨ua,ul,uc⟩) (ro:=⟨none,[],0⟩) (o:=false) (g:=g) aw.out (fun i hi=>Nat.lt_of_lt_of_le (H.out.tlt i hi) a0.out.size) az.out.m il.out im.out (some ⟨rb',0,none⟩) ⟨some ⟨v4.heap.size,0,none⟩,[⟨x,eo,en⟩],1⟩ ⟨eone ad.out ⟨ad.out.lt,by simp only [List.mem_cons,not_or];exact ⟨by omega,fun hi=>by have h1:=H.out.tlt _ hi;have h2:=fe.out;(try dsimp only at h1 h2);omega⟩⟩,fun e=>by cases e⟩ (by simp) ii.out ij.out ik.out
  have ff:=hid (show Calls Tryz.prog 133 #[.pointer (some ⟨b,0,none⟩),.pointer (some ⟨rb',0,none⟩),.slice (some ⟨v4.heap.size,0,none⟩) (1:Nat) 1] ez _ from csh)
  clear csh
  go_wp2_with fail
  refine (ff.out).mono ?_;rintro e wZ ⟨rfl,⟨ma,ml,mc⟩,a2,a3,e5,a5,ha⟩
  clear b4 b5 b6 b7 b8 b9 cb cc cd ce cf cg ch ci cj ck cl cm cn co cp cq cr ct eu cu cv cw cx cy cz c3 c5 c6 c7 c8 c9 da db dc dd de df dg dh di dj dk dl hwA4 dm dn dp dq dr ds dt du dv dw dx dy dz d0 d1 d2 d3 d4 d5 d6 d7 d8 d9 ea eb ec ed ee ef eg
  have e6:=hid (e5)
  have fg:=hid (ax.out.apart ha (by simp only [List.mem_singleton];omega))
  have fh:=hid (ay.out.apart ha (by simp only [List.mem_singleton];omega))
  have fi:=hid (ad.out.apart ha (by simp only [List.mem_singleton];omega))
  have fj:=hid (az.out.apart (ha.more (by simp)))
  have ix:=hid (e0.out.apart (ha.more (by simp)))
  have fk:=hid (e3.out.apart (ha.more (by simp)))
  have a6:=hid (a0.out.trans ha (by simp))
  have iy:=hid (Nat.le_trans e4.out ha.size)
  have ag:=hid (And.intro a2 a3)
  have fm:=hid (a5)
  clear ha a2 a3 e5 a5 aw ax ay ad az e0 e3 a0 e4
  obtain ⟨gb,gc,gd,gf,gg,gh,gi,gj,gk,gm,gn,gp,gq,gs,gt,gu⟩:=e6.out.all8
  obtain ⟨gv,gw,gx,g0,g1,g2⟩:=fg.out.all3
  obtain ⟨g3,g4⟩:=fh.out.all1
  obtain ⟨g5,g6,g7,g8,g9,hb⟩:=fi.out.all3
  go_wp2
  go_ret
  refine ⟨⟨t',⟨ma,ml,mc⟩,⟨ua,ul,uc⟩,⟨none,[],0⟩,false,g⟩,rb',p',L',rfl,⟨e6.out,HR.out.apart H.out.blk rfl a6.out,⟨fm.out,fk.out,SPo.empty _ _,fj.out.g⟩,ag.out.2.1,ag.out.2.2,?_,fun i hi=>Nat.lt_of_lt_of_le (H.out.tlt i hi) (a6.out).size⟩,?_,a6.out⟩
  ·have e:=HI.out
   rw [HE.out] at e
   have h3:ml=shfM m.l (shiftI x eo.size en.size):=ag.out.1
   have h4:lsP ul=pushL (lsP u.l) [⟨x,eo,en⟩]:=by rw [HL.out];exact aq.out
   show InvS (⟨t',ml,lsP ul,[],false,g.l⟩:StaD)
   rw [h3,h4]
   exact e
  ·have h3:ml=shfM m.l (shiftI x eo.size en.size):=ag.out.1
   have h4:lsP ul=pushL (lsP u.l) [⟨x,eo,en⟩]:=by rw [HL.out];exact aq.out
   show (⟨t',ml,lsP ul,[],false,g.l⟩:StaD)=_
   rw [h3,h4]
set_option maxRecDepth 100000 in
set_option maxHeartbeats 800000 in
theorem sI {w:World} {b:Nat} {t:ByteArray} {m:KPc} {u ro:SPc} {g:EPc} {rb:Nat} {p:Option Addr} {L:List ByteArray} (h:IsEd T w b ⟨t,m,u,ro,true,g⟩ rb p L) (k i n:Int) (x:ByteArray):Calls Tryz.prog 66 #[.pointer (some ⟨b,0,none⟩),(.agg #[.int .i64 k,.int .i64 i,.int .i64 n,.string x])] w (RetEd T w b ((Sta.d ⟨t,m,u,ro,true,g⟩),11)):=by
 have hbl:b<w.heap.size:=h.lt
 obtain ⟨wX,hwX,kE,aa,hz⟩:=box1 w #[.int .i64 k,.int .i64 i,.int .i64 n,.string x] 36
 have ad:=hid (show Blk wX b #[.bool true,.pointer (some ⟨rb,0,none⟩),.string ⟨#[]⟩,.slice m.a m.l.length m.c,.slice u.a u.l.length u.c,.slice ro.a ro.l.length ro.c,.bool true,.slice g.a g.l.length g.c] 54 from h.blk.onto aa)
 have ae:=hid (kE)
 have af:=hid ((h.rows.wide (S':=b::w.heap.size::T) (wide2 (Nat.le_refl _))).later aa)
 have ab:=hid ((Apart.of_below aa:Apart [b] w wX))
 have a7:=hid (Nat.le_refl wX.heap.size)
 have ac:∀ W:World,wX.heap.size≤W.heap.size→∀ i∈b::w.heap.size::T,i<W.heap.size:=fun W hWz i hi=>by simp only [List.mem_cons] at hi;rcases hi with rfl|rfl|hi;all_goals first|omega|(have:=h.tlt i hi;omega)
 have a8:=hid ac;have H:=hid h;have HB:=hid aa
 clear ac kE
 obtain ⟨ag,ah,ai,aj,ak,al,am,an,ao,aq,ar,au,av,aw,ax,ay⟩:=ad.out.all8
 obtain ⟨az,a0,a1,a2,a3,a4,a5,a6⟩:=ae.out.all4
 clear h aa hz
 go_enter Tryz.func66,Tryz.ntmps66
 go_wp2
 go_ret
 exact ⟨⟨t,m,u,ro,true,g⟩,rb,p,L,rfl,⟨ad.out,H.out.rope.apart H.out.blk rfl ab.out,af.out.wide (fun i hi=>.inl (by simp only [List.mem_cons] at hi ⊢;rcases hi with h|h <;> simp [h])),H.out.ml,H.out.mc,H.out.inv,fun i hi=>Nat.lt_of_lt_of_le (H.out.tlt i hi) (ab.out).size⟩,rfl,ab.out⟩
set_option maxRecDepth 100000 in
set_option maxHeartbeats 800000 in
theorem pT {w:World} {b:Nat} {t:ByteArray} {m:KPc} {u ro:SPc} {g:EPc} {rb:Nat} {p:Option Addr} {L:List ByteArray} (h:IsEd T w b ⟨t,m,u,ro,false,g⟩ rb p L) (k i n:Int) (x:ByteArray):Calls Tryz.prog 66 #[.pointer (some ⟨b,0,none⟩),(.agg #[.int .i64 k,.int .i64 i,.int .i64 n,.string x])] w (RetEd T w b (⟨t,m.l,lsP u.l,lsP ro.l,true,g.l⟩,0)):=by
 have hbl:b<w.heap.size:=h.lt
 obtain ⟨wX,hwX,kE,ab,hz⟩:=box1 w #[.int .i64 k,.int .i64 i,.int .i64 n,.string x] 36
 have ac:=hid (show Blk wX b #[.bool true,.pointer (some ⟨rb,0,none⟩),.string ⟨#[]⟩,.slice m.a m.l.length m.c,.slice u.a u.l.length u.c,.slice ro.a ro.l.length ro.c,.bool false,.slice g.a g.l.length g.c] 54 from h.blk.onto ab)
 have ad:=hid (kE)
 have ag:=hid ((h.rows.wide (S':=b::w.heap.size::T) (wide2 (Nat.le_refl _))).later ab)
 have ah:=hid ((Apart.of_below ab:Apart [b] w wX))
 have ai:=hid (Nat.le_refl wX.heap.size)
 have ae:∀ W:World,wX.heap.size≤W.heap.size→∀ i∈b::w.heap.size::T,i<W.heap.size:=fun W hWz i hi=>by simp only [List.mem_cons] at hi;rcases hi with rfl|rfl|hi;all_goals first|omega|(have:=h.tlt i hi;omega)
 have b6:=hid ae;have H:=hid h;have HB:=hid ab
 clear ae kE
 obtain ⟨am,an,ao,aq,ar,au,av,aw,ax,ay,az,a0,a1,a2,a3,a4⟩:=ac.out.all8
 obtain ⟨a5,a6,a7,a8,a9,ba,bb,bc⟩:=ad.out.all4
 clear h ab hz
 go_enter Tryz.func66,Tryz.ntmps66
 have kO:Blk (wX.setCell ⟨b,6,none⟩ (.bool true)) (b) #[.bool true,.pointer (some ⟨rb,0,none⟩),.string ⟨#[]⟩,.slice m.a m.l.length m.c,.slice u.a u.l.length u.c,.slice ro.a ro.l.length ro.c,.bool true,.slice g.a g.l.length g.c] 54:=(ac.out.set 6 _)
 have kE:Blk (wX.setCell ⟨b,6,none⟩ (.bool true)) (w.heap.size) #[.int .i64 k,.int .i64 i,.int .i64 n,.string x] 36:=(ad.out.other ⟨b,6,none⟩ (by show b≠w.heap.size;omega) _)
 have ap:Apart (b::w.heap.size::T) wX (wX.setCell ⟨b,6,none⟩ (.bool true)):=(Apart.refl (b::w.heap.size::T) wX).setCell (p:=⟨b,6,none⟩) (.inl (by simp)) _
 have rS:=ag.out.apart ap
 have hB:=((ah.out.setCell (p:=⟨b,6,none⟩) (by simp) _):Apart [b] w (wX.setCell ⟨b,6,none⟩ (.bool true)))
 have hz:(wX.setCell ⟨b,6,none⟩ (.bool true)).heap.size=wX.heap.size:=by simp
 obtain ⟨v1,ak⟩:∃ V,(wX.setCell ⟨b,6,none⟩ (.bool true))=V:=⟨_,rfl⟩
 rw [ak] at kO kE rS hB hz
 have aj:=hid kO
 have al:=hid kE
 have aa:=hid rS
 have af:=hid hB
 have b7:=hid (Nat.le_trans ai.out (Nat.le_of_eq hz.symm))
 clear kO kE rS hB hz ap ac ad ag ah ai
 obtain ⟨bd,be,bf,bg,bh,bi,bj,bk,bl,bm,bn,bo,bp,bq,br,bs⟩:=aj.out.all8
 obtain ⟨bu,bv,bw,bx,bz,b3,b4,b5⟩:=al.out.all4
 replace aa:=hid (aa.out.wide (S':=b::T) (fun i hi=>.inl (by simp only [List.mem_cons] at hi ⊢;rcases hi with h|h <;> simp [h])))
 go_wp2
 go_ret
 exact ⟨⟨t,m,u,ro,true,g⟩,rb,p,L,rfl,⟨aj.out,H.out.rope.apart H.out.blk rfl af.out,⟨aa.out.m,aa.out.u,aa.out.r,aa.out.g⟩,H.out.ml,H.out.mc,(by have e:=yP H.out.inv;exact e),fun i hi=>Nat.lt_of_lt_of_le (H.out.tlt i hi) (af.out).size⟩,rfl,af.out⟩
set_option maxRecDepth 100000 in
set_option maxHeartbeats 800000 in
theorem zE {w:World} {b:Nat} {t:ByteArray} {m:KPc} {u ro:SPc} {g:EPc} {rb:Nat} {p:Option Addr} {L:List ByteArray} (h:IsEd T w b ⟨t,m,u,ro,false,g⟩ rb p L) (k i n:Int) (x:ByteArray):Calls Tryz.prog 67 #[.pointer (some ⟨b,0,none⟩),(.agg #[.int .i64 k,.int .i64 i,.int .i64 n,.string x])] w (RetEd T w b ((Sta.d ⟨t,m,u,ro,false,g⟩),11)):=by
 have hbl:b<w.heap.size:=h.lt
 obtain ⟨wX,hwX,kE,aa,hz⟩:=box1 w #[.int .i64 k,.int .i64 i,.int .i64 n,.string x] 36
 have ad:=hid (show Blk wX b #[.bool true,.pointer (some ⟨rb,0,none⟩),.string ⟨#[]⟩,.slice m.a m.l.length m.c,.slice u.a u.l.length u.c,.slice ro.a ro.l.length ro.c,.bool false,.slice g.a g.l.length g.c] 54 from h.blk.onto aa)
 have ae:=hid (kE)
 have af:=hid ((h.rows.wide (S':=b::w.heap.size::T) (wide2 (Nat.le_refl _))).later aa)
 have ab:=hid ((Apart.of_below aa:Apart [b] w wX))
 have a7:=hid (Nat.le_refl wX.heap.size)
 have ac:∀ W:World,wX.heap.size≤W.heap.size→∀ i∈b::w.heap.size::T,i<W.heap.size:=fun W hWz i hi=>by simp only [List.mem_cons] at hi;rcases hi with rfl|rfl|hi;all_goals first|omega|(have:=h.tlt i hi;omega)
 have a8:=hid ac;have H:=hid h;have HB:=hid aa
 clear ac kE
 obtain ⟨ag,ah,ai,aj,ak,al,am,an,ao,aq,ar,au,av,aw,ax,ay⟩:=ad.out.all8
 obtain ⟨az,a0,a1,a2,a3,a4,a5,a6⟩:=ae.out.all4
 clear h aa hz
 go_enter Tryz.func67,Tryz.ntmps67
 go_wp2
 go_ret
 exact ⟨⟨t,m,u,ro,false,g⟩,rb,p,L,rfl,⟨ad.out,H.out.rope.apart H.out.blk rfl ab.out,af.out.wide (fun i hi=>.inl (by simp only [List.mem_cons] at hi ⊢;rcases hi with h|h <;> simp [h])),H.out.ml,H.out.mc,H.out.inv,fun i hi=>Nat.lt_of_lt_of_le (H.out.tlt i hi) (ab.out).size⟩,rfl,ab.out⟩
set_option maxRecDepth 100000 in
set_option maxHeartbeats 1600000 in
theorem sQ {w:World} {b:Nat} {t:ByteArray} {m:KPc} {u ro:SPc} {g:EPc} {rb:Nat} {p:Option Addr} {L:List ByteArray} (h:IsEd T w b ⟨t,m,u,ro,true,g⟩ rb p L) (k i n:Int) (x:ByteArray) (hg0:g.l.length=0):Calls Tryz.prog 67 #[.pointer (some ⟨b,0,none⟩),(.agg #[.int .i64 k,.int .i64 i,.int .i64 n,.string x])] w (RetEd T w b (⟨t,m.l,lsP u.l,lsP ro.l,false,[]⟩,0)):=by
 have hbl:b<w.heap.size:=h.lt
 have he:endD (Sta.d ⟨t,m,u,ro,true,g⟩)=(⟨t,m.l,lsP u.l,lsP ro.l,false,[]⟩,0):=by unfold endD;rw [if_neg (fun h=>by cases h),show (Sta.d ⟨t,m,u,ro,true,g⟩).g.length=0 from hg0,if_pos rfl];rfl
 have HE:=hid he
 clear he
 obtain ⟨wX,hwX,kE,aa,hz⟩:=box1 w #[.int .i64 k,.int .i64 i,.int .i64 n,.string x] 36
 have ac:=hid (show Blk wX b #[.bool true,.pointer (some ⟨rb,0,none⟩),.string ⟨#[]⟩,.slice m.a m.l.length m.c,.slice u.a u.l.length u.c,.slice ro.a ro.l.length ro.c,.bool true,.slice g.a g.l.length g.c] 54 from h.blk.onto aa)
 have ad:=hid (kE)
 have ab:=hid ((h.rows.wide (S':=b::w.heap.size::T) (wide2 (Nat.le_refl _))).later aa)
 have aj:=hid ((Apart.of_below aa:Apart [b] w wX))
 have ak:=hid (Nat.le_refl wX.heap.size)
 have ae:∀ W:World,wX.heap.size≤W.heap.size→∀ i∈b::w.heap.size::T,i<W.heap.size:=fun W hWz i hi=>by simp only [List.mem_cons] at hi;rcases hi with rfl|rfl|hi;all_goals first|omega|(have:=h.tlt i hi;omega)
 have c4:=hid ae;have H:=hid h;have HB:=hid aa
 clear ae kE
 obtain ⟨av,aw,ax,ay,az,a0,a1,a2,a3,a4,a5,a6,a7,a8,a9,ba⟩:=ac.out.all8
 obtain ⟨bb,bc,bd,be,bf,bg,bh,bi⟩:=ad.out.all4
 have g0:g.l.length=0:=hg0
 clear h aa hz
 go_enter Tryz.func67,Tryz.ntmps67
 replace ab:=hid (ab.out.wide (S':=b::T) (fun i hi=>.inl (by simp only [List.mem_cons] at hi ⊢;rcases hi with h|h <;> simp [h])))
 have kO:Blk (wX.setCell ⟨b,6,none⟩ (.bool false)) (b) #[.bool true,.pointer (some ⟨rb,0,none⟩),.string ⟨#[]⟩,.slice m.a m.l.length m.c,.slice u.a u.l.length u.c,.slice ro.a ro.l.length ro.c,.bool false,.slice g.a g.l.length g.c] 54:=(ac.out.set 6 _)
 have kE:Blk (wX.setCell ⟨b,6,none⟩ (.bool false)) (w.heap.size) #[.int .i64 k,.int .i64 i,.int .i64 n,.string x] 36:=(ad.out.other ⟨b,6,none⟩ (by show b≠w.heap.size;omega) _)
 have ap:Apart (b::T) wX (wX.setCell ⟨b,6,none⟩ (.bool false)):=(Apart.refl (b::T) wX).setCell (p:=⟨b,6,none⟩) (.inl (by simp)) _
 have rS:=ab.out.apart ap
 have hB:=((aj.out.setCell (p:=⟨b,6,none⟩) (by simp) _):Apart [b] w (wX.setCell ⟨b,6,none⟩ (.bool false)))
 have hz:(wX.setCell ⟨b,6,none⟩ (.bool false)).heap.size=wX.heap.size:=by simp
 obtain ⟨v1,aq⟩:∃ V,(wX.setCell ⟨b,6,none⟩ (.bool false))=V:=⟨_,rfl⟩
 rw [aq] at kO kE rS hB hz
 have af:=hid kO
 have ag:=hid kE
 have al:=hid rS
 have am:=hid hB
 have an:=hid (Nat.le_trans ak.out (Nat.le_of_eq hz.symm))
 clear kO kE rS hB hz ap ac ad ab aj ak
 obtain ⟨bj,bk,bl,bm,bn,bo,bp,bq,br,bs,bu,bv,bw,bx,bz,b3⟩:=af.out.all8
 obtain ⟨b4,b5,b6,b7,b8,b9,ca,cb⟩:=ag.out.all4
 have kO:Blk (v1.setCell ⟨b,7,none⟩ (.slice none 0 0)) (b) #[.bool true,.pointer (some ⟨rb,0,none⟩),.string ⟨#[]⟩,.slice m.a m.l.length m.c,.slice u.a u.l.length u.c,.slice ro.a ro.l.length ro.c,.bool false,.slice none 0 0] 54:=(af.out.set 7 _)
 have kE:Blk (v1.setCell ⟨b,7,none⟩ (.slice none 0 0)) (w.heap.size) #[.int .i64 k,.int .i64 i,.int .i64 n,.string x] 36:=(ag.out.other ⟨b,7,none⟩ (by show b≠w.heap.size;omega) _)
 have ap:Apart (b::T) v1 (v1.setCell ⟨b,7,none⟩ (.slice none 0 0)):=(Apart.refl (b::T) v1).setCell (p:=⟨b,7,none⟩) (.inl (by simp)) _
 have rS:=al.out.apart ap
 have hB:=((am.out.setCell (p:=⟨b,7,none⟩) (by simp) _):Apart [b] w (v1.setCell ⟨b,7,none⟩ (.slice none 0 0)))
 have hz:(v1.setCell ⟨b,7,none⟩ (.slice none 0 0)).heap.size=v1.heap.size:=by simp
 obtain ⟨v2,ar⟩:∃ V,(v1.setCell ⟨b,7,none⟩ (.slice none 0 0))=V:=⟨_,rfl⟩
 rw [ar] at kO kE rS hB hz
 have ao:=hid kO
 have au:=hid kE
 have ah:=hid rS
 have ai:=hid hB
 have c5:=hid (Nat.le_trans an.out (Nat.le_of_eq hz.symm))
 clear kO kE rS hB hz ap af ag al am an
 obtain ⟨cc,cd,ce,cf,cg,ch,ci,cj,ck,cl,cm,cn,co,cp,cq,cr⟩:=ao.out.all8
 obtain ⟨ct,cu,cv,cw,cx,cy,cz,c3⟩:=au.out.all4
 go_wp2
 go_ret
 have hie:=tK H.out.inv
 rw [HE.out] at hie
 exact ⟨⟨t,m,u,ro,false,⟨none,[],0⟩⟩,rb,p,L,rfl,⟨ao.out,H.out.rope.apart H.out.blk rfl ai.out,⟨ah.out.m,ah.out.u,ah.out.r,EPo.empty _ _⟩,H.out.ml,H.out.mc,hie,fun i hi=>Nat.lt_of_lt_of_le (H.out.tlt i hi) (ai.out).size⟩,rfl,ai.out⟩
set_option maxRecDepth 100000 in
set_option maxHeartbeats 1600000 in
theorem rO {w:World} {b:Nat} {t:ByteArray} {m:KPc} {u ro:SPc} {g:EPc} {rb:Nat} {p:Option Addr} {L:List ByteArray} (h:IsEd T w b ⟨t,m,u,ro,true,g⟩ rb p L) (k i n:Int) (x:ByteArray) (hg0:¬ g.l.length=0):Calls Tryz.prog 67 #[.pointer (some ⟨b,0,none⟩),(.agg #[.int .i64 k,.int .i64 i,.int .i64 n,.string x])] w (RetEd T w b (⟨t,m.l,pushL (lsP u.l) g.l,lsP ro.l,false,[]⟩,0)):=by
 have hbl:b<w.heap.size:=h.lt
 have he:endD (Sta.d ⟨t,m,u,ro,true,g⟩)=(⟨t,m.l,pushL (lsP u.l) g.l,lsP ro.l,false,[]⟩,0):=by unfold endD;rw [if_neg (fun h=>by cases h),if_neg (show ¬ (Sta.d ⟨t,m,u,ro,true,g⟩).g.length=0 from hg0)];rfl
 have HE:=hid he
 have hul:u.l.length≤900∧∀ y∈u.l,y.l.length≤1000000:=by
  have h1:=h.inv.ul
  have h2:(lsP u.l).length≤16:=h1.1
  rw [aA] at h2
  exact ⟨by omega,cQ fun y hy=>Nat.le_trans (h1.2 y hy).2 (by decide)⟩
 have hgl:g.l.length≤1000000:=Nat.le_trans h.inv.gl (by decide)
 have bc:=hid hul;have bq:=hid hgl
 clear he hul hgl
 obtain ⟨wX,hwX,kE,ab,hz⟩:=box1 w #[.int .i64 k,.int .i64 i,.int .i64 n,.string x] 36
 have ac:=hid (show Blk wX b #[.bool true,.pointer (some ⟨rb,0,none⟩),.string ⟨#[]⟩,.slice m.a m.l.length m.c,.slice u.a u.l.length u.c,.slice ro.a ro.l.length ro.c,.bool true,.slice g.a g.l.length g.c] 54 from h.blk.onto ab)
 have ad:=hid (kE)
 have aa:=hid ((h.rows.wide (S':=b::w.heap.size::T) (wide2 (Nat.le_refl _))).later ab)
 have ae:=hid ((Apart.of_below ab:Apart [b] w wX))
 have bd:=hid (Nat.le_refl wX.heap.size)
 have af:∀ W:World,wX.heap.size≤W.heap.size→∀ i∈b::w.heap.size::T,i<W.heap.size:=fun W hWz i hi=>by simp only [List.mem_cons] at hi;rcases hi with rfl|rfl|hi;all_goals first|omega|(have:=h.tlt i hi;omega)
 have d6:=hid af;have H:=hid h;have HB:=hid ab
 clear af kE
 obtain ⟨al,am,an,ao,aq,ar,au,av,aw,ax,ay,az,a0,a1,a2,a3⟩:=ac.out.all8
 obtain ⟨a4,a5,a6,a7,a8,a9,ba,bb⟩:=ad.out.all4
 have g0:¬ g.l.length=0:=hg0
 have g1:(0:Int)<(g.l.length:Int):=by omega
 have cpu:=fun W (hk:Blk W b (edC true (some ⟨rb,0,none⟩) ⟨#[]⟩ m u ro true g) 54) (hT:InS T W) (hu:SPo (b::T) W u) (hg:EPo (b::T) W g)=>mC hk hT hu g hg bc.out.1 bc.out.2 bq.out
 have br:=hid cpu
 clear h ab hz cpu
 go_enter Tryz.func67,Tryz.ntmps67
 replace aa:=hid (aa.out.wide (S':=b::T) (fun i hi=>.inl (by simp only [List.mem_cons] at hi ⊢;rcases hi with h|h <;> simp [h])))
 go_wp2_with fail
 refine (br.out _ ac.out (fun i hi=>Nat.lt_of_lt_of_le (H.out.tlt i hi) ae.out.size) aa.out.u aa.out.g).mono ?_;rintro e wP ⟨rfl,⟨ua,ul,uc⟩,hul,be,hsu,ha⟩
 clear al am an ao aq ar au av aw ax ay az a0 a1 a2 a3 a4 a5 a6 a7 a8 a9 ba bb
 have ag:=hid (be)
 have ah:=hid (ad.out.apart ha (by simp only [List.mem_singleton];omega))
 have bf:=hid (aa.out.apart (ha.more (by simp)))
 have bg:=hid (ae.out.trans ha (by simp))
 have bh:=hid (Nat.le_trans bd.out ha.size)
 have bp:=hid hul
 have bi:=hid (hsu)
 clear ha hul be hsu hwX ac ad aa ae bd
 obtain ⟨bx,bz,b3,b4,b5,b6,b7,b8,b9,ca,cb,cc,cd,ce,cf,cg⟩:=ag.out.all8
 obtain ⟨ch,ci,cj,ck,cl,cm,cn,co⟩:=ah.out.all4
 have kO:Blk (wP.setCell ⟨b,6,none⟩ (.bool false)) (b) #[.bool true,.pointer (some ⟨rb,0,none⟩),.string ⟨#[]⟩,.slice m.a m.l.length m.c,.slice ua ul.length uc,.slice ro.a ro.l.length ro.c,.bool false,.slice g.a g.l.length g.c] 54:=(ag.out.set 6 _)
 have kE:Blk (wP.setCell ⟨b,6,none⟩ (.bool false)) (w.heap.size) #[.int .i64 k,.int .i64 i,.int .i64 n,.string x] 36:=(ah.out.other ⟨b,6,none⟩ (by show b≠w.heap.size;omega) _)
 have ap:Apart (b::T) wP (wP.setCell ⟨b,6,none⟩ (.bool false)):=(Apart.refl (b::T) wP).setCell (p:=⟨b,6,none⟩) (.inl (by simp)) _
 have rS:=bf.out.apart ap
 have rU:=bi.out.apart ap
 have hB:=((bg.out.setCell (p:=⟨b,6,none⟩) (by simp) _):Apart [b] w (wP.setCell ⟨b,6,none⟩ (.bool false)))
 have hz:(wP.setCell ⟨b,6,none⟩ (.bool false)).heap.size=wP.heap.size:=by simp
 obtain ⟨v2,bs⟩:∃ V,(wP.setCell ⟨b,6,none⟩ (.bool false))=V:=⟨_,rfl⟩
 rw [bs] at kO kE rS rU hB hz
 have ai:=hid kO
 have aj:=hid kE
 have bj:=hid rS
 have bk:=hid rU
 have bl:=hid hB
 have bm:=hid (Nat.le_trans bh.out (Nat.le_of_eq hz.symm))
 clear kO kE rS rU hB hz ap ag ah bf bi bg bh
 obtain ⟨cp,cq,cr,ct,cu,cv,cw,cx,cy,cz,c3,c4,c5,c6,c7,c8⟩:=ai.out.all8
 obtain ⟨c9,da,db,dc,dd,de,df,dg⟩:=aj.out.all4
 have kO:Blk (v2.setCell ⟨b,7,none⟩ (.slice none 0 0)) (b) #[.bool true,.pointer (some ⟨rb,0,none⟩),.string ⟨#[]⟩,.slice m.a m.l.length m.c,.slice ua ul.length uc,.slice ro.a ro.l.length ro.c,.bool false,.slice none 0 0] 54:=(ai.out.set 7 _)
 have kE:Blk (v2.setCell ⟨b,7,none⟩ (.slice none 0 0)) (w.heap.size) #[.int .i64 k,.int .i64 i,.int .i64 n,.string x] 36:=(aj.out.other ⟨b,7,none⟩ (by show b≠w.heap.size;omega) _)
 have ap:Apart (b::T) v2 (v2.setCell ⟨b,7,none⟩ (.slice none 0 0)):=(Apart.refl (b::T) v2).setCell (p:=⟨b,7,none⟩) (.inl (by simp)) _
 have rS:=bj.out.apart ap
 have rU:=bk.out.apart ap
 have hB:=((bl.out.setCell (p:=⟨b,7,none⟩) (by simp) _):Apart [b] w (v2.setCell ⟨b,7,none⟩ (.slice none 0 0)))
 have hz:(v2.setCell ⟨b,7,none⟩ (.slice none 0 0)).heap.size=v2.heap.size:=by simp
 obtain ⟨v3,bu⟩:∃ V,(v2.setCell ⟨b,7,none⟩ (.slice none 0 0))=V:=⟨_,rfl⟩
 rw [bu] at kO kE rS rU hB hz
 have bn:=hid kO
 have bv:=hid kE
 have bo:=hid rS
 have bw:=hid rU
 have ak:=hid hB
 have d7:=hid (Nat.le_trans bm.out (Nat.le_of_eq hz.symm))
 clear kO kE rS rU hB hz ap ai aj bj bk bl bm
 obtain ⟨dh,di,dj,dk,dl,dm,dn,dp,dq,dr,ds,dt,du,dv,dw,dx⟩:=bn.out.all8
 obtain ⟨dy,dz,d0,d1,d2,d3,d4,d5⟩:=bv.out.all4
 go_wp2
 go_ret
 have hie:=tK H.out.inv
 rw [HE.out] at hie
 have h4:lsP ul=pushL (lsP u.l) g.l:=bp.out
 exact ⟨⟨t,m,⟨ua,ul,uc⟩,ro,false,⟨none,[],0⟩⟩,rb,p,L,rfl,⟨bn.out,H.out.rope.apart H.out.blk rfl ak.out,⟨bo.out.m,bw.out,bo.out.r,EPo.empty _ _⟩,H.out.ml,H.out.mc,(by show InvS ⟨t,m.l,lsP ul,lsP ro.l,false,[]⟩;rw [h4];exact hie),fun i hi=>Nat.lt_of_lt_of_le (H.out.tlt i hi) (ak.out).size⟩,(by show (⟨t,m.l,lsP ul,lsP ro.l,false,[]⟩:StaD)=_;rw [h4]),ak.out⟩
set_option maxRecDepth 100000 in
set_option maxHeartbeats 1600000 in
theorem oZ {w:World} {b:Nat} {t:ByteArray} {m:KPc} {u ro:SPc} {so:Bool} {g:EPc} {rb:Nat} {p:Option Addr} {L:List ByteArray} (h:IsEd T w b ⟨t,m,u,ro,so,g⟩ rb p L) (k i n:Int) (x:ByteArray) (hx:x.size≤maxLen) (h1:markB x.data.toList=false):Calls Tryz.prog 62 #[.pointer (some ⟨b,0,none⟩),(.agg #[.int .i64 k,.int .i64 i,.int .i64 n,.string x])] w (RetEd T w b ((Sta.d ⟨t,m,u,ro,so,g⟩),7)):=by
 have hbl:b<w.heap.size:=h.lt
 obtain ⟨wX,hwX,kE,aa,hz⟩:=box1 w #[.int .i64 k,.int .i64 i,.int .i64 n,.string x] 36
 have ad:=hid (show Blk wX b #[.bool true,.pointer (some ⟨rb,0,none⟩),.string ⟨#[]⟩,.slice m.a m.l.length m.c,.slice u.a u.l.length u.c,.slice ro.a ro.l.length ro.c,.bool so,.slice g.a g.l.length g.c] 54 from h.blk.onto aa)
 have ae:=hid (kE)
 have af:=hid ((h.rows.wide (S':=b::w.heap.size::T) (wide2 (Nat.le_refl _))).later aa)
 have ab:=hid ((Apart.of_below aa:Apart [b] w wX))
 have a7:=hid (Nat.le_refl wX.heap.size)
 have ac:∀ W:World,wX.heap.size≤W.heap.size→∀ i∈b::w.heap.size::T,i<W.heap.size:=fun W hWz i hi=>by simp only [List.mem_cons] at hi;rcases hi with rfl|rfl|hi;all_goals first|omega|(have:=h.tlt i hi;omega)
 have a8:=hid ac;have H:=hid h;have HB:=hid aa
 clear ac kE
 obtain ⟨ag,ah,ai,aj,ak,al,am,an,ao,aq,ar,au,av,aw,ax,ay⟩:=ad.out.all8
 obtain ⟨az,a0,a1,a2,a3,a4,a5,a6⟩:=ae.out.all4
 have c1:=bA x hx
 rw [h1] at c1
 have C1:=hid c1
 clear h aa hz c1 h1
 go_enter Tryz.func62,Tryz.ntmps62
 go_wp2_with fail
 refine (C1.out _).mono ?_;rintro e w1 ⟨rfl,rfl⟩
 go_wp2
 go_ret
 exact ⟨⟨t,m,u,ro,so,g⟩,rb,p,L,rfl,⟨ad.out,H.out.rope.apart H.out.blk rfl ab.out,af.out.wide (fun i hi=>.inl (by simp only [List.mem_cons] at hi ⊢;rcases hi with h|h <;> simp [h])),H.out.ml,H.out.mc,H.out.inv,fun i hi=>Nat.lt_of_lt_of_le (H.out.tlt i hi) (ab.out).size⟩,rfl,ab.out⟩
set_option maxRecDepth 100000 in
set_option maxHeartbeats 1600000 in
theorem oD {w:World} {b:Nat} {t:ByteArray} {m:KPc} {u ro:SPc} {so:Bool} {g:EPc} {rb:Nat} {p:Option Addr} {L:List ByteArray} (h:IsEd T w b ⟨t,m,u,ro,so,g⟩ rb p L) (k i n:Int) (x:ByteArray) (hx:x.size≤maxLen) (h1:markB x.data.toList=true) (h2:i<0):Calls Tryz.prog 62 #[.pointer (some ⟨b,0,none⟩),(.agg #[.int .i64 k,.int .i64 i,.int .i64 n,.string x])] w (RetEd T w b ((Sta.d ⟨t,m,u,ro,so,g⟩),3)):=by
 have hbl:b<w.heap.size:=h.lt
 obtain ⟨wX,hwX,kE,aa,hz⟩:=box1 w #[.int .i64 k,.int .i64 i,.int .i64 n,.string x] 36
 have ac:=hid (show Blk wX b #[.bool true,.pointer (some ⟨rb,0,none⟩),.string ⟨#[]⟩,.slice m.a m.l.length m.c,.slice u.a u.l.length u.c,.slice ro.a ro.l.length ro.c,.bool so,.slice g.a g.l.length g.c] 54 from h.blk.onto aa)
 have ab:=hid (kE)
 have a6:=hid ((h.rows.wide (S':=b::w.heap.size::T) (wide2 (Nat.le_refl _))).later aa)
 have ad:=hid ((Apart.of_below aa:Apart [b] w wX))
 have a7:=hid (Nat.le_refl wX.heap.size)
 have ae:∀ W:World,wX.heap.size≤W.heap.size→∀ i∈b::w.heap.size::T,i<W.heap.size:=fun W hWz i hi=>by simp only [List.mem_cons] at hi;rcases hi with rfl|rfl|hi;all_goals first|omega|(have:=h.tlt i hi;omega)
 have a8:=hid ae;have H:=hid h;have HB:=hid aa
 clear ae kE
 obtain ⟨af,ag,ah,ai,aj,ak,al,am,an,ao,aq,ar,au,av,aw,ax⟩:=ac.out.all8
 obtain ⟨ay,az,a0,a1,a2,a3,a4,a5⟩:=ab.out.all4
 have c1:=bA x hx
 rw [h1] at c1
 have C1:=hid c1
 clear c1 h1
 have hfs:∀ W,Below wX.heap.size wX W→(W.cell? ⟨b,1,none⟩=some (.pointer (some ⟨rb,0,none⟩))∧W.cell? ⟨b,3,none⟩=some (.slice m.a m.l.length m.c))∧W.cell? ⟨w.heap.size,0,none⟩=some (.int .i64 k)∧W.cell? ⟨w.heap.size,1,none⟩=some (.int .i64 i)∧W.cell? ⟨w.heap.size,2,none⟩=some (.int .i64 n)∧W.cell? ⟨w.heap.size,3,none⟩=some (.string x):=fun W h=>⟨⟨(ac.out.onto h).cell 1 _ rfl,(ac.out.onto h).cell 3 _ rfl⟩,(ab.out.onto h).cell 0 _ rfl,(ab.out.onto h).cell 1 _ rfl,(ab.out.onto h).cell 2 _ rfl,(ab.out.onto h).cell 3 _ rfl⟩
 have FS:=hid hfs
 clear hfs
 have d2:decide (i<0)=true:=decide_eq_true h2
 clear h aa hz
 go_enter Tryz.func62,Tryz.ntmps62
 go_wp2_with fail
 refine (C1.out _).mono ?_;rintro e w1 ⟨rfl,rfl⟩
 clear hwX
 go_wp2_with fail
 clear af ag ah ai aj ak al am an ao aq ar au av aw ax ay az a0 a1 a2 a3 a4 a5
 refine wp_region_held_drew (S:=(fun W:World=>(W.cell? ⟨b,1,none⟩=some (.pointer (some ⟨rb,0,none⟩))∧W.cell? ⟨b,3,none⟩=some (.slice m.a m.l.length m.c))∧W.cell? ⟨w.heap.size,0,none⟩=some (.int .i64 k)∧W.cell? ⟨w.heap.size,1,none⟩=some (.int .i64 i)∧W.cell? ⟨w.heap.size,2,none⟩=some (.int .i64 n)∧W.cell? ⟨w.heap.size,3,none⟩=some (.string x))) (by kernel_rfl) (FS.out _ (Below.refl _ _).drew) (fun hHeld=>?_)
 refine sqt 0 ?_
 refine sqt 1 ?_
 refine sqt 2 ?_
 refine sqt 3 ?_
 refine wpAnyH_take (i:=4) (v:=undef) (by simp only [sqg];rfl) (by kernel_rfl) (by kernel_rfl) (by kernel_rfl) (fun _ _ _ h=>by exact h) (Or.inr ⟨by rfl,rfl⟩) (by assumption) ?_
 try simp only [Act.put,sqp]
 refine wpAnyH_take (i:=5) (v:=undef) (by simp only [sqg];rfl) (by kernel_rfl) (by kernel_rfl) (by kernel_rfl) (fun _ _ _ h=>by exact h) (Or.inr ⟨by rfl,rfl⟩) (by assumption) ?_
 try simp only [Act.put,sqp]
 refine wpAnyH_take (i:=6) (v:=undef) (by simp only [sqg];rfl) (by kernel_rfl) (by kernel_rfl) (by kernel_rfl) (fun _ _ _ h=>by exact h) (Or.inr ⟨by rfl,rfl⟩) (by assumption) ?_
 try simp only [Act.put,sqp]
 refine wpAnyH_take (i:=7) (v:=undef) (by simp only [sqg];rfl) (by kernel_rfl) (by kernel_rfl) (by kernel_rfl) (fun _ _ _ h=>by exact h) (Or.inr ⟨by rfl,rfl⟩) (by assumption) ?_
 try simp only [Act.put,sqp]
 refine wpAnyH_take (i:=8) (v:=undef) (by simp only [sqg];rfl) (by kernel_rfl) (by kernel_rfl) (by kernel_rfl) (fun _ _ _ h=>by exact h) (Or.inr ⟨by rfl,rfl⟩) (by assumption) ?_
 try simp only [Act.put,sqp]
 refine sqt 9 ?_
 refine sqt 10 ?_
 refine wpAnyH_done (by kernel_rfl) ?_ _
 go_wp2
 go_ret
 exact ⟨⟨t,m,u,ro,so,g⟩,rb,p,L,rfl,⟨(ac.out.drewN 1),H.out.rope.apart H.out.blk rfl (ad.out.drewN 1),(a6.out.later (Below.refl _ _).drew).wide (fun i hi=>.inl (by simp only [List.mem_cons] at hi ⊢;rcases hi with h|h <;> simp [h])),H.out.ml,H.out.mc,H.out.inv,fun i hi=>Nat.lt_of_lt_of_le (H.out.tlt i hi) ((ad.out.drewN 1)).size⟩,rfl,(ad.out.drewN 1)⟩
set_option maxRecDepth 100000 in
set_option maxHeartbeats 1600000 in
theorem lY {w:World} {b:Nat} {t:ByteArray} {m:KPc} {u ro:SPc} {so:Bool} {g:EPc} {rb:Nat} {p:Option Addr} {L:List ByteArray} (h:IsEd T w b ⟨t,m,u,ro,so,g⟩ rb p L) (k i n:Int) (x:ByteArray) (hx:x.size≤maxLen) (h1:markB x.data.toList=true) (h2:(t.size:Int)<i):Calls Tryz.prog 62 #[.pointer (some ⟨b,0,none⟩),(.agg #[.int .i64 k,.int .i64 i,.int .i64 n,.string x])] w (RetEd T w b ((Sta.d ⟨t,m,u,ro,so,g⟩),3)):=by
 have hbl:b<w.heap.size:=h.lt
 obtain ⟨wX,hwX,kE,ab,hz⟩:=box1 w #[.int .i64 k,.int .i64 i,.int .i64 n,.string x] 36
 have ad:=hid (show Blk wX b #[.bool true,.pointer (some ⟨rb,0,none⟩),.string ⟨#[]⟩,.slice m.a m.l.length m.c,.slice u.a u.l.length u.c,.slice ro.a ro.l.length ro.c,.bool so,.slice g.a g.l.length g.c] 54 from h.blk.onto ab)
 have ac:=hid (kE)
 have a8:=hid ((h.rows.wide (S':=b::w.heap.size::T) (wide2 (Nat.le_refl _))).later ab)
 have a9:=hid ((Apart.of_below ab:Apart [b] w wX))
 have ba:=hid (Nat.le_refl wX.heap.size)
 have ae:∀ W:World,wX.heap.size≤W.heap.size→∀ i∈b::w.heap.size::T,i<W.heap.size:=fun W hWz i hi=>by simp only [List.mem_cons] at hi;rcases hi with rfl|rfl|hi;all_goals first|omega|(have:=h.tlt i hi;omega)
 have bd:=hid ae;have H:=hid h;have HB:=hid ab
 clear ae kE
 obtain ⟨ag,ah,ai,aj,ak,al,am,an,ao,aq,ar,au,av,aw,ax,ay⟩:=ad.out.all8
 obtain ⟨az,a0,a1,a2,a3,a4,a5,a6⟩:=ac.out.all4
 have c1:=bA x hx
 rw [h1] at c1
 have C1:=hid c1
 clear c1 h1
 have hnw:=fun W (hW:Below wX.heap.size wX W)=>lK (Nw.some (ad.out.onto hW)) ((h.rope.later ab).later hW)
 have CL:=hid hnw
 clear hnw
 have hfs:∀ W,Below wX.heap.size wX W→(W.cell? ⟨b,1,none⟩=some (.pointer (some ⟨rb,0,none⟩))∧W.cell? ⟨b,3,none⟩=some (.slice m.a m.l.length m.c))∧W.cell? ⟨w.heap.size,0,none⟩=some (.int .i64 k)∧W.cell? ⟨w.heap.size,1,none⟩=some (.int .i64 i)∧W.cell? ⟨w.heap.size,2,none⟩=some (.int .i64 n)∧W.cell? ⟨w.heap.size,3,none⟩=some (.string x):=fun W h=>⟨⟨(ad.out.onto h).cell 1 _ rfl,(ad.out.onto h).cell 3 _ rfl⟩,(ac.out.onto h).cell 0 _ rfl,(ac.out.onto h).cell 1 _ rfl,(ac.out.onto h).cell 2 _ rfl,(ac.out.onto h).cell 3 _ rfl⟩
 have FS:=hid hfs
 clear hfs
 have g2:¬ i<0:=by omega
 have d2:decide (i<0)=false:=decide_eq_false g2
 clear h ab hz
 go_enter Tryz.func62,Tryz.ntmps62
 go_wp2_with fail
 refine (C1.out _).mono ?_;rintro e w1 ⟨rfl,rfl⟩
 clear hwX
 go_wp2_with fail
 clear ag ah ai aj ak al am an ao aq ar au av aw ax ay az a0 a1 a2 a3 a4 a5 a6
 refine wp_region_held_drew (S:=(fun W:World=>(W.cell? ⟨b,1,none⟩=some (.pointer (some ⟨rb,0,none⟩))∧W.cell? ⟨b,3,none⟩=some (.slice m.a m.l.length m.c))∧W.cell? ⟨w.heap.size,0,none⟩=some (.int .i64 k)∧W.cell? ⟨w.heap.size,1,none⟩=some (.int .i64 i)∧W.cell? ⟨w.heap.size,2,none⟩=some (.int .i64 n)∧W.cell? ⟨w.heap.size,3,none⟩=some (.string x))) (by kernel_rfl) (FS.out _ (Below.refl _ _).drew) (fun hHeld=>?_)
 refine sqt 0 ?_
 refine sqt 1 ?_
 refine sqt 2 ?_
 refine sqt 3 ?_
 refine sqt 4 ?_
 refine sqt 5 ?_
 refine sqt 6 ?_
 refine sqr 7 fun K hK=>?_
 go_simp
 (go_at_call 13;refine (CL.out _ (Below.refl _ _).drew).mono ?_;rintro e w1 ⟨rfl,a7⟩;have aa:Below wX.heap.size wX w1:=(Below.refl _ _).drew.trans a7)
 try go_wp2_with fail
 refine hK.out _ _ ?_ (fun hHeld=>?_)
 ·exact FS.out _ aa
 clear hK K
 try simp only [Act.put,sqp]
 refine sqt 8 ?_
 refine sqt 9 ?_
 refine sqt 10 ?_
 refine wpAnyH_done (by kernel_rfl) ?_ _
 have bb:=hid (ad.out.onto aa)
 have be:=hid (ac.out.onto aa)
 have bc:=hid (a8.out.later aa)
 have af:=hid (a9.out.trans (S':=[]) (.of_below aa) (by simp))
 have bf:=hid (Nat.le_trans ba.out aa.size)
 have bg:=hid aa
 clear a7 CL aa
 go_wp2
 go_ret
 exact ⟨⟨t,m,u,ro,so,g⟩,rb,p,L,rfl,⟨bb.out,H.out.rope.apart H.out.blk rfl af.out,bc.out.wide (fun i hi=>.inl (by simp only [List.mem_cons] at hi ⊢;rcases hi with h|h <;> simp [h])),H.out.ml,H.out.mc,H.out.inv,fun i hi=>Nat.lt_of_lt_of_le (H.out.tlt i hi) (af.out).size⟩,rfl,af.out⟩
set_option maxRecDepth 100000 in
set_option maxHeartbeats 1600000 in
theorem oE {w:World} {b:Nat} {t:ByteArray} {m:KPc} {u ro:SPc} {so:Bool} {g:EPc} {rb:Nat} {p:Option Addr} {L:List ByteArray} (h:IsEd T w b ⟨t,m,u,ro,so,g⟩ rb p L) (k i n:Int) (x:ByteArray) (hx:x.size≤maxLen) (h1:markB x.data.toList=true) (h2:0≤i∧i≤t.size) (h4:edgeB t.data.toList i=false):Calls Tryz.prog 62 #[.pointer (some ⟨b,0,none⟩),(.agg #[.int .i64 k,.int .i64 i,.int .i64 n,.string x])] w (RetEd T w b ((Sta.d ⟨t,m,u,ro,so,g⟩),4)):=by
 have hbl:b<w.heap.size:=h.lt
 obtain ⟨wX,hwX,kE,ac,hz⟩:=box1 w #[.int .i64 k,.int .i64 i,.int .i64 n,.string x] 36
 have ae:=hid (show Blk wX b #[.bool true,.pointer (some ⟨rb,0,none⟩),.string ⟨#[]⟩,.slice m.a m.l.length m.c,.slice u.a u.l.length u.c,.slice ro.a ro.l.length ro.c,.bool so,.slice g.a g.l.length g.c] 54 from h.blk.onto ac)
 have ad:=hid (kE)
 have b6:=hid ((h.rows.wide (S':=b::w.heap.size::T) (wide2 (Nat.le_refl _))).later ac)
 have b7:=hid ((Apart.of_below ac:Apart [b] w wX))
 have b8:=hid (Nat.le_refl wX.heap.size)
 have ag:∀ W:World,wX.heap.size≤W.heap.size→∀ i∈b::w.heap.size::T,i<W.heap.size:=fun W hWz i hi=>by simp only [List.mem_cons] at hi;rcases hi with rfl|rfl|hi;all_goals first|omega|(have:=h.tlt i hi;omega)
 have cf:=hid ag;have H:=hid h;have HB:=hid ac
 clear ag kE
 obtain ⟨ai,aj,ak,al,am,an,ao,aq,ar,au,av,aw,ax,ay,az,a0⟩:=ae.out.all8
 obtain ⟨a1,a2,a3,a4,a5,a6,a7,a8⟩:=ad.out.all4
 have c1:=bA x hx
 rw [h1] at c1
 have C1:=hid c1
 clear c1 h1
 have hnw:=fun W (hW:Below wX.heap.size wX W)=>lK (Nw.some (ae.out.onto hW)) ((h.rope.later ac).later hW)
 have CL:=hid hnw
 clear hnw
 have hfs:∀ W,Below wX.heap.size wX W→(W.cell? ⟨b,1,none⟩=some (.pointer (some ⟨rb,0,none⟩))∧W.cell? ⟨b,3,none⟩=some (.slice m.a m.l.length m.c))∧W.cell? ⟨w.heap.size,0,none⟩=some (.int .i64 k)∧W.cell? ⟨w.heap.size,1,none⟩=some (.int .i64 i)∧W.cell? ⟨w.heap.size,2,none⟩=some (.int .i64 n)∧W.cell? ⟨w.heap.size,3,none⟩=some (.string x):=fun W h=>⟨⟨(ae.out.onto h).cell 1 _ rfl,(ae.out.onto h).cell 3 _ rfl⟩,(ad.out.onto h).cell 0 _ rfl,(ad.out.onto h).cell 1 _ rfl,(ad.out.onto h).cell 2 _ rfl,(ad.out.onto h).cell 3 _ rfl⟩
 have FS:=hid hfs
 clear hfs
 have he:=fun W (hW:Below wX.heap.size wX W)=>eS (q:=i) ((h.rope.later ac).later hW) (by unfold i64P;have:=h.inv.z;replace this:t.size≤4096:=this;omega)
 rw [h4] at he
 have CE:=hid he
 clear he h4
 have g2:¬ i<0:=by omega
 have d2:decide (i<0)=false:=decide_eq_false g2
 have g3:¬ (t.size:Int)<i:=by omega
 clear h ac hz
 go_enter Tryz.func62,Tryz.ntmps62
 go_wp2_with fail
 refine (C1.out _).mono ?_;rintro e w1 ⟨rfl,rfl⟩
 clear hwX
 go_wp2_with fail
 clear ai aj ak al am an ao aq ar au av aw ax ay az a0 a1 a2 a3 a4 a5 a6 a7 a8
 refine wp_region_held_drew (S:=(fun W:World=>(W.cell? ⟨b,1,none⟩=some (.pointer (some ⟨rb,0,none⟩))∧W.cell? ⟨b,3,none⟩=some (.slice m.a m.l.length m.c))∧W.cell? ⟨w.heap.size,0,none⟩=some (.int .i64 k)∧W.cell? ⟨w.heap.size,1,none⟩=some (.int .i64 i)∧W.cell? ⟨w.heap.size,2,none⟩=some (.int .i64 n)∧W.cell? ⟨w.heap.size,3,none⟩=some (.string x))) (by kernel_rfl) (FS.out _ (Below.refl _ _).drew) (fun hHeld=>?_)
 refine sqt 0 ?_
 refine sqt 1 ?_
 refine sqt 2 ?_
 refine sqt 3 ?_
 refine sqt 4 ?_
 refine sqt 5 ?_
 refine sqt 6 ?_
 refine sqr 7 fun K hK=>?_
 go_simp
 (go_at_call 13;refine (CL.out _ (Below.refl _ _).drew).mono ?_;rintro e w1 ⟨rfl,bz⟩;have aa:Below wX.heap.size wX w1:=(Below.refl _ _).drew.trans bz)
 try go_wp2_with fail
 refine hK.out _ _ ?_ (fun hHeld=>?_)
 ·exact FS.out _ aa
 clear hK K
 try simp only [Act.put,sqp]
 refine sqt 8 ?_
 refine sqt 9 ?_
 refine sqt 10 ?_
 refine wpAnyH_done (by kernel_rfl) ?_ _
 have b3:=hid (ae.out.onto aa)
 have b4:=hid (ad.out.onto aa)
 have b9:=hid (b6.out.later aa)
 have ca:=hid (b7.out.trans (S':=[]) (.of_below aa) (by simp))
 have cb:=hid (Nat.le_trans b8.out aa.size)
 have af:=hid aa
 clear bz CL aa
 obtain ⟨a9,ba,bb,bc,bd,be,bf,bg,bh,bi,bj,bk,bl,bm,bn,bo⟩:=b3.out.all8
 obtain ⟨bp,bq,br,bs,bu,bv,bw,bx⟩:=b4.out.all4
 go_wp2_with fail
 clear a9 ba bb bc bd be bf bg bh bi bj bk bl bm bn bo bp bq br bs bu bv bw bx
 refine wp_region_held_drew (S:=(fun W:World=>(W.cell? ⟨b,1,none⟩=some (.pointer (some ⟨rb,0,none⟩))∧W.cell? ⟨b,3,none⟩=some (.slice m.a m.l.length m.c))∧W.cell? ⟨w.heap.size,0,none⟩=some (.int .i64 k)∧W.cell? ⟨w.heap.size,1,none⟩=some (.int .i64 i)∧W.cell? ⟨w.heap.size,2,none⟩=some (.int .i64 n)∧W.cell? ⟨w.heap.size,3,none⟩=some (.string x))) (by kernel_rfl) (FS.out _ (af.out.drew)) (fun hHeld=>?_)
 refine sqt 0 ?_
 refine sqt 1 ?_
 refine sqt 2 ?_
 refine sqt 3 ?_
 refine sqt 4 ?_
 refine sqt 5 ?_
 refine sqr 6 fun K hK=>?_
 go_simp
 (go_at_call 103;refine (CE.out _ af.out.drew).mono ?_;rintro e w2 ⟨rfl,b5⟩;have ab:Below w1.heap.size w1 w2:=(Below.refl _ _).drew.trans b5;have cc:=hid (af.out.trans (ab.mono af.out.size)))
 try go_wp2_with fail
 refine hK.out _ _ ?_ (fun hHeld=>?_)
 ·exact FS.out _ cc.out
 clear hK K
 try simp only [Act.put,sqp]
 refine sqt 7 ?_
 refine sqt 8 ?_
 refine wpAnyH_done (by kernel_rfl) ?_ _
 have cd:=hid (b3.out.onto ab)
 have cg:=hid (b4.out.onto ab)
 have ce:=hid (b9.out.later ab)
 have ah:=hid (ca.out.trans (S':=[]) (.of_below ab) (by simp))
 have ch:=hid (Nat.le_trans cb.out ab.size)
 clear b5 CE ab
 go_wp2
 go_ret
 exact ⟨⟨t,m,u,ro,so,g⟩,rb,p,L,rfl,⟨cd.out,H.out.rope.apart H.out.blk rfl ah.out,ce.out.wide (fun i hi=>.inl (by simp only [List.mem_cons] at hi ⊢;rcases hi with h|h <;> simp [h])),H.out.ml,H.out.mc,H.out.inv,fun i hi=>Nat.lt_of_lt_of_le (H.out.tlt i hi) (ah.out).size⟩,rfl,ah.out⟩
set_option maxRecDepth 100000 in
set_option maxHeartbeats 3200000 in
theorem sK {w:World} {b:Nat} {t:ByteArray} {m:KPc} {u ro:SPc} {so:Bool} {g:EPc} {rb:Nat} {p:Option Addr} {L:List ByteArray} (h:IsEd T w b ⟨t,m,u,ro,so,g⟩ rb p L) (k i n:Int) (x:ByteArray) (hx:x.size≤maxLen) (h1:markB x.data.toList=true) (h2:0≤i∧i≤t.size) (h4:edgeB t.data.toList i=true) (h5:(setM m.l ⟨x,i⟩).2≠0):Calls Tryz.prog 62 #[.pointer (some ⟨b,0,none⟩),(.agg #[.int .i64 k,.int .i64 i,.int .i64 n,.string x])] w (RetEd T w b ((Sta.d ⟨t,m,u,ro,so,g⟩),(setM m.l ⟨x,i⟩).2)):=by
 have hbl:b<w.heap.size:=h.lt
 have h4':=h4
 obtain ⟨wX,hwX,kE,ad,hz⟩:=box1 w #[.int .i64 k,.int .i64 i,.int .i64 n,.string x] 36
 have ag:=hid (show Blk wX b #[.bool true,.pointer (some ⟨rb,0,none⟩),.string ⟨#[]⟩,.slice m.a m.l.length m.c,.slice u.a u.l.length u.c,.slice ro.a ro.l.length ro.c,.bool so,.slice g.a g.l.length g.c] 54 from h.blk.onto ad)
 have ae:=hid (kE)
 have c6:=hid ((h.rows.wide (S':=b::w.heap.size::T) (wide2 (Nat.le_refl _))).later ad)
 have c7:=hid ((Apart.of_below ad:Apart [b] w wX))
 have c8:=hid (Nat.le_refl wX.heap.size)
 have ak:∀ W:World,wX.heap.size≤W.heap.size→∀ i∈b::w.heap.size::T,i<W.heap.size:=fun W hWz i hi=>by simp only [List.mem_cons] at hi;rcases hi with rfl|rfl|hi;all_goals first|omega|(have:=h.tlt i hi;omega)
 have c9:=hid ak;have H:=hid h;have HB:=hid ad
 clear ak kE
 obtain ⟨am,an,ao,aq,ar,au,av,aw,ax,ay,az,a0,a1,a2,a4,a5⟩:=ag.out.all8
 obtain ⟨a6,a7,a8,a9,ba,bb,bc,bd⟩:=ae.out.all4
 have c1:=bA x hx
 rw [h1] at c1
 have C1:=hid c1
 clear c1 h1
 have hnw:=fun W (hW:Below wX.heap.size wX W)=>lK (Nw.some (ag.out.onto hW)) ((h.rope.later ad).later hW)
 have CL:=hid hnw
 clear hnw
 have hfs:∀ W,Below wX.heap.size wX W→(W.cell? ⟨b,1,none⟩=some (.pointer (some ⟨rb,0,none⟩))∧W.cell? ⟨b,3,none⟩=some (.slice m.a m.l.length m.c))∧W.cell? ⟨w.heap.size,0,none⟩=some (.int .i64 k)∧W.cell? ⟨w.heap.size,1,none⟩=some (.int .i64 i)∧W.cell? ⟨w.heap.size,2,none⟩=some (.int .i64 n)∧W.cell? ⟨w.heap.size,3,none⟩=some (.string x):=fun W h=>⟨⟨(ag.out.onto h).cell 1 _ rfl,(ag.out.onto h).cell 3 _ rfl⟩,(ae.out.onto h).cell 0 _ rfl,(ae.out.onto h).cell 1 _ rfl,(ae.out.onto h).cell 2 _ rfl,(ae.out.onto h).cell 3 _ rfl⟩
 have FS:=hid hfs
 clear hfs
 have he:=fun W (hW:Below wX.heap.size wX W)=>eS (q:=i) ((h.rope.later ad).later hW) (by unfold i64P;have:=h.inv.z;replace this:t.size≤4096:=this;omega)
 rw [h4] at he
 have CE:=hid he
 clear he h4
 have cs:=fun W (hW:Below wX.heap.size wX W)=>mU m.a m.l m.c ⟨x,i⟩ W (KPo.pcs ((h.rows.m.later ad).later hW)) h.ml h.mc (Nat.le_trans h.inv.ml (by decide)) hx ((aP _ _).1 h.inv.m).2.2
 skip
 obtain ⟨q,hq⟩:∃ q,setM m.l ⟨x,i⟩=q:=⟨_,rfl⟩
 rw [hq] at cs h5 ⊢
 obtain ⟨ql,qe⟩:=q
 have CS:=hid cs
 have h5':qe≠0:=h5
 have g2:¬ i<0:=by omega
 have d2:decide (i<0)=false:=decide_eq_false g2
 have g3:¬ (t.size:Int)<i:=by omega
 clear h ad hz cs hq h5
 go_enter Tryz.func62,Tryz.ntmps62
 go_wp2_with fail
 refine (C1.out _).mono ?_;rintro e w1 ⟨rfl,rfl⟩
 clear hwX
 go_wp2_with fail
 clear am an ao aq ar au av aw ax ay az a0 a1 a2 a4 a5 a6 a7 a8 a9 ba bb bc bd
 refine wp_region_held_drew (S:=(fun W:World=>(W.cell? ⟨b,1,none⟩=some (.pointer (some ⟨rb,0,none⟩))∧W.cell? ⟨b,3,none⟩=some (.slice m.a m.l.length m.c))∧W.cell? ⟨w.heap.size,0,none⟩=some (.int .i64 k)∧W.cell? ⟨w.heap.size,1,none⟩=some (.int .i64 i)∧W.cell? ⟨w.heap.size,2,none⟩=some (.int .i64 n)∧W.cell? ⟨w.heap.size,3,none⟩=some (.string x))) (by kernel_rfl) (FS.out _ (Below.refl _ _).drew) (fun hHeld=>?_)
 refine sqt 0 ?_
 refine sqt 1 ?_
 refine sqt 2 ?_
 refine sqt 3 ?_
 refine sqt 4 ?_
 refine sqt 5 ?_
 refine sqt 6 ?_
 refine sqr 7 fun K hK=>?_
 go_simp
 (go_at_call 13;refine (CL.out _ (Below.refl _ _).drew).mono ?_;rintro e w1 ⟨rfl,cv⟩;have aa:Below wX.heap.size wX w1:=(Below.refl _ _).drew.trans cv)
 try go_wp2_with fail
 refine hK.out _ _ ?_ (fun hHeld=>?_)
 ·exact FS.out _ aa
 clear hK K
 try simp only [Act.put,sqp]
 refine sqt 8 ?_
 refine sqt 9 ?_
 refine sqt 10 ?_
 refine wpAnyH_done (by kernel_rfl) ?_ _
 have cw:=hid (ag.out.onto aa)
 have cx:=hid (ae.out.onto aa)
 have da:=hid (c6.out.later aa)
 have db:=hid (c7.out.trans (S':=[]) (.of_below aa) (by simp))
 have dc:=hid (Nat.le_trans c8.out aa.size)
 have ah:=hid aa
 clear cv CL aa
 obtain ⟨be,bf,bg,bh,bi,bj,bk,bl,bm,bn,bo,bp,bq,br,bs,bu⟩:=cw.out.all8
 obtain ⟨bv,bw,bx,bz,b3,b4,b5,b6⟩:=cx.out.all4
 go_wp2_with fail
 clear be bf bg bh bi bj bk bl bm bn bo bp bq br bs bu bv bw bx bz b3 b4 b5 b6
 refine wp_region_held_drew (S:=(fun W:World=>(W.cell? ⟨b,1,none⟩=some (.pointer (some ⟨rb,0,none⟩))∧W.cell? ⟨b,3,none⟩=some (.slice m.a m.l.length m.c))∧W.cell? ⟨w.heap.size,0,none⟩=some (.int .i64 k)∧W.cell? ⟨w.heap.size,1,none⟩=some (.int .i64 i)∧W.cell? ⟨w.heap.size,2,none⟩=some (.int .i64 n)∧W.cell? ⟨w.heap.size,3,none⟩=some (.string x))) (by kernel_rfl) (FS.out _ (ah.out.drew)) (fun hHeld=>?_)
 refine sqt 0 ?_
 refine sqt 1 ?_
 refine sqt 2 ?_
 refine sqt 3 ?_
 refine sqt 4 ?_
 refine sqt 5 ?_
 refine sqr 6 fun K hK=>?_
 go_simp
 (go_at_call 103;refine (CE.out _ ah.out.drew).mono ?_;rintro e w2 ⟨rfl,cy⟩;have ab:Below w1.heap.size w1 w2:=(Below.refl _ _).drew.trans cy;have af:=hid (ah.out.trans (ab.mono ah.out.size)))
 try go_wp2_with fail
 refine hK.out _ _ ?_ (fun hHeld=>?_)
 ·exact FS.out _ af.out
 clear hK K
 try simp only [Act.put,sqp]
 refine sqt 7 ?_
 refine sqt 8 ?_
 refine wpAnyH_done (by kernel_rfl) ?_ _
 have cz:=hid (cw.out.onto ab)
 have c4:=hid (cx.out.onto ab)
 have dd:=hid (da.out.later ab)
 have de:=hid (db.out.trans (S':=[]) (.of_below ab) (by simp))
 have df:=hid (Nat.le_trans dc.out ab.size)
 clear cy CE ab
 obtain ⟨b7,b8,b9,ai,ca,cb,cc,cd,ce,cf,cg,ch,ci,cj,ck,cl⟩:=cz.out.all8
 obtain ⟨cm,cn,co,cp,cq,cr,ct,cu⟩:=c4.out.all4
 have q3:w2.drew.cell? ⟨b,3,none⟩=some (.slice m.a m.l.length m.c):=ai
 go_wp2_with fail
 clear b7 b8 b9 ai ca cb cc cd ce cf cg ch ci cj ck cl cm cn co cp cq cr ct cu
 refine wp_region_held_drew (S:=(fun W:World=>W.cell? ⟨w.heap.size,0,none⟩=some (.int .i64 k)∧W.cell? ⟨w.heap.size,1,none⟩=some (.int .i64 i)∧W.cell? ⟨w.heap.size,2,none⟩=some (.int .i64 n)∧W.cell? ⟨w.heap.size,3,none⟩=some (.string x))) (by kernel_rfl) (FS.out _ af.out.drew).2 (fun hHeld=>?_)
 refine sqt 0 ?_
 refine sqt 1 ?_
 refine sqt 2 ?_
 refine sqt 3 ?_
 refine sqt 4 ?_
 refine sqt 6 ?_
 refine sqt 7 ?_
 refine sqt 8 ?_
 refine sqt 9 ?_
 refine sqt 10 ?_
 refine sqr 5 fun K hK=>?_
 go_simp
 skip
 try go_wp2_with fail
 refine hK.out _ _ ?_ (fun hHeld=>?_)
 ·exact hHeld
 clear hK K
 try simp only [Act.put,sqp]
 refine sqr 11 fun K hK=>?_
 go_simp
 (go_at_call 105;refine (CS.out _ af.out.drew).mono ?_;rintro e w3 ⟨a3,c3,rfl,aj,c5⟩;have ac:Below w2.heap.size w2 w3:=(Below.refl _ _).drew.trans c5;have dg:=hid (af.out.trans (ac.mono af.out.size)))
 try go_wp2_with fail
 refine hK.out _ _ ?_ (fun hHeld=>?_)
 ·exact (FS.out _ dg.out).2
 clear hK K
 try simp only [Act.put,sqp]
 clear q3
 refine sqt 12 ?_
 refine sqt 13 ?_
 have dh:=hid (cz.out.onto ac)
 have dj:=hid (c4.out.onto ac)
 have di:=hid (dd.out.later ac)
 have al:=hid (de.out.trans (S':=[]) (.of_below ac) (by simp))
 have dk:=hid (Nat.le_trans df.out ac.size)
 have dl:=hid (aj.off (S:=b::w.heap.size::T) (c9.out _ af.out.size))
 have dm:=hid (And.intro aj.le aj.cap)
 clear aj c5 ac CS
 refine sqr 14 fun K hK=>?_
 go_simp
 (go_at_call 104;refine (lP _ _ _ _ h5').mono ?_;rintro e w4 ⟨rfl,rfl⟩)
 try go_wp2_with fail
 refine hK.out _ _ ?_ (fun hHeld=>?_)
 ·exact hHeld
 clear hK K
 try simp only [Act.put,sqp]
 refine sqt 15 ?_
 refine wpAnyH_done (by kernel_rfl) ?_ _
 go_wp2
 go_ret
 exact ⟨⟨t,m,u,ro,so,g⟩,rb,p,L,rfl,⟨dh.out,H.out.rope.apart H.out.blk rfl al.out,di.out.wide (fun i hi=>.inl (by simp only [List.mem_cons] at hi ⊢;rcases hi with h|h <;> simp [h])),H.out.ml,H.out.mc,H.out.inv,fun i hi=>Nat.lt_of_lt_of_le (H.out.tlt i hi) (al.out).size⟩,rfl,al.out⟩
set_option maxRecDepth 100000 in
set_option maxHeartbeats 3200000 in
theorem sH {w:World} {b:Nat} {t:ByteArray} {m:KPc} {u ro:SPc} {so:Bool} {g:EPc} {rb:Nat} {p:Option Addr} {L:List ByteArray} (h:IsEd T w b ⟨t,m,u,ro,so,g⟩ rb p L) (k i n:Int) (x:ByteArray) (hx:x.size≤maxLen) (h1:markB x.data.toList=true) (h2:0≤i∧i≤t.size) (h4:edgeB t.data.toList i=true) (h5:(setM m.l ⟨x,i⟩).2=0):Calls Tryz.prog 62 #[.pointer (some ⟨b,0,none⟩),(.agg #[.int .i64 k,.int .i64 i,.int .i64 n,.string x])] w (RetEd T w b (⟨t,(setM m.l ⟨x,i⟩).1,lsP u.l,lsP ro.l,so,g.l⟩,0)):=by
 have hbl:b<w.heap.size:=h.lt
 have h4':=h4
 obtain ⟨wX,hwX,kE,ad,hz⟩:=box1 w #[.int .i64 k,.int .i64 i,.int .i64 n,.string x] 36
 have ah:=hid (show Blk wX b #[.bool true,.pointer (some ⟨rb,0,none⟩),.string ⟨#[]⟩,.slice m.a m.l.length m.c,.slice u.a u.l.length u.c,.slice ro.a ro.l.length ro.c,.bool so,.slice g.a g.l.length g.c] 54 from h.blk.onto ad)
 have af:=hid (kE)
 have db:=hid ((h.rows.wide (S':=b::w.heap.size::T) (wide2 (Nat.le_refl _))).later ad)
 have dc:=hid ((Apart.of_below ad:Apart [b] w wX))
 have dd:=hid (Nat.le_refl wX.heap.size)
 have al:∀ W:World,wX.heap.size≤W.heap.size→∀ i∈b::w.heap.size::T,i<W.heap.size:=fun W hWz i hi=>by simp only [List.mem_cons] at hi;rcases hi with rfl|rfl|hi;all_goals first|omega|(have:=h.tlt i hi;omega)
 have de:=hid al;have H:=hid h;have HB:=hid ad
 clear al kE
 obtain ⟨ao,aq,ar,au,av,aw,ax,ay,az,a0,a1,a2,a4,a5,a6,a7⟩:=ah.out.all8
 obtain ⟨a8,a9,ba,bb,bc,bd,be,bf⟩:=af.out.all4
 have c1:=bA x hx
 rw [h1] at c1
 have C1:=hid c1
 clear c1 h1
 have hnw:=fun W (hW:Below wX.heap.size wX W)=>lK (Nw.some (ah.out.onto hW)) ((h.rope.later ad).later hW)
 have CL:=hid hnw
 clear hnw
 have hfs:∀ W,Below wX.heap.size wX W→(W.cell? ⟨b,1,none⟩=some (.pointer (some ⟨rb,0,none⟩))∧W.cell? ⟨b,3,none⟩=some (.slice m.a m.l.length m.c))∧W.cell? ⟨w.heap.size,0,none⟩=some (.int .i64 k)∧W.cell? ⟨w.heap.size,1,none⟩=some (.int .i64 i)∧W.cell? ⟨w.heap.size,2,none⟩=some (.int .i64 n)∧W.cell? ⟨w.heap.size,3,none⟩=some (.string x):=fun W h=>⟨⟨(ah.out.onto h).cell 1 _ rfl,(ah.out.onto h).cell 3 _ rfl⟩,(af.out.onto h).cell 0 _ rfl,(af.out.onto h).cell 1 _ rfl,(af.out.onto h).cell 2 _ rfl,(af.out.onto h).cell 3 _ rfl⟩
 have FS:=hid hfs
 clear hfs
 have he:=fun W (hW:Below wX.heap.size wX W)=>eS (q:=i) ((h.rope.later ad).later hW) (by unfold i64P;have:=h.inv.z;replace this:t.size≤4096:=this;omega)
 rw [h4] at he
 have CE:=hid he
 clear he h4
 have cs:=fun W (hW:Below wX.heap.size wX W)=>mU m.a m.l m.c ⟨x,i⟩ W (KPo.pcs ((h.rows.m.later ad).later hW)) h.ml h.mc (Nat.le_trans h.inv.ml (by decide)) hx ((aP _ _).1 h.inv.m).2.2
 have hri:=yA (x:=⟨x,i⟩) h.inv.m h4' h5
 have am:=hid hri
 clear hri
 obtain ⟨q,hq⟩:∃ q,setM m.l ⟨x,i⟩=q:=⟨_,rfl⟩
 rw [hq] at cs h5 ⊢
 obtain ⟨ql,qe⟩:=q
 have CS:=hid cs
 replace am:=hid (show rightM ql t=true by have e:=am.out;rw [show (setM (Sta.d ⟨t,m,u,ro,so,g⟩).m ⟨x,i⟩)=(ql,qe) from hq] at e;exact e)
 have h5':qe=0:=h5
 have g2:¬ i<0:=by omega
 have d2:decide (i<0)=false:=decide_eq_false g2
 have g3:¬ (t.size:Int)<i:=by omega
 clear h ad hz cs hq h5
 subst h5'
 go_enter Tryz.func62,Tryz.ntmps62
 go_wp2_with fail
 refine (C1.out _).mono ?_;rintro e w1 ⟨rfl,rfl⟩
 clear hwX
 go_wp2_with fail
 clear ao aq ar au av aw ax ay az a0 a1 a2 a4 a5 a6 a7 a8 a9 ba bb bc bd be bf
 refine wp_region_held_drew (S:=(fun W:World=>(W.cell? ⟨b,1,none⟩=some (.pointer (some ⟨rb,0,none⟩))∧W.cell? ⟨b,3,none⟩=some (.slice m.a m.l.length m.c))∧W.cell? ⟨w.heap.size,0,none⟩=some (.int .i64 k)∧W.cell? ⟨w.heap.size,1,none⟩=some (.int .i64 i)∧W.cell? ⟨w.heap.size,2,none⟩=some (.int .i64 n)∧W.cell? ⟨w.heap.size,3,none⟩=some (.string x))) (by kernel_rfl) (FS.out _ (Below.refl _ _).drew) (fun hHeld=>?_)
 refine sqt 0 ?_
 refine sqt 1 ?_
 refine sqt 2 ?_
 refine sqt 3 ?_
 refine sqt 4 ?_
 refine sqt 5 ?_
 refine sqt 6 ?_
 refine sqr 7 fun K hK=>?_
 go_simp
 (go_at_call 13;refine (CL.out _ (Below.refl _ _).drew).mono ?_;rintro e w1 ⟨rfl,cx⟩;have aa:Below wX.heap.size wX w1:=(Below.refl _ _).drew.trans cx)
 try go_wp2_with fail
 refine hK.out _ _ ?_ (fun hHeld=>?_)
 ·exact FS.out _ aa
 clear hK K
 try simp only [Act.put,sqp]
 refine sqt 8 ?_
 refine sqt 9 ?_
 refine sqt 10 ?_
 refine wpAnyH_done (by kernel_rfl) ?_ _
 have cy:=hid (ah.out.onto aa)
 have cz:=hid (af.out.onto aa)
 have df:=hid (db.out.later aa)
 have dg:=hid (dc.out.trans (S':=[]) (.of_below aa) (by simp))
 have dh:=hid (Nat.le_trans dd.out aa.size)
 have ai:=hid aa
 clear cx CL aa
 obtain ⟨bg,bh,bi,bj,bk,bl,bm,bn,bo,bp,bq,br,bs,bu,bv,bw⟩:=cy.out.all8
 obtain ⟨bx,bz,b3,b4,b5,b6,b7,b8⟩:=cz.out.all4
 go_wp2_with fail
 clear bg bh bi bj bk bl bm bn bo bp bq br bs bu bv bw bx bz b3 b4 b5 b6 b7 b8
 refine wp_region_held_drew (S:=(fun W:World=>(W.cell? ⟨b,1,none⟩=some (.pointer (some ⟨rb,0,none⟩))∧W.cell? ⟨b,3,none⟩=some (.slice m.a m.l.length m.c))∧W.cell? ⟨w.heap.size,0,none⟩=some (.int .i64 k)∧W.cell? ⟨w.heap.size,1,none⟩=some (.int .i64 i)∧W.cell? ⟨w.heap.size,2,none⟩=some (.int .i64 n)∧W.cell? ⟨w.heap.size,3,none⟩=some (.string x))) (by kernel_rfl) (FS.out _ (ai.out.drew)) (fun hHeld=>?_)
 refine sqt 0 ?_
 refine sqt 1 ?_
 refine sqt 2 ?_
 refine sqt 3 ?_
 refine sqt 4 ?_
 refine sqt 5 ?_
 refine sqr 6 fun K hK=>?_
 go_simp
 (go_at_call 103;refine (CE.out _ ai.out.drew).mono ?_;rintro e w2 ⟨rfl,c4⟩;have ab:Below w1.heap.size w1 w2:=(Below.refl _ _).drew.trans c4;have ag:=hid (ai.out.trans (ab.mono ai.out.size)))
 try go_wp2_with fail
 refine hK.out _ _ ?_ (fun hHeld=>?_)
 ·exact FS.out _ ag.out
 clear hK K
 try simp only [Act.put,sqp]
 refine sqt 7 ?_
 refine sqt 8 ?_
 refine wpAnyH_done (by kernel_rfl) ?_ _
 have c5:=hid (cy.out.onto ab)
 have c6:=hid (cz.out.onto ab)
 have di:=hid (df.out.later ab)
 have dj:=hid (dg.out.trans (S':=[]) (.of_below ab) (by simp))
 have dk:=hid (Nat.le_trans dh.out ab.size)
 clear c4 CE ab
 obtain ⟨b9,ca,cb,aj,cc,cd,ce,cf,cg,ch,ci,cj,ck,cl,cm,cn⟩:=c5.out.all8
 obtain ⟨co,cp,cq,cr,ct,cu,cv,cw⟩:=c6.out.all4
 have q3:w2.drew.cell? ⟨b,3,none⟩=some (.slice m.a m.l.length m.c):=aj
 go_wp2_with fail
 clear b9 ca cb aj cc cd ce cf cg ch ci cj ck cl cm cn co cp cq cr ct cu cv cw
 refine wp_region_held_drew (S:=(fun W:World=>W.cell? ⟨w.heap.size,0,none⟩=some (.int .i64 k)∧W.cell? ⟨w.heap.size,1,none⟩=some (.int .i64 i)∧W.cell? ⟨w.heap.size,2,none⟩=some (.int .i64 n)∧W.cell? ⟨w.heap.size,3,none⟩=some (.string x))) (by kernel_rfl) (FS.out _ ag.out.drew).2 (fun hHeld=>?_)
 refine sqt 0 ?_
 refine sqt 1 ?_
 refine sqt 2 ?_
 refine sqt 3 ?_
 refine sqt 4 ?_
 refine sqt 6 ?_
 refine sqt 7 ?_
 refine sqt 8 ?_
 refine sqt 9 ?_
 refine sqt 10 ?_
 refine sqr 5 fun K hK=>?_
 go_simp
 skip
 try go_wp2_with fail
 refine hK.out _ _ ?_ (fun hHeld=>?_)
 ·exact hHeld
 clear hK K
 try simp only [Act.put,sqp]
 refine sqr 11 fun K hK=>?_
 go_simp
 (go_at_call 105;refine (CS.out _ ag.out.drew).mono ?_;rintro e w3 ⟨a3,c3,rfl,ak,c7⟩;have ac:Below w2.heap.size w2 w3:=(Below.refl _ _).drew.trans c7;have dl:=hid (ag.out.trans (ac.mono ag.out.size)))
 try go_wp2_with fail
 refine hK.out _ _ ?_ (fun hHeld=>?_)
 ·exact (FS.out _ dl.out).2
 clear hK K
 try simp only [Act.put,sqp]
 clear q3
 refine sqt 12 ?_
 refine sqt 13 ?_
 have dm:=hid (c5.out.onto ac)
 have dn:=hid (c6.out.onto ac)
 have an:=hid (di.out.later ac)
 have dp:=hid (dj.out.trans (S':=[]) (.of_below ac) (by simp))
 have dr:=hid (Nat.le_trans dk.out ac.size)
 have dq:=hid (ak.off (S:=b::w.heap.size::T) (de.out _ ag.out.size))
 have c8:=hid (And.intro ak.le ak.cap)
 clear ak c7 ac CS
 refine sqr 14 fun K hK=>?_
 go_simp
 (go_at_call 104;refine (tB (made:=true) (r:=some ⟨rb,0,none⟩) (t:=⟨#[]⟩) (m:=m) (u:=u) (ro:=ro) (o:=so) (g:=g) dm.out a3 ql.length c3).mono ?_;rintro e w4 ⟨rfl,c9,da⟩;have ae:=hid (And.intro c9 da);clear c9 da)
 try go_wp2_with fail
 refine hK.out _ _ ?_ (fun hHeld=>?_)
 ·exact (by have h:=dn.out.apart ae.out.2 (by simp only [List.mem_singleton];omega);exact ⟨h.cell 0 _ rfl,h.cell 1 _ rfl,h.cell 2 _ rfl,h.cell 3 _ rfl⟩)
 clear hK K
 try simp only [Act.put,sqp]
 refine sqt 15 ?_
 refine wpAnyH_done (by kernel_rfl) ?_ _
 have hba:=dp.out.trans ae.out.2 (fun x hx=>.inl hx)
 go_wp2
 go_ret
 exact ⟨⟨t,⟨a3,ql,c3⟩,u,ro,so,g⟩,rb,p,L,rfl,⟨ae.out.1,H.out.rope.apart H.out.blk rfl hba,⟨(dq.out.wide (fun i hi=>.inl (by simp only [List.mem_cons] at hi ⊢;rcases hi with h|h <;> simp [h]))).apart (ae.out.2.more (by simp)),(an.out.u.wide (fun i hi=>.inl (by simp only [List.mem_cons] at hi ⊢;rcases hi with h|h <;> simp [h]))).apart (ae.out.2.more (by simp)),(an.out.r.wide (fun i hi=>.inl (by simp only [List.mem_cons] at hi ⊢;rcases hi with h|h <;> simp [h]))).apart (ae.out.2.more (by simp)),(an.out.g.wide (fun i hi=>.inl (by simp only [List.mem_cons] at hi ⊢;rcases hi with h|h <;> simp [h]))).apart (ae.out.2.more (by simp))⟩,c8.out.1,c8.out.2,nN H.out.inv am.out,fun i hi=>Nat.lt_of_lt_of_le (H.out.tlt i hi) (hba).size⟩,rfl,hba⟩
set_option maxRecDepth 100000 in
set_option maxHeartbeats 3200000 in
theorem oJ {w:World} {b:Nat} {t:ByteArray} {m:KPc} {u ro:SPc} {so:Bool} {g:EPc} {rb:Nat} {p:Option Addr} {L:List ByteArray} (h:IsEd T w b ⟨t,m,u,ro,so,g⟩ rb p L) (k i n:Int) (x:ByteArray) (h5:(drpM m.l x).2≠0):Calls Tryz.prog 63 #[.pointer (some ⟨b,0,none⟩),(.agg #[.int .i64 k,.int .i64 i,.int .i64 n,.string x])] w (RetEd T w b ((Sta.d ⟨t,m,u,ro,so,g⟩),(drpM m.l x).2)):=by
 have hbl:b<w.heap.size:=h.lt
 obtain ⟨wX,hwX,kE,ab,hz⟩:=box1 w #[.int .i64 k,.int .i64 i,.int .i64 n,.string x] 36
 have ad:=hid (show Blk wX b #[.bool true,.pointer (some ⟨rb,0,none⟩),.string ⟨#[]⟩,.slice m.a m.l.length m.c,.slice u.a u.l.length u.c,.slice ro.a ro.l.length ro.c,.bool so,.slice g.a g.l.length g.c] 54 from h.blk.onto ab)
 have ac:=hid (kE)
 have ba:=hid ((h.rows.wide (S':=b::w.heap.size::T) (wide2 (Nat.le_refl _))).later ab)
 have bb:=hid ((Apart.of_below ab:Apart [b] w wX))
 have bc:=hid (Nat.le_refl wX.heap.size)
 have ag:∀ W:World,wX.heap.size≤W.heap.size→∀ i∈b::w.heap.size::T,i<W.heap.size:=fun W hWz i hi=>by simp only [List.mem_cons] at hi;rcases hi with rfl|rfl|hi;all_goals first|omega|(have:=h.tlt i hi;omega)
 have bd:=hid ag;have H:=hid h;have HB:=hid ab
 clear ag kE
 obtain ⟨ai,aj,ak,ae,al,am,an,ao,aq,ar,au,av,aw,ax,ay,az⟩:=ad.out.all8
 obtain ⟨a0,a1,a2,a4,a5,a6,a7,a8⟩:=ac.out.all4
 have hfs:∀ W,Below wX.heap.size wX W→(W.cell? ⟨b,1,none⟩=some (.pointer (some ⟨rb,0,none⟩))∧W.cell? ⟨b,3,none⟩=some (.slice m.a m.l.length m.c))∧W.cell? ⟨w.heap.size,0,none⟩=some (.int .i64 k)∧W.cell? ⟨w.heap.size,1,none⟩=some (.int .i64 i)∧W.cell? ⟨w.heap.size,2,none⟩=some (.int .i64 n)∧W.cell? ⟨w.heap.size,3,none⟩=some (.string x):=fun W h=>⟨⟨(ad.out.onto h).cell 1 _ rfl,(ad.out.onto h).cell 3 _ rfl⟩,(ac.out.onto h).cell 0 _ rfl,(ac.out.onto h).cell 1 _ rfl,(ac.out.onto h).cell 2 _ rfl,(ac.out.onto h).cell 3 _ rfl⟩
 have FS:=hid hfs
 clear hfs
 have cs:=fun W (hW:Below wX.heap.size wX W)=>lQ m.a m.l m.c x W (KPo.pcs ((h.rows.m.later ab).later hW)) h.ml h.mc (Nat.le_trans h.inv.ml (by decide)) ((aP _ _).1 h.inv.m).2.2
 skip
 obtain ⟨q,hq⟩:∃ q,drpM m.l x=q:=⟨_,rfl⟩
 rw [hq] at cs h5 ⊢
 obtain ⟨ql,qe⟩:=q
 have CS:=hid cs
 have h5':qe≠0:=h5
 clear h ab hz cs hq h5
 go_enter Tryz.func63,Tryz.ntmps63
 have q3:wX.drew.cell? ⟨b,3,none⟩=some (.slice m.a m.l.length m.c):=ae
 go_wp2_with fail
 clear ai aj ak ae al am an ao aq ar au av aw ax ay az a0 a1 a2 a4 a5 a6 a7 a8
 clear hwX
 refine wp_region_held_drew (S:=(fun W:World=>W.cell? ⟨w.heap.size,0,none⟩=some (.int .i64 k)∧W.cell? ⟨w.heap.size,1,none⟩=some (.int .i64 i)∧W.cell? ⟨w.heap.size,2,none⟩=some (.int .i64 n)∧W.cell? ⟨w.heap.size,3,none⟩=some (.string x))) (by kernel_rfl) (FS.out _ (Below.refl _ _).drew).2 (fun hHeld=>?_)
 refine sqt 0 ?_
 refine sqt 1 ?_
 refine sqt 2 ?_
 refine sqt 3 ?_
 refine sqt 4 ?_
 refine sqt 6 ?_
 refine sqt 7 ?_
 refine sqr 5 fun K hK=>?_
 go_simp
 skip
 try go_wp2_with fail
 refine hK.out _ _ ?_ (fun hHeld=>?_)
 ·exact hHeld
 clear hK K
 try simp only [Act.put,sqp]
 refine sqr 8 fun K hK=>?_
 go_simp
 (go_at_call 106;refine (CS.out _ (Below.refl _ _).drew).mono ?_;rintro e w3 ⟨a3,c3,rfl,af,a9⟩;have aa:Below wX.heap.size wX w3:=(Below.refl _ _).drew.trans a9)
 try go_wp2_with fail
 refine hK.out _ _ ?_ (fun hHeld=>?_)
 ·exact (FS.out _ aa).2
 clear hK K
 try simp only [Act.put,sqp]
 clear q3
 refine sqt 9 ?_
 refine sqt 10 ?_
 have be:=hid (ad.out.onto aa)
 have bg:=hid (ac.out.onto aa)
 have bf:=hid (ba.out.later aa)
 have ah:=hid (bb.out.trans (S':=[]) (.of_below aa) (by simp))
 have bh:=hid (Nat.le_trans bc.out aa.size)
 have bi:=hid (af.off (S:=b::w.heap.size::T) (bd.out _ (Nat.le_refl _)))
 have bj:=hid (And.intro af.le af.cap)
 clear af a9 aa CS
 refine sqr 11 fun K hK=>?_
 go_simp
 (go_at_call 104;refine (lP _ _ _ _ h5').mono ?_;rintro e w4 ⟨rfl,rfl⟩)
 try go_wp2_with fail
 refine hK.out _ _ ?_ (fun hHeld=>?_)
 ·exact hHeld
 clear hK K
 try simp only [Act.put,sqp]
 refine sqt 12 ?_
 refine wpAnyH_done (by kernel_rfl) ?_ _
 go_wp2
 go_ret
 exact ⟨⟨t,m,u,ro,so,g⟩,rb,p,L,rfl,⟨be.out,H.out.rope.apart H.out.blk rfl ah.out,bf.out.wide (fun i hi=>.inl (by simp only [List.mem_cons] at hi ⊢;rcases hi with h|h <;> simp [h])),H.out.ml,H.out.mc,H.out.inv,fun i hi=>Nat.lt_of_lt_of_le (H.out.tlt i hi) (ah.out).size⟩,rfl,ah.out⟩
set_option maxRecDepth 100000 in
set_option maxHeartbeats 3200000 in
theorem oC {w:World} {b:Nat} {t:ByteArray} {m:KPc} {u ro:SPc} {so:Bool} {g:EPc} {rb:Nat} {p:Option Addr} {L:List ByteArray} (h:IsEd T w b ⟨t,m,u,ro,so,g⟩ rb p L) (k i n:Int) (x:ByteArray) (h5:(drpM m.l x).2=0):Calls Tryz.prog 63 #[.pointer (some ⟨b,0,none⟩),(.agg #[.int .i64 k,.int .i64 i,.int .i64 n,.string x])] w (RetEd T w b (⟨t,(drpM m.l x).1,lsP u.l,lsP ro.l,so,g.l⟩,0)):=by
 have hbl:b<w.heap.size:=h.lt
 obtain ⟨wX,hwX,kE,ac,hz⟩:=box1 w #[.int .i64 k,.int .i64 i,.int .i64 n,.string x] 36
 have ae:=hid (show Blk wX b #[.bool true,.pointer (some ⟨rb,0,none⟩),.string ⟨#[]⟩,.slice m.a m.l.length m.c,.slice u.a u.l.length u.c,.slice ro.a ro.l.length ro.c,.bool so,.slice g.a g.l.length g.c] 54 from h.blk.onto ac)
 have ad:=hid (kE)
 have bf:=hid ((h.rows.wide (S':=b::w.heap.size::T) (wide2 (Nat.le_refl _))).later ac)
 have bg:=hid ((Apart.of_below ac:Apart [b] w wX))
 have bh:=hid (Nat.le_refl wX.heap.size)
 have ah:∀ W:World,wX.heap.size≤W.heap.size→∀ i∈b::w.heap.size::T,i<W.heap.size:=fun W hWz i hi=>by simp only [List.mem_cons] at hi;rcases hi with rfl|rfl|hi;all_goals first|omega|(have:=h.tlt i hi;omega)
 have bi:=hid ah;have H:=hid h;have HB:=hid ac
 clear ah kE
 obtain ⟨ak,al,am,af,an,ao,aq,ar,au,av,aw,ax,ay,az,a0,a1⟩:=ae.out.all8
 obtain ⟨a2,a4,a5,a6,a7,a8,a9,ba⟩:=ad.out.all4
 have hfs:∀ W,Below wX.heap.size wX W→(W.cell? ⟨b,1,none⟩=some (.pointer (some ⟨rb,0,none⟩))∧W.cell? ⟨b,3,none⟩=some (.slice m.a m.l.length m.c))∧W.cell? ⟨w.heap.size,0,none⟩=some (.int .i64 k)∧W.cell? ⟨w.heap.size,1,none⟩=some (.int .i64 i)∧W.cell? ⟨w.heap.size,2,none⟩=some (.int .i64 n)∧W.cell? ⟨w.heap.size,3,none⟩=some (.string x):=fun W h=>⟨⟨(ae.out.onto h).cell 1 _ rfl,(ae.out.onto h).cell 3 _ rfl⟩,(ad.out.onto h).cell 0 _ rfl,(ad.out.onto h).cell 1 _ rfl,(ad.out.onto h).cell 2 _ rfl,(ad.out.onto h).cell 3 _ rfl⟩
 have FS:=hid hfs
 clear hfs
 have cs:=fun W (hW:Below wX.heap.size wX W)=>lQ m.a m.l m.c x W (KPo.pcs ((h.rows.m.later ac).later hW)) h.ml h.mc (Nat.le_trans h.inv.ml (by decide)) ((aP _ _).1 h.inv.m).2.2
 have hri:=zN h.inv.m x h5
 have ai:=hid hri
 clear hri
 obtain ⟨q,hq⟩:∃ q,drpM m.l x=q:=⟨_,rfl⟩
 rw [hq] at cs h5 ⊢
 obtain ⟨ql,qe⟩:=q
 have CS:=hid cs
 replace ai:=hid (show rightM ql t=true by have e:=ai.out;rw [show (drpM (Sta.d ⟨t,m,u,ro,so,g⟩).m x)=(ql,qe) from hq] at e;exact e)
 have h5':qe=0:=h5
 clear h ac hz cs hq h5
 subst h5'
 go_enter Tryz.func63,Tryz.ntmps63
 have q3:wX.drew.cell? ⟨b,3,none⟩=some (.slice m.a m.l.length m.c):=af
 go_wp2_with fail
 clear ak al am af an ao aq ar au av aw ax ay az a0 a1 a2 a4 a5 a6 a7 a8 a9 ba
 clear hwX
 refine wp_region_held_drew (S:=(fun W:World=>W.cell? ⟨w.heap.size,0,none⟩=some (.int .i64 k)∧W.cell? ⟨w.heap.size,1,none⟩=some (.int .i64 i)∧W.cell? ⟨w.heap.size,2,none⟩=some (.int .i64 n)∧W.cell? ⟨w.heap.size,3,none⟩=some (.string x))) (by kernel_rfl) (FS.out _ (Below.refl _ _).drew).2 (fun hHeld=>?_)
 refine sqt 0 ?_
 refine sqt 1 ?_
 refine sqt 2 ?_
 refine sqt 3 ?_
 refine sqt 4 ?_
 refine sqt 6 ?_
 refine sqt 7 ?_
 refine sqr 5 fun K hK=>?_
 go_simp
 skip
 try go_wp2_with fail
 refine hK.out _ _ ?_ (fun hHeld=>?_)
 ·exact hHeld
 clear hK K
 try simp only [Act.put,sqp]
 refine sqr 8 fun K hK=>?_
 go_simp
 (go_at_call 106;refine (CS.out _ (Below.refl _ _).drew).mono ?_;rintro e w3 ⟨a3,c3,rfl,ag,bb⟩;have aa:Below wX.heap.size wX w3:=(Below.refl _ _).drew.trans bb)
 try go_wp2_with fail
 refine hK.out _ _ ?_ (fun hHeld=>?_)
 ·exact (FS.out _ aa).2
 clear hK K
 try simp only [Act.put,sqp]
 clear q3
 refine sqt 9 ?_
 refine sqt 10 ?_
 have bj:=hid (ae.out.onto aa)
 have bk:=hid (ad.out.onto aa)
 have aj:=hid (bf.out.later aa)
 have bl:=hid (bg.out.trans (S':=[]) (.of_below aa) (by simp))
 have bn:=hid (Nat.le_trans bh.out aa.size)
 have bm:=hid (ag.off (S:=b::w.heap.size::T) (bi.out _ (Nat.le_refl _)))
 have bc:=hid (And.intro ag.le ag.cap)
 clear ag bb aa CS
 refine sqr 11 fun K hK=>?_
 go_simp
 (go_at_call 104;refine (tB (made:=true) (r:=some ⟨rb,0,none⟩) (t:=⟨#[]⟩) (m:=m) (u:=u) (ro:=ro) (o:=so) (g:=g) bj.out a3 ql.length c3).mono ?_;rintro e w4 ⟨rfl,bd,be⟩;have ab:=hid (And.intro bd be);clear bd be)
 try go_wp2_with fail
 refine hK.out _ _ ?_ (fun hHeld=>?_)
 ·exact (by have h:=bk.out.apart ab.out.2 (by simp only [List.mem_singleton];omega);exact ⟨h.cell 0 _ rfl,h.cell 1 _ rfl,h.cell 2 _ rfl,h.cell 3 _ rfl⟩)
 clear hK K
 try simp only [Act.put,sqp]
 refine sqt 12 ?_
 refine wpAnyH_done (by kernel_rfl) ?_ _
 have hba:=bl.out.trans ab.out.2 (fun x hx=>.inl hx)
 go_wp2
 go_ret
 exact ⟨⟨t,⟨a3,ql,c3⟩,u,ro,so,g⟩,rb,p,L,rfl,⟨ab.out.1,H.out.rope.apart H.out.blk rfl hba,⟨(bm.out.wide (fun i hi=>.inl (by simp only [List.mem_cons] at hi ⊢;rcases hi with h|h <;> simp [h]))).apart (ab.out.2.more (by simp)),(aj.out.u.wide (fun i hi=>.inl (by simp only [List.mem_cons] at hi ⊢;rcases hi with h|h <;> simp [h]))).apart (ab.out.2.more (by simp)),(aj.out.r.wide (fun i hi=>.inl (by simp only [List.mem_cons] at hi ⊢;rcases hi with h|h <;> simp [h]))).apart (ab.out.2.more (by simp)),(aj.out.g.wide (fun i hi=>.inl (by simp only [List.mem_cons] at hi ⊢;rcases hi with h|h <;> simp [h]))).apart (ab.out.2.more (by simp))⟩,bc.out.1,bc.out.2,nN H.out.inv ai.out,fun i hi=>Nat.lt_of_lt_of_le (H.out.tlt i hi) (hba).size⟩,rfl,hba⟩
def edtD (s:StaD) (x:Int) (eo en:ByteArray):StaD×Int:=if 512<eo.size+en.size then (s,6) else if eo.size+en.size=0 then (s,0) else editD s ⟨x,eo,en⟩
theorem jP {w:World} {b:Nat} {s:Sta} {rb:Nat} {p:Option Addr} {L:List ByteArray} (h:IsEd T w b s rb p L) (x:Int) (eo en:ByteArray) (ho:eo.size≤4294967296) (hn:en.size≤4294967296) {t':ByteArray} {rb':Nat} {p':Option Addr} {L':List ByteArray} (hap:appE s.t x eo en=(t',0)) (hr:RopeW w (some ⟨rb',0,none⟩) p' L' t') :
 Calls Tryz.prog 99 #[.pointer (some ⟨b,0,none⟩),.pointer (some ⟨rb',0,none⟩),edV x eo en] w (RetEd T w b (edtD s.d x eo en)):=by
 obtain ⟨t,m,u,ro,so,g⟩:=s
 unfold edtD
 by_cases h1:512<eo.size+en.size
 ·rw [if_pos h1];exact qT h _ x eo en ho hn h1
 rw [if_neg h1]
 by_cases h2:eo.size+en.size=0
 ·rw [if_pos h2];exact qS h _ x eo en ho hn h2
 rw [if_neg h2]
 cases so with
 | true =>
  by_cases h3:32≤g.l.length
  ·have e:editD (Sta.d ⟨t,m,u,ro,true,g⟩) ⟨x,eo,en⟩=(Sta.d ⟨t,m,u,ro,true,g⟩,9):=by unfold editD;rw [if_pos ⟨rfl,h3⟩]
   rw [e]
   exact pV h _ x eo en ho hn (by omega) (by omega) h3
  ·exact pJ h x eo en ho hn (by omega) (by omega) hap hr (by omega)
 | false=>exact mB h x eo en ho hn (by omega) (by omega) hap hr
theorem BJ {s:StaD} {i:Int} {x:ByteArray} (h:insE s.t i x=0):edtD s i ⟨#[]⟩ x=insD s i x:=by
 unfold edtD insD insX
 rw [if_neg (show ¬ insE s.t i x≠0 from fun g=>g h),show (⟨#[]⟩:ByteArray).size=0 from rfl,Nat.zero_add]
theorem AR {s:StaD} {i n:Int} (h:delE s.t i n=0) (hn:((delX s.t i n).o.size:Int)=n):edtD s i (delX s.t i n).o ⟨#[]⟩=delD s i n:=by
 unfold edtD delD
 rw [if_neg (show ¬ delE s.t i n≠0 from fun g=>g h),show (⟨#[]⟩:ByteArray).size=0 from rfl,Nat.add_zero]
 by_cases h1:512<(delX s.t i n).o.size
 ·rw [if_pos h1,if_pos (show (512:Int)<n by omega)]
 rw [if_neg h1,if_neg (show ¬ (512:Int)<n by omega)]
 by_cases h2:(delX s.t i n).o.size=0
 ·rw [if_pos h2,if_pos (show n=0 by omega)]
 rw [if_neg h2,if_neg (show ¬ n=0 by omega)]
 rfl
set_option maxRecDepth 100000 in
set_option maxHeartbeats 1600000 in
theorem qE {w:World} {b:Nat} {t:ByteArray} {m:KPc} {u ro:SPc} {so:Bool} {g:EPc} {rb:Nat} {p:Option Addr} {L:List ByteArray} (h:IsEd T w b ⟨t,m,u,ro,so,g⟩ rb p L) (k i n:Int) (x:ByteArray) (hx:x.size≤1000000) (hi:i64P i) (h1:insE t i x≠0):Calls Tryz.prog 60 #[.pointer (some ⟨b,0,none⟩),(.agg #[.int .i64 k,.int .i64 i,.int .i64 n,.string x])] w (RetEd T w b ((Sta.d ⟨t,m,u,ro,so,g⟩),insE t i x)):=by
 have hbl:b<w.heap.size:=h.lt
 obtain ⟨wX,hwX,kE,ab,hz⟩:=box1 w #[.int .i64 k,.int .i64 i,.int .i64 n,.string x] 36
 have ad:=hid (show Blk wX b #[.bool true,.pointer (some ⟨rb,0,none⟩),.string ⟨#[]⟩,.slice m.a m.l.length m.c,.slice u.a u.l.length u.c,.slice ro.a ro.l.length ro.c,.bool so,.slice g.a g.l.length g.c] 54 from h.blk.onto ab)
 have ac:=hid (kE)
 have a9:=hid ((h.rows.wide (S':=b::w.heap.size::T) (wide2 (Nat.le_refl _))).later ab)
 have ba:=hid ((Apart.of_below ab:Apart [b] w wX))
 have bb:=hid (Nat.le_refl wX.heap.size)
 have ae:∀ W:World,wX.heap.size≤W.heap.size→∀ i∈b::w.heap.size::T,i<W.heap.size:=fun W hWz i hi=>by simp only [List.mem_cons] at hi;rcases hi with rfl|rfl|hi;all_goals first|omega|(have:=h.tlt i hi;omega)
 have b7:=hid ae;have H:=hid h;have HB:=hid ab
 clear ae kE
 obtain ⟨ag,ah,ai,aj,ak,al,am,an,ao,aq,ar,au,av,aw,ax,ay⟩:=ad.out.all8
 obtain ⟨az,a0,a1,a2,a3,a4,a5,a6⟩:=ac.out.all4
 have hfs:∀ W,Below wX.heap.size wX W→W.cell? ⟨b,1,none⟩=some (.pointer (some ⟨rb,0,none⟩))∧W.cell? ⟨w.heap.size,0,none⟩=some (.int .i64 k)∧W.cell? ⟨w.heap.size,1,none⟩=some (.int .i64 i)∧W.cell? ⟨w.heap.size,2,none⟩=some (.int .i64 n)∧W.cell? ⟨w.heap.size,3,none⟩=some (.string x):=fun W h=>⟨(ad.out.onto h).cell 1 _ rfl,(ac.out.onto h).cell 0 _ rfl,(ac.out.onto h).cell 1 _ rfl,(ac.out.onto h).cell 2 _ rfl,(ac.out.onto h).cell 3 _ rfl⟩
 have FS:=hid hfs
 clear hfs
 have cs:=fun W (hW:Below wX.heap.size wX W)=>(pM (x:=x) (i:=i) ((h.rope.later ab).later hW) (show t.size≤4096 from h.inv.z) (by unfold maxLen;omega) hi).mono fun e w' h=>h.no h1
 have h1e:(insE t i x == 0)=false:=beq_eq_false_iff_ne.2 h1
 obtain ⟨E,hE⟩:∃ E,insE t i x=E:=⟨_,rfl⟩
 rw [hE] at cs h1e ⊢
 have CS:=hid cs
 clear cs h ab hz h1 hi hx hE
 go_enter Tryz.func60,Tryz.ntmps60
 go_wp2_with fail
 clear ag ah ai aj ak al am an ao aq ar au av aw ax ay az a0 a1 a2 a3 a4 a5 a6
 clear hwX
 refine wp_region_held_drew (S:=(fun W:World=>W.cell? ⟨b,1,none⟩=some (.pointer (some ⟨rb,0,none⟩))∧W.cell? ⟨w.heap.size,0,none⟩=some (.int .i64 k)∧W.cell? ⟨w.heap.size,1,none⟩=some (.int .i64 i)∧W.cell? ⟨w.heap.size,2,none⟩=some (.int .i64 n)∧W.cell? ⟨w.heap.size,3,none⟩=some (.string x))) (by kernel_rfl) (FS.out _ (Below.refl _ _).drew) (fun hHeld=>?_)
 refine sqt 0 ?_
 refine sqt 1 ?_
 refine sqt 2 ?_
 refine sqt 3 ?_
 refine sqt 4 ?_
 refine sqt 5 ?_
 refine sqt 6 ?_
 refine sqt 7 ?_
 refine sqr 8 fun K hK=>?_
 go_simp
 (go_at_call 91;refine (CS.out _ (Below.refl _ _).drew).mono ?_;rintro e w1 ⟨rfl,a7⟩;have aa:Below wX.heap.size wX w1:=(Below.refl _ _).drew.trans a7)
 try go_wp2_with fail
 refine hK.out _ _ ?_ (fun hHeld=>?_)
 ·exact FS.out _ aa
 clear hK K
 try simp only [Act.put,sqp]
 refine sqt 9 ?_
 refine sqt 10 ?_
 refine sqt 11 ?_
 refine sqt 12 ?_
 refine sqt 13 ?_
 refine wpAnyH_done (by kernel_rfl) ?_ _
 have a8:=hid (ad.out.onto aa)
 have bc:=hid (ac.out.onto aa)
 have bd:=hid (a9.out.later aa)
 have af:=hid (ba.out.trans (S':=[]) (.of_below aa) (by simp))
 have b8:=hid (Nat.le_trans bb.out aa.size)
 have b9:=hid aa
 clear a7 aa CS
 obtain ⟨be,bf,bg,bh,bi,bj,bk,bl,bm,bn,bo,bp,bq,br,bs,bu⟩:=a8.out.all8
 obtain ⟨bv,bw,bx,bz,b3,b4,b5,b6⟩:=bc.out.all4
 go_wp2
 go_ret
 exact ⟨⟨t,m,u,ro,so,g⟩,rb,p,L,rfl,⟨a8.out,H.out.rope.apart H.out.blk rfl af.out,bd.out.wide (fun i hi=>.inl (by simp only [List.mem_cons] at hi ⊢;rcases hi with h|h <;> simp [h])),H.out.ml,H.out.mc,H.out.inv,fun i hi=>Nat.lt_of_lt_of_le (H.out.tlt i hi) (af.out).size⟩,rfl,af.out⟩
set_option maxRecDepth 100000 in
set_option maxHeartbeats 1600000 in
theorem oG {w:World} {b:Nat} {t:ByteArray} {m:KPc} {u ro:SPc} {so:Bool} {g:EPc} {rb:Nat} {p:Option Addr} {L:List ByteArray} (h:IsEd T w b ⟨t,m,u,ro,so,g⟩ rb p L) (k i n:Int) (x:ByteArray) (hx:x.size≤1000000) (hi:i64P i) (h1:insE t i x=0):Calls Tryz.prog 60 #[.pointer (some ⟨b,0,none⟩),(.agg #[.int .i64 k,.int .i64 i,.int .i64 n,.string x])] w (RetEd T w b (insD (Sta.d ⟨t,m,u,ro,so,g⟩) i x)):=by
 have hbl:b<w.heap.size:=h.lt
 obtain ⟨wX,hwX,kE,ab,hz⟩:=box1 w #[.int .i64 k,.int .i64 i,.int .i64 n,.string x] 36
 have ad:=hid (show Blk wX b #[.bool true,.pointer (some ⟨rb,0,none⟩),.string ⟨#[]⟩,.slice m.a m.l.length m.c,.slice u.a u.l.length u.c,.slice ro.a ro.l.length ro.c,.bool so,.slice g.a g.l.length g.c] 54 from h.blk.onto ab)
 have ac:=hid (kE)
 have b4:=hid ((h.rows.wide (S':=b::w.heap.size::T) (wide2 (Nat.le_refl _))).later ab)
 have b5:=hid ((Apart.of_below ab:Apart [b] w wX))
 have b6:=hid (Nat.le_refl wX.heap.size)
 have ae:∀ W:World,wX.heap.size≤W.heap.size→∀ i∈b::w.heap.size::T,i<W.heap.size:=fun W hWz i hi=>by simp only [List.mem_cons] at hi;rcases hi with rfl|rfl|hi;all_goals first|omega|(have:=h.tlt i hi;omega)
 have cc:=hid ae;have H:=hid h;have HB:=hid ab
 clear ae kE
 obtain ⟨af,ag,ah,ai,aj,ak,al,am,an,ao,aq,ar,au,av,aw,ax⟩:=ad.out.all8
 obtain ⟨ay,az,a0,a1,a2,a3,a4,a5⟩:=ac.out.all4
 have hfs:∀ W,Below wX.heap.size wX W→W.cell? ⟨b,1,none⟩=some (.pointer (some ⟨rb,0,none⟩))∧W.cell? ⟨w.heap.size,0,none⟩=some (.int .i64 k)∧W.cell? ⟨w.heap.size,1,none⟩=some (.int .i64 i)∧W.cell? ⟨w.heap.size,2,none⟩=some (.int .i64 n)∧W.cell? ⟨w.heap.size,3,none⟩=some (.string x):=fun W h=>⟨(ad.out.onto h).cell 1 _ rfl,(ac.out.onto h).cell 0 _ rfl,(ac.out.onto h).cell 1 _ rfl,(ac.out.onto h).cell 2 _ rfl,(ac.out.onto h).cell 3 _ rfl⟩
 have FS:=hid hfs
 clear hfs
 have cs:=fun W (hW:Below wX.heap.size wX W)=>(pM (x:=x) (i:=i) ((h.rope.later ab).later hW) (show t.size≤4096 from h.inv.z) (by unfold maxLen;omega) hi).mono fun e w' h=>h.yes h1
 have ce:=fun W (hW:Below wX.heap.size wX W) {rb':Nat} {p':Option Addr} {L':List ByteArray} (hR:RopeW W (some ⟨rb',0,none⟩) p' L' (insS t i x))=>jP ((h.later ab).later hW) i ⟨#[]⟩ x (Nat.zero_le _) (by omega) (tH h1) hR
 rw [BJ (s:=Sta.d ⟨t,m,u,ro,so,g⟩) h1] at ce
 obtain ⟨R,hR⟩:∃ R,insD (Sta.d ⟨t,m,u,ro,so,g⟩) i x=R:=⟨_,rfl⟩
 rw [hR] at ce ⊢
 obtain ⟨Rs,Re⟩:=R
 have CE:=hid ce
 clear ce hR
 have CS:=hid cs
 clear cs h ab hz h1 hi hx
 go_enter Tryz.func60,Tryz.ntmps60
 go_wp2_with fail
 clear af ag ah ai aj ak al am an ao aq ar au av aw ax ay az a0 a1 a2 a3 a4 a5
 clear hwX
 refine wp_region_held_drew (S:=(fun W:World=>W.cell? ⟨b,1,none⟩=some (.pointer (some ⟨rb,0,none⟩))∧W.cell? ⟨w.heap.size,0,none⟩=some (.int .i64 k)∧W.cell? ⟨w.heap.size,1,none⟩=some (.int .i64 i)∧W.cell? ⟨w.heap.size,2,none⟩=some (.int .i64 n)∧W.cell? ⟨w.heap.size,3,none⟩=some (.string x))) (by kernel_rfl) (FS.out _ (Below.refl _ _).drew) (fun hHeld=>?_)
 refine sqt 0 ?_
 refine sqt 1 ?_
 refine sqt 2 ?_
 refine sqt 3 ?_
 refine sqt 4 ?_
 refine sqt 5 ?_
 refine sqt 6 ?_
 refine sqt 7 ?_
 refine sqr 8 fun K hK=>?_
 go_simp
 (go_at_call 91;refine (CS.out _ (Below.refl _ _).drew).mono ?_;rintro e w1 ⟨rb',p',L',rfl,bv,bw⟩;have aa:Below wX.heap.size wX w1:=(Below.refl _ _).drew.trans bw)
 try go_wp2_with fail
 refine hK.out _ _ ?_ (fun hHeld=>?_)
 ·exact FS.out _ aa
 clear hK K
 try simp only [Act.put,sqp]
 refine sqt 9 ?_
 refine sqt 10 ?_
 refine sqt 11 ?_
 refine sqt 12 ?_
 refine sqt 13 ?_
 refine wpAnyH_done (by kernel_rfl) ?_ _
 have b7:=hid (ad.out.onto aa)
 have b8:=hid (ac.out.onto aa)
 have cd:=hid (b4.out.later aa)
 have b9:=hid (b5.out.trans (S':=[]) (.of_below aa) (by simp))
 have cf:=hid (Nat.le_trans b6.out aa.size)
 have ca:=hid aa
 clear bw aa CS
 have cb:=hid bv
 clear bv
 obtain ⟨a6,a7,a8,a9,ba,bb,bc,bd,be,bf,bg,bh,bi,bj,bk,bl⟩:=b7.out.all8
 obtain ⟨bm,bn,bo,bp,bq,br,bs,bu⟩:=b8.out.all4
 go_wp2_with fail
 refine (CE.out _ ca.out cb.out).mono ?_;rintro e w2 ⟨s2,rb2,p2,L2,rfl,bx,bz,b3⟩
 have HQ:=hid (And.intro bx (And.intro bz b3))
 clear bx bz b3
 clear a6 a7 a8 a9 ba bb bc bd be bf bg bh bi bj bk bl bm bn bo bp bq br bs bu
 go_wp2
 go_ret
 exact ⟨s2,rb2,p2,L2,rfl,HQ.out.1,HQ.out.2.1,b9.out.trans HQ.out.2.2 (fun x hx=>.inl hx)⟩
set_option maxRecDepth 100000 in
set_option maxHeartbeats 1600000 in
theorem qU {w:World} {b:Nat} {t:ByteArray} {m:KPc} {u ro:SPc} {so:Bool} {g:EPc} {rb:Nat} {p:Option Addr} {L:List ByteArray} (h:IsEd T w b ⟨t,m,u,ro,so,g⟩ rb p L) (k i n:Int) (x:ByteArray) (hi:i64P i) (h1:delE t i n≠0):Calls Tryz.prog 61 #[.pointer (some ⟨b,0,none⟩),(.agg #[.int .i64 k,.int .i64 i,.int .i64 n,.string x])] w (RetEd T w b ((Sta.d ⟨t,m,u,ro,so,g⟩),delE t i n)):=by
 have hbl:b<w.heap.size:=h.lt
 obtain ⟨wX,hwX,kE,ab,hz⟩:=box1 w #[.int .i64 k,.int .i64 i,.int .i64 n,.string x] 36
 have ad:=hid (show Blk wX b #[.bool true,.pointer (some ⟨rb,0,none⟩),.string ⟨#[]⟩,.slice m.a m.l.length m.c,.slice u.a u.l.length u.c,.slice ro.a ro.l.length ro.c,.bool so,.slice g.a g.l.length g.c] 54 from h.blk.onto ab)
 have ac:=hid (kE)
 have a9:=hid ((h.rows.wide (S':=b::w.heap.size::T) (wide2 (Nat.le_refl _))).later ab)
 have ba:=hid ((Apart.of_below ab:Apart [b] w wX))
 have bb:=hid (Nat.le_refl wX.heap.size)
 have ae:∀ W:World,wX.heap.size≤W.heap.size→∀ i∈b::w.heap.size::T,i<W.heap.size:=fun W hWz i hi=>by simp only [List.mem_cons] at hi;rcases hi with rfl|rfl|hi;all_goals first|omega|(have:=h.tlt i hi;omega)
 have b7:=hid ae;have H:=hid h;have HB:=hid ab
 clear ae kE
 obtain ⟨ag,ah,ai,aj,ak,al,am,an,ao,aq,ar,au,av,aw,ax,ay⟩:=ad.out.all8
 obtain ⟨az,a0,a1,a2,a3,a4,a5,a6⟩:=ac.out.all4
 have hfs:∀ W,Below wX.heap.size wX W→W.cell? ⟨b,1,none⟩=some (.pointer (some ⟨rb,0,none⟩))∧W.cell? ⟨w.heap.size,0,none⟩=some (.int .i64 k)∧W.cell? ⟨w.heap.size,1,none⟩=some (.int .i64 i)∧W.cell? ⟨w.heap.size,2,none⟩=some (.int .i64 n)∧W.cell? ⟨w.heap.size,3,none⟩=some (.string x):=fun W h=>⟨(ad.out.onto h).cell 1 _ rfl,(ac.out.onto h).cell 0 _ rfl,(ac.out.onto h).cell 1 _ rfl,(ac.out.onto h).cell 2 _ rfl,(ac.out.onto h).cell 3 _ rfl⟩
 have FS:=hid hfs
 clear hfs
 have cs:=fun W (hW:Below wX.heap.size wX W)=>(xB (n:=n) (i:=i) ((h.rope.later ab).later hW) (show t.size≤4096 from h.inv.z) hi).mono fun e w' h=>h.no h1
 have h1e:(delE t i n == 0)=false:=beq_eq_false_iff_ne.2 h1
 obtain ⟨E,hE⟩:∃ E,delE t i n=E:=⟨_,rfl⟩
 rw [hE] at cs h1e ⊢
 have CS:=hid cs
 clear cs h ab hz h1 hi hE
 go_enter Tryz.func61,Tryz.ntmps61
 go_wp2_with fail
 clear ag ah ai aj ak al am an ao aq ar au av aw ax ay az a0 a1 a2 a3 a4 a5 a6
 clear hwX
 refine wp_region_held_drew (S:=(fun W:World=>W.cell? ⟨b,1,none⟩=some (.pointer (some ⟨rb,0,none⟩))∧W.cell? ⟨w.heap.size,0,none⟩=some (.int .i64 k)∧W.cell? ⟨w.heap.size,1,none⟩=some (.int .i64 i)∧W.cell? ⟨w.heap.size,2,none⟩=some (.int .i64 n)∧W.cell? ⟨w.heap.size,3,none⟩=some (.string x))) (by kernel_rfl) (FS.out _ (Below.refl _ _).drew) (fun hHeld=>?_)
 refine sqt 0 ?_
 refine sqt 1 ?_
 refine sqt 2 ?_
 refine sqt 3 ?_
 refine sqt 4 ?_
 refine sqt 5 ?_
 refine sqt 6 ?_
 refine sqt 7 ?_
 refine sqr 8 fun K hK=>?_
 go_simp
 (go_at_call 100;refine (CS.out _ (Below.refl _ _).drew).mono ?_;rintro e w1 ⟨rfl,a7⟩;have aa:Below wX.heap.size wX w1:=(Below.refl _ _).drew.trans a7)
 try go_wp2_with fail
 refine hK.out _ _ ?_ (fun hHeld=>?_)
 ·exact FS.out _ aa
 clear hK K
 try simp only [Act.put,sqp]
 refine sqt 9 ?_
 refine sqt 10 ?_
 refine sqt 11 ?_
 refine sqt 12 ?_
 refine sqt 13 ?_
 refine wpAnyH_done (by kernel_rfl) ?_ _
 have a8:=hid (ad.out.onto aa)
 have bc:=hid (ac.out.onto aa)
 have bd:=hid (a9.out.later aa)
 have af:=hid (ba.out.trans (S':=[]) (.of_below aa) (by simp))
 have b8:=hid (Nat.le_trans bb.out aa.size)
 have b9:=hid aa
 clear a7 aa CS
 obtain ⟨be,bf,bg,bh,bi,bj,bk,bl,bm,bn,bo,bp,bq,br,bs,bu⟩:=a8.out.all8
 obtain ⟨bv,bw,bx,bz,b3,b4,b5,b6⟩:=bc.out.all4
 go_wp2
 go_ret
 exact ⟨⟨t,m,u,ro,so,g⟩,rb,p,L,rfl,⟨a8.out,H.out.rope.apart H.out.blk rfl af.out,bd.out.wide (fun i hi=>.inl (by simp only [List.mem_cons] at hi ⊢;rcases hi with h|h <;> simp [h])),H.out.ml,H.out.mc,H.out.inv,fun i hi=>Nat.lt_of_lt_of_le (H.out.tlt i hi) (af.out).size⟩,rfl,af.out⟩
set_option maxRecDepth 100000 in
set_option maxHeartbeats 1600000 in
theorem oK {w:World} {b:Nat} {t:ByteArray} {m:KPc} {u ro:SPc} {so:Bool} {g:EPc} {rb:Nat} {p:Option Addr} {L:List ByteArray} (h:IsEd T w b ⟨t,m,u,ro,so,g⟩ rb p L) (k i n:Int) (x:ByteArray) (hi:i64P i) (h1:delE t i n=0):Calls Tryz.prog 61 #[.pointer (some ⟨b,0,none⟩),(.agg #[.int .i64 k,.int .i64 i,.int .i64 n,.string x])] w (RetEd T w b (delD (Sta.d ⟨t,m,u,ro,so,g⟩) i n)):=by
 have hbl:b<w.heap.size:=h.lt
 obtain ⟨wX,hwX,kE,ac,hz⟩:=box1 w #[.int .i64 k,.int .i64 i,.int .i64 n,.string x] 36
 have af:=hid (show Blk wX b #[.bool true,.pointer (some ⟨rb,0,none⟩),.string ⟨#[]⟩,.slice m.a m.l.length m.c,.slice u.a u.l.length u.c,.slice ro.a ro.l.length ro.c,.bool so,.slice g.a g.l.length g.c] 54 from h.blk.onto ac)
 have ad:=hid (kE)
 have c4:=hid ((h.rows.wide (S':=b::w.heap.size::T) (wide2 (Nat.le_refl _))).later ac)
 have c5:=hid ((Apart.of_below ac:Apart [b] w wX))
 have c6:=hid (Nat.le_refl wX.heap.size)
 have ag:∀ W:World,wX.heap.size≤W.heap.size→∀ i∈b::w.heap.size::T,i<W.heap.size:=fun W hWz i hi=>by simp only [List.mem_cons] at hi;rcases hi with rfl|rfl|hi;all_goals first|omega|(have:=h.tlt i hi;omega)
 have df:=hid ag;have H:=hid h;have HB:=hid ac
 clear ag kE
 obtain ⟨ah,ai,aj,ak,al,am,an,ao,aq,ar,au,av,aw,ax,ay,az⟩:=af.out.all8
 obtain ⟨a0,a1,a2,a3,a4,a5,a6,a7⟩:=ad.out.all4
 have hfs:∀ W,Below wX.heap.size wX W→W.cell? ⟨b,1,none⟩=some (.pointer (some ⟨rb,0,none⟩))∧W.cell? ⟨w.heap.size,0,none⟩=some (.int .i64 k)∧W.cell? ⟨w.heap.size,1,none⟩=some (.int .i64 i)∧W.cell? ⟨w.heap.size,2,none⟩=some (.int .i64 n)∧W.cell? ⟨w.heap.size,3,none⟩=some (.string x):=fun W h=>⟨(af.out.onto h).cell 1 _ rfl,(ad.out.onto h).cell 0 _ rfl,(ad.out.onto h).cell 1 _ rfl,(ad.out.onto h).cell 2 _ rfl,(ad.out.onto h).cell 3 _ rfl⟩
 have FS:=hid hfs
 clear hfs
 have cs:=fun W (hW:Below wX.heap.size wX W)=>(xB (n:=n) (i:=i) ((h.rope.later ac).later hW) (show t.size≤4096 from h.inv.z) hi).mono fun e w' h=>h.yes h1
 obtain ⟨da,dz⟩:=tN (i:=i) (n:=n) h.inv.v h.inv.z h1
 have hst:=dD.1 (nH h1).1
 obtain ⟨i',rfl⟩:=Int.eq_ofNat_of_zero_le hst.1
 obtain ⟨n',rfl⟩:=Int.eq_ofNat_of_zero_le hst.2.1
 have hle:i'+n'≤t.size:=by omega
 have hdx:(delX (Sta.d ⟨t,m,u,ro,so,g⟩).t (i':Int) (n':Int)).o=t.extract i' (i'+n'):=by show t.extract _ _=_;congr 1
 have c2:=fun W (hW:Below wX.heap.size wX W)=>BR ((h.rope.later ac).later hW) hle
 have ce:=fun W (hW:Below wX.heap.size wX W) {rb':Nat} {p':Option Addr} {L':List ByteArray} (hR:RopeW W (some ⟨rb',0,none⟩) p' L' (delS t i' n'))=>jP ((h.later ac).later hW) i' (delX (Sta.d ⟨t,m,u,ro,so,g⟩).t i' n').o ⟨#[]⟩ (by have:=h.inv.z;replace this:t.size≤4096:=this;omega) (Nat.zero_le _) da hR
 rw [AR (s:=Sta.d ⟨t,m,u,ro,so,g⟩) h1 dz,hdx] at ce
 obtain ⟨R,hR⟩:∃ R,delD (Sta.d ⟨t,m,u,ro,so,g⟩) (i':Int) (n':Int)=R:=⟨_,rfl⟩
 rw [hR] at ce ⊢
 obtain ⟨Rs,Re⟩:=R
 obtain ⟨old,hold⟩:∃ old,t.extract i' (i'+n')=old:=⟨_,rfl⟩
 rw [hold] at ce c2
 have CE:=hid ce
 have C2:=hid c2
 clear ce c2 hR hdx da dz hst hle hold
 have CS:=hid cs
 clear cs h ac hz h1 hi
 go_enter Tryz.func61,Tryz.ntmps61
 go_wp2_with fail
 clear ah ai aj ak al am an ao aq ar au av aw ax ay az a0 a1 a2 a3 a4 a5 a6 a7
 clear hwX
 refine wp_region_held_drew (S:=(fun W:World=>W.cell? ⟨b,1,none⟩=some (.pointer (some ⟨rb,0,none⟩))∧W.cell? ⟨w.heap.size,0,none⟩=some (.int .i64 k)∧W.cell? ⟨w.heap.size,1,none⟩=some (.int .i64 (i':Int))∧W.cell? ⟨w.heap.size,2,none⟩=some (.int .i64 (n':Int))∧W.cell? ⟨w.heap.size,3,none⟩=some (.string x))) (by kernel_rfl) (FS.out _ (Below.refl _ _).drew) (fun hHeld=>?_)
 refine sqt 0 ?_
 refine sqt 1 ?_
 refine sqt 2 ?_
 refine sqt 3 ?_
 refine sqt 4 ?_
 refine sqt 5 ?_
 refine sqt 6 ?_
 refine sqt 7 ?_
 refine sqr 8 fun K hK=>?_
 go_simp
 (go_at_call 100;refine (CS.out _ (Below.refl _ _).drew).mono ?_;rintro e w1 ⟨rb',p',L',rfl,cq,cr⟩;have aa:Below wX.heap.size wX w1:=(Below.refl _ _).drew.trans cr)
 try go_wp2_with fail
 refine hK.out _ _ ?_ (fun hHeld=>?_)
 ·exact FS.out _ aa
 clear hK K
 try simp only [Act.put,sqp]
 refine sqt 9 ?_
 refine sqt 10 ?_
 refine sqt 11 ?_
 refine sqt 12 ?_
 refine sqt 13 ?_
 refine wpAnyH_done (by kernel_rfl) ?_ _
 have ct:=hid (af.out.onto aa)
 have cu:=hid (ad.out.onto aa)
 have c7:=hid (c4.out.later aa)
 have c8:=hid (c5.out.trans (S':=[]) (.of_below aa) (by simp))
 have c9:=hid (Nat.le_trans c6.out aa.size)
 have ae:=hid aa
 clear cr aa CS
 have cv:=hid cq
 clear cq
 obtain ⟨a8,a9,ba,bb,bc,bd,be,bf,bg,bh,bi,bj,bk,bl,bm,bn⟩:=ct.out.all8
 obtain ⟨bo,bp,bq,br,bs,bu,bv,bw⟩:=cu.out.all4
 go_wp2_with fail
 clear a8 a9 ba bb bc bd be bf bg bh bi bj bk bl bm bn bo bp bq br bs bu bv bw
 refine wp_region_held_drew (S:=(fun W:World=>W.cell? ⟨b,1,none⟩=some (.pointer (some ⟨rb,0,none⟩))∧W.cell? ⟨w.heap.size,0,none⟩=some (.int .i64 k)∧W.cell? ⟨w.heap.size,1,none⟩=some (.int .i64 (i':Int))∧W.cell? ⟨w.heap.size,2,none⟩=some (.int .i64 (n':Int))∧W.cell? ⟨w.heap.size,3,none⟩=some (.string x))) (by kernel_rfl) (FS.out _ ae.out.drew) (fun hHeld=>?_)
 refine sqt 0 ?_
 refine sqt 1 ?_
 refine sqt 2 ?_
 refine sqt 3 ?_
 refine sqt 4 ?_
 refine sqt 5 ?_
 refine sqt 6 ?_
 refine sqt 7 ?_
 refine sqr 8 fun K hK=>?_
 go_simp
 (go_at_call 101;refine (C2.out _ ae.out.drew).mono ?_;rintro e w2 ⟨rfl,cw⟩;have ab:Below w1.heap.size w1 w2:=(Below.refl _ _).drew.trans cw;have cx:=hid (ae.out.trans (ab.mono ae.out.size)))
 try go_wp2_with fail
 refine hK.out _ _ ?_ (fun hHeld=>?_)
 ·exact FS.out _ cx.out
 clear hK K
 try simp only [Act.put,sqp]
 refine sqt 9 ?_
 refine sqt 10 ?_
 refine sqt 11 ?_
 refine sqt 12 ?_
 refine sqt 13 ?_
 refine wpAnyH_done (by kernel_rfl) ?_ _
 have db:=hid (ct.out.onto ab)
 have dc:=hid (cu.out.onto ab)
 have dg:=hid (c7.out.later ab)
 have dd:=hid (c8.out.trans (S':=[]) (.of_below ab) (by simp))
 have dh:=hid (Nat.le_trans c9.out ab.size)
 have de:=hid (cv.out.later ab)
 clear cw ab C2 cv
 obtain ⟨bx,bz,b3,b4,b5,b6,b7,b8,b9,ca,cb,cc,cd,cf,cg,ch⟩:=db.out.all8
 obtain ⟨ci,cj,ck,cl,cm,cn,co,cp⟩:=dc.out.all4
 go_wp2_with fail
 refine (CE.out _ cx.out de.out).mono ?_;rintro e w3 ⟨s2,rb2,p2,L2,rfl,cy,cz,c3⟩
 have HQ:=hid (And.intro cy (And.intro cz c3))
 clear cy cz c3
 clear bx bz b3 b4 b5 b6 b7 b8 b9 ca cb cc cd cf cg ch ci cj ck cl cm cn co cp
 go_wp2
 go_ret
 exact ⟨s2,rb2,p2,L2,rfl,HQ.out.1,HQ.out.2.1,dd.out.trans HQ.out.2.2 (fun x hx=>.inl hx)⟩
end Go.Proofs.YtfiobemeogaaiaaGreat
namespace Go.Proofs.YtfiobemeogaaiaaGreat
open Go.RowKit
set_option linter.unusedVariables false
set_option linter.unusedSimpArgs false
theorem InvS.bare {s:StaD} (h:InvS s) (ho:s.o=false):s.g=[]:=by
 rcases h.go with g|g
 ·exact g
 ·rw [ho] at g;cases g.1
theorem EJ {s:StaD} (h:InvS s) (ho:s.o=false) {k:Nat} (hk:s.u.length=k+1):∃ t',runE s.t (invL s.u[k]!)=(t',0)∧vldB t'.data.toList=true∧t'.size≤4096:=by
 have hu:=h.u
 rw [h.bare ho] at hu
 obtain ⟨hr,-⟩:=cL hk hu
 obtain ⟨t',e,hv,hz,-⟩:=h.runs hr
 exact ⟨t',e,hv,hz⟩
theorem DD {s:StaD} (h:InvS s) {k:Nat} (hk:s.r.length=k+1):∃ t',runE s.t s.r[k]! = (t',0)∧vldB t'.data.toList=true∧t'.size≤4096:=by
 obtain ⟨hr,-⟩:=cL hk h.r
 obtain ⟨t',e,hv,hz,-⟩:=h.runs (st:=s.r[k]!) hr
 exact ⟨t',e,hv,hz⟩
theorem AA {s:StaD} (ho:s.o=false) {k:Nat} (hk:s.u.length=k+1) {t':ByteArray} (hr:runE s.t (invL s.u[k]!)=(t',0)):undoD s=(⟨t',shfL s.m (invL s.u[k]!),s.u.take k,pushL s.r s.u[k]!,false,s.g⟩,0):=by
 unfold undoD
 rw [if_neg (by rw [ho];decide),if_neg (by omega),show s.u.length - 1=k by omega,hr,ho]
theorem AJ {s:StaD} (ho:s.o=false) {k:Nat} (hk:s.r.length=k+1) {t':ByteArray} (hr:runE s.t s.r[k]! = (t',0)):redoD s=(⟨t',shfL s.m s.r[k]!,pushL s.u s.r[k]!,s.r.take k,false,s.g⟩,0):=by
 unfold redoD
 rw [if_neg (by rw [ho];decide),if_neg (by omega),show s.r.length - 1=k by omega,hr,ho]
def fwdL (t:ByteArray) (Q:List (List Edt)):ByteArray:=Q.foldl (fun t st=>(runE t st).1) t
structure MidT (a d:StaD) (Q:List (List Edt)):Prop where
 inv:InvS d
 o:d.o=false
 r:∃ P,d.r=P++Q.reverse
 u:a.u=d.u++Q
 t:fwdL d.t Q=a.t
 n:a.u.length≤16
theorem MidT.start {d:StaD} (h:InvS d) (ho:d.o=false):MidT d d []:=⟨h,ho,⟨d.r,by simp⟩,by simp,rfl,h.ul.1⟩
theorem lA {U:List (List Edt)} {st:List Edt}:(U++[st])[U.length]! = st:=by
 rw [getElem!_pos _ _ (by simp)];simp
theorem pD {R P Q:List (List Edt)} {st:List Edt} (h:R=P++Q) (hq:Q.length<16):∃ P',pushL R st=P'++(Q++[st]):=by
 refine ⟨P.drop (R.length+1 - 16),?_⟩
 subst h
 unfold pushL
 rw [List.append_assoc,List.drop_append_of_le_length]
 rw [List.length_append]
 omega
theorem MidT.undo {a d:StaD} {Q:List (List Edt)} (h:MidT a d Q) (hd:0<d.u.length):(undoD d).2=0∧∃ st,MidT a (undoD d).1 (st::Q)∧d.u.length=(undoD d).1.u.length+1:=by
 obtain ⟨U,st,hu⟩:∃ U st,d.u=U++[st]:=⟨d.u.dropLast,d.u.getLast (List.ne_nil_of_length_pos hd),(List.dropLast_concat_getLast _).symm⟩
 have hl:d.u.length=U.length+1:=by rw [hu];simp
 have hg:d.g=[]:=by
  rcases h.inv.go with e|e
  ·exact e
  ·have:=e.1;rw [h.o] at this;cases this
 have hgo:=h.inv.u
 rw [hg,EL,bZ] at hgo
 have h1:=(cL hl hgo).1
 have hst:d.u[U.length]! = st:=by rw [hu];exact lA
 rw [hst] at h1
 obtain ⟨t',r1,-,-,-,r2⟩:=h.inv.runs h1
 rw [pN] at r2
 have hne:¬ d.u.length=0:=by omega
 have e:undoD d=(⟨t',shfL d.m (invL st),d.u.take U.length,pushL d.r st,d.o,d.g⟩,0):=by
  unfold undoD
  rw [if_neg (by rw [h.o];decide),if_neg hne,show d.u.length - 1=U.length by omega,hst,r1]
 have ht:d.u.take U.length=U:=by rw [hu];simp
 have hi:=oW h.inv
 rw [e] at hi ⊢
 refine ⟨rfl,st,⟨hi,h.o,?_,?_,?_,h.n⟩,by show d.u.length=(d.u.take U.length).length+1;rw [ht];exact hl⟩
 ·obtain ⟨P,hP⟩:=h.r
  have hn:=h.n
  rw [h.u,List.length_append] at hn
  have:=pD (st:=st) hP (by rw [List.length_reverse];omega)
  rw [List.reverse_cons]
  exact this
 ·show a.u=d.u.take U.length++st::Q
  rw [ht,h.u,hu]
  simp
 ·show fwdL t' (st::Q)=a.t
  have:fwdL t' (st::Q)=fwdL (runE t' st).1 Q:=rfl
  rw [this,r2]
  exact h.t
theorem MidT.none {a d:StaD} {Q:List (List Edt)} (h:MidT a d Q) (hd:d.u.length=0):undoD d=(d,10):=by
 unfold undoD
 rw [if_neg (by rw [h.o];decide),if_pos hd]
theorem MidT.redo {a d:StaD} {q:List Edt} {Q:List (List Edt)} (h:MidT a d (q::Q)):(redoD d).2=0∧MidT a (redoD d).1 Q∧(redoD d).1.u.length=d.u.length+1:=by
 obtain ⟨P,hP⟩:=h.r
 rw [List.reverse_cons,← List.append_assoc] at hP
 obtain ⟨R,hR⟩:∃ R,P++Q.reverse=R:=⟨_,rfl⟩
 rw [hR] at hP
 have hl:d.r.length=R.length+1:=by rw [hP];simp
 have hst:d.r[R.length]! = q:=by rw [hP];exact lA
 have hn:=h.n
 rw [h.u,List.length_append,List.length_cons] at hn
 have hp:pushL d.u q=d.u++[q]:=yG (by omega)
 have e:redoD d=(⟨(runE d.t q).1,shfL d.m q,d.u++[q],R,d.o,d.g⟩,0):=by
  unfold redoD
  rw [if_neg (by rw [h.o];decide),if_neg (by omega),show d.r.length - 1=R.length by omega,hst,hp]
  rw [show d.r.take R.length=R by rw [hP];simp]
 have hi:=pI h.inv
 rw [e] at hi ⊢
 refine ⟨rfl,⟨hi,h.o,⟨P,hR.symm⟩,?_,h.t,h.n⟩,by simp⟩
 show a.u=(d.u++[q])++Q
 rw [h.u]
 simp
theorem MidT.whole {a d:StaD} (h:MidT a d []):d.t=a.t∧d.u.length=a.u.length:=⟨h.t,by rw [h.u];simp⟩
theorem pP (s:StaD):(endD s).1.o=false:=by
 unfold endD
 cases h:s.o with
 | false=>rw [if_pos rfl];exact h
 | true=>rw [if_neg (by decide)]
theorem nW {s:StaD} (x:Edt) (ho:s.o=false) (hx:(appE s.t x.p x.o x.n).2=0) (h:InvS s) (hk:okE5 x=true) :
 (editD s x).2=0∧MidT (editD s x).1 (editD s x).1 []∧(undoD (editD s x).1).1.t=s.t∧0<(editD s x).1.u.length:=by
 obtain ⟨t',ht⟩:∃ t',(appE s.t x.p x.o x.n).1=t':=⟨_,rfl⟩
 have hap:appE s.t x.p x.o x.n=(t',0):=by rw [← ht,← hx]
 have hi:=jW h hap hk
 have e:editD s x=(⟨t',shfM s.m (shiftI x.p x.o.size x.n.size),pushL s.u [x],[],s.o,s.g⟩,0):=by
  unfold editD
  rw [if_neg (by rw [ho];simp),ht,ho]
  simp
 rw [e] at hi ⊢
 have hul:=h.ul.1
 have hlen:(pushL s.u [x]).length=min (s.u.length+1) 16:=by
  unfold pushL
  rw [List.length_drop,List.length_append]
  simp
  omega
 have hpos:0<(pushL s.u [x]).length:=by omega
 refine ⟨rfl,MidT.start hi ho,?_,hpos⟩
 have hlast:(pushL s.u [x])[(pushL s.u [x]).length - 1]! = [x]:=by
  obtain ⟨P',hP⟩:=pD (R:=s.u) (P:=s.u) (Q:=[]) (st:=[x]) (by simp) (by decide)
  rw [List.nil_append] at hP
  rw [hP,List.length_append]
  exact lA
 have hb:=(jZ h.v h.z (fT hap)).2.2
 show (undoD ⟨t',_,pushL s.u [x],[],s.o,s.g⟩).1.t=s.t
 unfold undoD
 rw [if_neg (by rw [ho];simp),if_neg (by show ¬ (pushL s.u [x]).length=0;omega)]
 show (runE t' (invL (pushL s.u [x])[(pushL s.u [x]).length - 1]!)).1=s.t
 rw [hlast,hb]
theorem tI {s:StaD} {k i n:Int} {x:ByteArray} (hk:k=1∨k=2) (ho:s.o=false) (h:InvS s) (h0:(doD s k i n x).2=0) :
 (doD s k i n x).1.o=false∧((doD s k i n x).1.t=s.t∨(MidT (doD s k i n x).1 (doD s k i n x).1 []∧(undoD (doD s k i n x).1).1.t=s.t∧0<(doD s k i n x).1.u.length)):=by
 rcases hk with rfl|rfl
 ·have e:doD s 1 i n x=insD s i x:=by unfold doD;rw [if_pos rfl]
  rw [e] at h0 ⊢
  unfold insD at h0 ⊢
  by_cases c1:insE s.t i x≠0
  ·rw [if_pos c1] at h0 ⊢;exact ⟨ho,.inl rfl⟩
  rw [if_neg c1] at h0 ⊢
  by_cases c2:512<x.size
  ·rw [if_pos c2] at h0 ⊢;exact ⟨ho,.inl rfl⟩
  rw [if_neg c2] at h0 ⊢
  by_cases c3:x.size=0
  ·rw [if_pos c3] at h0 ⊢;exact ⟨ho,.inl rfl⟩
  rw [if_neg c3] at h0 ⊢
  have ha:=tH (Decidable.not_not.1 c1)
  have:=nW (insX i x) ho (by rw [ha]) h ((cO _).2 ⟨Nat.zero_le _,by show x.size≤512;omega,.inr (by show 1≤x.size;omega)⟩)
  exact ⟨this.2.1.o,.inr this.2⟩
 ·have e:doD s 2 i n x=delD s i n:=by unfold doD;rw [if_neg (by decide),if_pos rfl]
  rw [e] at h0 ⊢
  unfold delD at h0 ⊢
  by_cases c1:delE s.t i n≠0
  ·rw [if_pos c1] at h0 ⊢;exact ⟨ho,.inl rfl⟩
  rw [if_neg c1] at h0 ⊢
  by_cases c2:512<n
  ·rw [if_pos c2] at h0 ⊢;exact ⟨ho,.inl rfl⟩
  rw [if_neg c2] at h0 ⊢
  by_cases c3:n=0
  ·rw [if_pos c3] at h0 ⊢;exact ⟨ho,.inl rfl⟩
  rw [if_neg c3] at h0 ⊢
  have ha:=tN h.v h.z (Decidable.not_not.1 c1)
  have hsz:=ha.2
  have:=nW (delX s.t i n) ho (by rw [ha.1]) h ((cO _).2 ⟨by show (delX s.t i n).o.size≤512;omega,Nat.zero_le _,.inl (by show 1≤(delX s.t i n).o.size;omega)⟩)
  exact ⟨this.2.1.o,.inr this.2⟩
end Go.Proofs.YtfiobemeogaaiaaGreat
