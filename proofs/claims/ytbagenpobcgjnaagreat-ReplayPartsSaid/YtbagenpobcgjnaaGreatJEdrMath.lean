/-
  Joined: EdrMath, EdrMem, RplMath, RplOps, EdrMath2, RplMem, EdrNow, EdrDev, EdrDev2, EdrDev3, EdrDev4, EdrMath3, EdrRef, EdrRef2, EdrRef3, EdrRef4, EdrRef5.
-/
import Derived.Test.YtbagenpobcgjnaaGreatJStaRight
import Derived.Test.YtbagenpobcgjnaaGreatJWeldOf
import Derived.Test.YtbagenpobcgjnaaGreatJUtfRTake
import Derived.Test.YtbagenpobcgjnaaGreatJStkRef2
import Derived.Test.YtbagenpobcgjnaaGreatJStrs
import Derived.Test.YtbagenpobcgjnaaGreatJMarkDev3
import Derived.Test.YtbagenpobcgjnaaGreatJMarkCat
import Derived.Test.YtbagenpobcgjnaaGreatIter
import Derived.LoopIn
import Derived.OwnWalkIn
import Derived.TacticsInMore
import Derived.StillTailTactics
import Derived.Deep.RegionHeld3
import Derived.Test.YtbagenpobcgjnaaGreatJSq
import Derived.Test.YtbagenpobcgjnaaGreatStepDev2
import Derived.Test.YtbagenpobcgjnaaGreatJOpDev
import Derived.Test.YtbagenpobcgjnaaGreatJEditDev
import Derived.Test.YtbagenpobcgjnaaGreatJStepRef2
import Derived.Deep.AppendLies
import Derived.Test.YtbagenpobcgjnaaGreatJKnotDev3
variable {made o so:Bool} {s t t' x:ByteArray} {i n:Int} {L:List ByteArray} {S S':List Nat} {b k l rb:Nat} {p r:Option Go.Addr} {x0 x1 x2 x3:Go.Value} {w w':Go.World}
namespace Go.Proofs.YtbagenpobcgjnaaGreat
open Go.RowKit
set_option linter.unusedVariables false
set_option linter.unusedSimpArgs false
theorem BN (x:Edt) (r:List Edt):invL (x::r)=invL r++[x.back]:=by unfold invL;rw [List.map_cons,List.reverse_cons]
theorem LE (a b:List Edt):invL (a++b)=invL b++invL a:=by unfold invL;rw [List.map_append,List.reverse_append]
theorem IV (l:List Edt):invL (invL l)=l:=by
 unfold invL
 rw [← List.map_reverse,List.reverse_reverse,List.map_map]
 have:(Edt.back ∘ Edt.back)=id:=by funext x;rfl
 rw [this,List.map_id]
theorem lM {x:Edt} (h:appE t x.p x.o x.n=(s,0)):runE t [x]=(s,0):=by rw [dX h,dJ]
theorem kG {x:Edt} {r:List Edt} (h:runE t (x::r)=(s,0)):∃ u,appE t x.p x.o x.n=(u,0)∧runE u r=(s,0):=by
 obtain ⟨⟨u,e⟩,hu⟩:∃ y,appE t x.p x.o x.n=y:=⟨_,rfl⟩
 by_cases he:e=0
 ·subst he
  rw [dX hu] at h
  exact ⟨u,hu,h⟩
 ·rw [hG hu he] at h
  exact absurd (congrArg Prod.snd h) he
theorem mY {l:List Edt} (h:(runE t l).2=0):runE t l=((runE t l).1,0):=by rw [← h]
theorem uF {l:List Edt} (hv:vldB t.data.toList=true) (ht:t.size≤4096) (h:runE t l=(s,0)):vldB s.data.toList=true∧s.size≤4096∧runE s (invL l)=(t,0):=by
 induction l generalizing t with
 | nil =>
  rw [dJ] at h
  obtain rfl:t=s:=congrArg Prod.fst h
  exact ⟨hv,ht,dJ _⟩
 | cons x r ih =>
  obtain ⟨u,hu,hr⟩:=kG h
  obtain ⟨hb,huv⟩:=mR hv ht hu
  obtain ⟨h1,h2,h3⟩:=ih huv (cE hu) hr
  refine ⟨h1,h2,?_⟩
  rw [BN,tE,h3,if_pos rfl]
  exact lM (x:=x.back) hb
theorem IP {l:List Edt} (h:runE t l=(s,0)) (k:Nat):∃ u,runE t (l.take k)=(u,0)∧runE u (l.drop k)=(s,0):=by
 have e:=tE t (l.take k) (l.drop k)
 rw [List.take_append_drop,h] at e
 by_cases g:(runE t (l.take k)).2=0
 ·rw [if_pos g] at e
  exact ⟨_,mY g,e.symm⟩
 ·rw [if_neg g] at e
  exact absurd (congrArg Prod.snd e).symm g
theorem oG {l:List Edt} (ht:t.size≤4096) (h:runE t l=(s,0)):∀ x∈l,0≤x.p∧x.p≤4096:=by
 induction l generalizing t with
 | nil=>exact fun x hx=>absurd hx (by simp)
 | cons y r ih =>
  obtain ⟨u,hu,hr⟩:=kG h
  intro x hx
  rcases List.mem_cons.1 hx with rfl|hx
  ·obtain ⟨k,e,hk,-⟩:=kZ hu
   omega
  ·exact ih (cE hu) hr x hx
def shfL (m:List Mrk) (l:List Edt):List Mrk:=l.foldl (fun m x=>shfM m (shiftI x.p x.o.size x.n.size)) m
theorem qD (m:List Mrk) (x:Edt) (l:List Edt):shfL m (x::l)=shfL (shfM m (shiftI x.p x.o.size x.n.size)) l:=rfl
theorem FQ (m:List Mrk) (l:List Edt) (k:Nat) (hk:k<l.length):shfL m (l.take (k+1))=shfM (shfL m (l.take k)) (shiftI (l[k]!).p (l[k]!).o.size (l[k]!).n.size):=by
 unfold shfL
 rw [List.take_add_one,List.getElem?_eq_getElem hk,← eget hk,List.foldl_append]
 rfl
theorem JM (m:List Mrk) (l:List Edt):(shfL m l).length=m.length:=by
 induction l generalizing m with
 | nil=>rfl
 | cons x r ih=>rw [qD,ih,bT]
theorem jR {x:Mrk} (h:okM t x=true):markB x.name.data.toList=true∧edgeB t.data.toList x.p=true:=by
 unfold okM at h
 simpa using h
theorem JP {p:Int} (h:edgeB t.data.toList p=true):0≤p∧p≤t.size:=by
 have:=lT h
 have e:t.data.toList.length=t.size:=by simp
 omega
theorem LO {l:List Mrk} (h:rightM l t=true):∀ x∈l,0≤x.p∧x.p≤t.size:=fun x hx=>by
 obtain ⟨i,hi,rfl⟩:=List.getElem_of_mem hx
 have:=((aW l t).1 h).1 i hi
 rw [mget hi] at this
 exact JP (jR this).2
theorem mD {l:List Mrk} {o n:ByteArray} {p:Int} (hv:vldB t.data.toList=true) (h:appE t p o n=(s,0)) (hr:rightM l t=true):rightM (shfM l (shiftI p o.size n.size)) s=true:=by
 obtain ⟨h1,h2,h3⟩:=(aW l t).1 hr
 rw [aW]
 refine ⟨fun i hi=>?_,by rw [bT];exact h2,by rw [FV];exact h3⟩
 rw [bT] at hi
 rw [gG l _ i hi]
 have hk:=jR (h1 i hi)
 unfold okM
 rw [show markB (l[i]!).name.data.toList=true from hk.1,Bool.true_and]
 exact AM hv h hk.2
theorem jU {l:List Edt} {m:List Mrk} (hv:vldB t.data.toList=true) (ht:t.size≤4096) (h:runE t l=(s,0)) (hr:rightM m t=true):rightM (shfL m l) s=true:=by
 induction l generalizing t m with
 | nil =>
  rw [dJ] at h
  obtain rfl:t=s:=congrArg Prod.fst h
  exact hr
 | cons x r ih =>
  obtain ⟨u,hu,h2⟩:=kG h
  rw [qD]
  exact ih (mR hv ht hu).2 (cE hu) h2 (mD hv hu hr)
theorem BJ {f:List Edt→List Edt} {L:List (List Edt)} (h:goesE f t L=true) (k:Nat):goesE f t (L.take k)=true:=by
 induction L generalizing t k with
 | nil=>rw [List.take_nil];rfl
 | cons x r ih =>
  cases k with
  | zero=>rw [List.take_zero];rfl
  | succ k =>
   rw [List.take_succ_cons]
   cases hx:rightS t (f x)
   ·rw [iL hx] at h;cases h
   ·rw [gE hx] at h ⊢
    exact ih h k
theorem dH {f:List Edt→List Edt} {L:List (List Edt)}:goes16 f t L=true↔goesE f t L.reverse=true∧L.length≤16:=by unfold goes16;simp
theorem fL (f:List Edt→List Edt) (t:ByteArray):goes16 f t []=true:=rfl
theorem eL {f:List Edt→List Edt} {L:List (List Edt)} {st:List Edt} (hs:rightS t' (f st)=true) (ht:(runE t' (f st)).1=t) (h:goes16 f t L=true):goes16 f t' (pushL L st)=true:=by
 obtain ⟨h1,h2⟩:=dH.1 h
 rw [dH]
 refine ⟨?_,by rw [EE];omega⟩
 have e:(pushL L st).reverse=st::(L.reverse.take (min L.length 15)):=by
  unfold pushL
  rw [List.reverse_drop,List.reverse_append,List.reverse_singleton,List.singleton_append,List.length_append,List.length_singleton,show L.length+1 - (L.length+1 - 16)=min L.length 15+1 by omega,List.take_succ_cons]
 rw [e,gE hs,ht]
 exact BJ h1 _
theorem eK {f:List Edt→List Edt} {L:List (List Edt)} (hk:L.length=k+1) (h:goes16 f t L=true):rightS t (f L[k]!)=true∧goes16 f (runE t (f L[k]!)).1 (L.take k)=true:=by
 obtain ⟨h1,h2⟩:=dH.1 h
 have e:=tF L k (by omega)
 rw [← hk,List.take_length] at e
 rw [e] at h1
 cases hx:rightS t (f L[k]!)
 ·rw [iL hx] at h1;cases h1
 ·rw [gE hx] at h1
  exact ⟨rfl,dH.2 ⟨h1,by rw [List.length_take];omega⟩⟩
theorem dG {l:List Edt}:rightS t l=true↔1≤l.length∧l.length≤32∧(runE t l).2=0:=by
 unfold rightS
 simp [and_assoc]
theorem jF {L:List (List Edt)} {st x:List Edt} (h:x∈pushL L st):x∈L∨x=st:=by
 unfold pushL at h
 have:=List.mem_of_mem_drop h
 simpa using this
theorem fR {L:List (List Edt)} (h:k<L.length):L[k]! ∈ L:=by rw [getElem!_pos L k h];exact List.getElem_mem h
structure InvS (s:StaD):Prop where
 v:vldB s.t.data.toList=true
 z:s.t.size≤4096
 m:rightM s.m s.t=true
 r:goes16 id s.t s.r=true
 go:s.g=[]∨(s.o=true∧s.r=[])
 gl:s.g.length≤32
 gr:(runE s.t (invL s.g)).2=0
 u:goes16 invL (runE s.t (invL s.g)).1 s.u=true
 ue:∀ l∈s.u,∀ x∈l,okE5 x=true
 re:∀ l∈s.r,∀ x∈l,okE5 x=true
 ge:∀ x∈s.g,okE5 x=true
theorem iH {l:List EPc}:smallE l=true↔∀ x∈lsP l,∀ y∈x,okE5 y=true:=by
 unfold smallE lsP
 simp only [List.all_eq_true,List.mem_map]
 exact ⟨fun h x ⟨y,hy,e⟩ z hz=>h y hy z (by rw [e];exact hz),fun h y hy z hz=>h y.l ⟨y,hy,rfl⟩ z hz⟩
theorem lU (s:Sta):rightP s=true↔InvS s.d:=by
 unfold rightP mayT lastB
 rw [yR]
 have hg:smallE [s.g]=true↔∀ x∈s.g.l,okE5 x=true:=by rw [iH];simp [lsP]
 by_cases g0:s.g.l.length=0
 ·have e:s.g.l=[]:=List.eq_nil_of_length_eq_zero g0
  rw [if_pos g0]
  simp only [Bool.and_eq_true,decide_eq_true_eq,iH]
  constructor
  ·rintro ⟨⟨h1,h2⟩,h3,h4,h5,h6,h7,h8⟩
   exact ⟨h2,h1,h3,h4,.inl e,by show s.g.l.length≤32;omega,by show (runE s.t (invL s.g.l)).2=0;rw [e];rfl,by show goes16 invL (runE s.t (invL s.g.l)).1 _=true;rw [e];exact h5,h6,h7,by show ∀ x∈s.g.l,_;rw [e];simp⟩
  ·intro h
   have hu:goes16 invL (runE s.t (invL s.g.l)).1 (lsP s.u.l)=true:=h.u
   rw [e] at hu
   exact ⟨⟨h.z,h.v⟩,h.m,h.r,hu,h.ue,h.re,by simp [lsP,e]⟩
 ·rw [if_neg g0]
  simp only [Bool.and_eq_true,decide_eq_true_eq,iH,dG,aF]
  have aa:(∀ x∈lsP [s.g],∀ y∈x,okE5 y=true)↔∀ x∈s.g.l,okE5 x=true:=by simp [lsP]
  rw [aa]
  constructor
  ·rintro ⟨⟨h1,h2⟩,h3,h4,h5,h6,⟨h7,h8,h9⟩,h10,h11,h12,h13⟩
   exact ⟨h2,h1,h3,h4,.inr ⟨h5,by show lsP s.r.l=[];rw [List.eq_nil_of_length_eq_zero h6];rfl⟩,h8,h9,h10,h11,h12,h13⟩
  ·intro h
   have hgo:=h.go
   rcases hgo with hgo|⟨h1,h2⟩
   ·exact absurd (congrArg List.length hgo) g0
   ·have h2:lsP s.r.l=[]:=h2
    have h2:=congrArg List.length h2
    rw [aG] at h2
    exact ⟨⟨h.z,h.v⟩,h.m,h.r,h1,h2,⟨by omega,h.gl,h.gr⟩,h.u,h.ue,h.re,h.ge⟩
def editD (s:StaD) (x:Edt):StaD×Int:=
 if s.o=true∧32≤s.g.length then (s,9)
 else (⟨(appE s.t x.p x.o x.n).1,shfM s.m (shiftI x.p x.o.size x.n.size),if s.o=true then s.u else pushL s.u [x],[],s.o,if s.o=true then s.g++[x] else s.g⟩,0)
def insX (i:Int) (x:ByteArray):Edt:=⟨i,⟨#[]⟩,x⟩
def delX (t:ByteArray) (i n:Int):Edt:=⟨i,t.extract i.toNat (i+n).toNat,⟨#[]⟩⟩
def insD (s:StaD) (i:Int) (x:ByteArray):StaD×Int:=
 if insE s.t i x≠0 then (s,insE s.t i x) else if 512<x.size then (s,6) else if x.size=0 then (s,0) else editD s (insX i x)
def delD (s:StaD) (i n:Int):StaD×Int:=
 if delE s.t i n≠0 then (s,delE s.t i n) else if 512<n then (s,6) else if n=0 then (s,0) else editD s (delX s.t i n)
def withMk (s:StaD) (r:List Mrk×Int):StaD×Int:=(if r.2=0 then ⟨s.t,r.1,s.u,s.r,s.o,s.g⟩ else s,r.2)
def markD (s:StaD) (i:Int) (x:ByteArray):StaD×Int:=
 if markB x.data.toList=false then (s,7) else if i<0∨(s.t.size:Int)<i then (s,3) else if edgeB s.t.data.toList i=false then (s,4) else withMk s (setM s.m ⟨x,i⟩)
def unmarkD (s:StaD) (x:ByteArray):StaD×Int:=withMk s (drpM s.m x)
def undoD (s:StaD):StaD×Int:=
 if s.o=true then (s,11) else if s.u.length=0 then (s,10)
 else (⟨(runE s.t (invL s.u[s.u.length - 1]!)).1,shfL s.m (invL s.u[s.u.length - 1]!),s.u.take (s.u.length - 1),pushL s.r s.u[s.u.length - 1]!,s.o,s.g⟩,0)
def redoD (s:StaD):StaD×Int:=
 if s.o=true then (s,11) else if s.r.length=0 then (s,10)
 else (⟨(runE s.t s.r[s.r.length - 1]!).1,shfL s.m s.r[s.r.length - 1]!,pushL s.u s.r[s.r.length - 1]!,s.r.take (s.r.length - 1),s.o,s.g⟩,0)
def beginD (s:StaD):StaD×Int:=if s.o=true then (s,11) else (⟨s.t,s.m,s.u,s.r,true,s.g⟩,0)
def endD (s:StaD):StaD×Int:=if s.o=false then (s,11) else (⟨s.t,s.m,if s.g.length=0 then s.u else pushL s.u s.g,s.r,false,[]⟩,0)
def doD (s:StaD) (k i n:Int) (x:ByteArray):StaD×Int:=
 if k=1 then insD s i x else if k=2 then delD s i n else if k=3 then markD s i x else if k=4 then unmarkD s x
 else if k=5 then undoD s else if k=6 then redoD s else if k=7 then beginD s else if k=8 then endD s else (s,2)
theorem xP (h:insE t i x=0):appE t (insX i x).p (insX i x).o (insX i x).n=(insS t i x,0):=by
 obtain ⟨h1,h2,h3,h4⟩:=FO h
 obtain ⟨g1,-,g3⟩:=dC.1 h1
 obtain ⟨k,rfl⟩:=Int.eq_ofNat_of_zero_le g1
 have hv:vldB (⟨#[]⟩:ByteArray).data.toList=true:=by decide
 show appE t k ⟨#[]⟩ x=_
 have hs:(⟨#[]⟩:ByteArray).size=0:=rfl
 rw [hO (by omega) (by
  have:t.extract k (k+(⟨#[]⟩:ByteArray).size)=⟨#[]⟩:=by
   apply aI
   rw [aC,hs]
   simp
  exact this) h2 (by rw [hs];exact h2) hv h3 (by rw [hs];omega)]
 unfold insS
 rw [if_pos h,hs]
 rfl
theorem MM {a:Nat} (hv:vldB t.data.toList=true) (hab:a≤b) (hb:b≤t.size) (ha:edgeB t.data.toList a=true) (hb2:edgeB t.data.toList b=true):vldB (t.extract a b).data.toList=true:=by
 rw [bC] at hv ⊢
 rw [bL] at ha hb2
 rw [aC]
 have h1:=(fU _ b hv hb2).1
 have e:(t.data.toList.take b).drop a=(t.data.toList.drop a).take (b - a):=by rw [List.drop_take]
 rw [← e]
 refine (fU _ a h1 ?_).2
 have hl:t.data.toList.length=t.size:=by simp
 rcases Nat.lt_or_ge a b with g|g
 ·rcases ha with h|h|⟨h,hc⟩
  ·exact .inl h
  ·omega
  ·refine .inr (.inr ⟨by rw [List.length_take];omega,?_⟩)
   have:=aV (t.data.toList.take b) (t.data.toList.drop b) a (by rw [List.length_take];omega)
   rw [List.take_append_drop] at this
   rw [← this]
   exact hc
 ·exact .inr (.inl (by rw [List.length_take];omega))
theorem xH (hv:vldB t.data.toList=true) (ht:t.size≤4096) (h:delE t i n=0):appE t (delX t i n).p (delX t i n).o (delX t i n).n=(delS t i n,0)∧((delX t i n).o.size:Int)=n:=by
 obtain ⟨h1,h2,h3⟩:=kV h
 obtain ⟨g1,g2,g3⟩:=dC.1 h1
 obtain ⟨k,rfl⟩:=Int.eq_ofNat_of_zero_le g1
 obtain ⟨m,rfl⟩:=Int.eq_ofNat_of_zero_le g2
 have e1:((k:Int)+(m:Int)).toNat=k+m:=by omega
 have e3:((k:Int)+(m:Int))=((k+m:Nat):Int):=by omega
 have hs:(t.extract k (k+m)).size=m:=by rw [ByteArray.size_extract];omega
 have hx:delX t k m=⟨k,t.extract k (k+m),⟨#[]⟩⟩:=by unfold delX;rw [e1,Int.toNat_natCast]
 rw [hx]
 rw [e3] at h3
 refine ⟨?_,by show ((t.extract k (k+m)).size:Int)=m;rw [hs]⟩
 show appE t k (t.extract k (k+m)) ⟨#[]⟩=_
 rw [hO (by omega) (by rw [hs]) h2 (by rw [hs];exact h3) (MM hv (by omega) (by omega) h2 h3) (by decide) (by rw [hs];show ¬ 4096+m<t.size+0;omega),hs]
 unfold delS
 rw [if_pos h,e1]
 congr 1
 apply aI
 simp
theorem InvS.runs {s:StaD} (h:InvS s) {st:List Edt} (hr:rightS s.t st=true):∃ t',runE s.t st=(t',0)∧vldB t'.data.toList=true∧t'.size≤4096∧rightS t' (invL st)=true∧(runE t' (invL st)).1=s.t:=by
 obtain ⟨h1,h2,h3⟩:=dG.1 hr
 obtain ⟨a,b,c⟩:=uF h.v h.z (mY h3)
 exact ⟨_,mY h3,a,b,dG.2 ⟨by rw [aF];exact h1,by rw [aF];exact h2,by rw [c]⟩,by rw [c]⟩
theorem jH {s:StaD} {x:Edt} (h:InvS s) (hx:appE s.t x.p x.o x.n=(t',0)) (ho:okE5 x=true):InvS (editD s x).1:=by
 unfold editD
 by_cases hc:s.o=true∧32≤s.g.length
 ·rw [if_pos hc];exact h
 rw [if_neg hc,hx]
 obtain ⟨hb,hv⟩:=mR h.v h.z hx
 have hm:=mD h.v hx h.m
 by_cases hp:s.o=true
 ·have hgr:runE t' (invL (s.g++[x]))=runE s.t (invL s.g):=by
   rw [LE]
   exact dX (x:=x.back) hb
  refine ⟨hv,cE hx,hm,fL _ _,.inr ⟨hp,rfl⟩,?_,?_,?_,?_,fun l hl=>absurd hl (by simp),?_⟩
  ·show (if s.o=true then s.g++[x] else s.g).length≤32
   rw [if_pos hp,List.length_append,List.length_singleton]
   have:¬ 32≤s.g.length:=fun g=>hc ⟨hp,g⟩
   omega
  ·show (runE t' (invL (if s.o=true then s.g++[x] else s.g))).2=0
   rw [if_pos hp,hgr]
   exact h.gr
  ·show goes16 invL (runE t' (invL (if s.o=true then s.g++[x] else s.g))).1 (if s.o=true then s.u else pushL s.u [x])=true
   rw [if_pos hp,if_pos hp,hgr]
   exact h.u
  ·show ∀ l∈(if s.o=true then s.u else pushL s.u [x]),_
   rw [if_pos hp]
   exact h.ue
  ·show ∀ y∈(if s.o=true then s.g++[x] else s.g),_
   rw [if_pos hp]
   intro y hy
   rcases List.mem_append.1 hy with hy|hy
   ·exact h.ge y hy
   ·rw [List.mem_singleton.1 hy];exact ho
 ·have hg:s.g=[]:=by
   rcases h.go with g|g
   ·exact g
   ·exact absurd g.1 hp
  have hu:=h.u
  rw [hg] at hu
  refine ⟨hv,cE hx,hm,fL _ _,.inl (by show (if s.o=true then s.g++[x] else s.g)=[];rw [if_neg hp,hg]),?_,?_,?_,?_,fun l hl=>absurd hl (by simp),?_⟩
  ·show (if s.o=true then s.g++[x] else s.g).length≤32
   rw [if_neg hp];exact h.gl
  ·show (runE t' (invL (if s.o=true then s.g++[x] else s.g))).2=0
   rw [if_neg hp,hg]
   rfl
  ·show goes16 invL (runE t' (invL (if s.o=true then s.g++[x] else s.g))).1 (if s.o=true then s.u else pushL s.u [x])=true
   rw [if_neg hp,if_neg hp,hg]
   have aa:runE t' (invL [x])=(s.t,0):=lM (x:=x.back) hb
   exact eL (t:=s.t) (dG.2 ⟨by rw [aF];exact Nat.le_refl _,by rw [aF];simp,by show (runE t' (invL [x])).2=0;rw [aa]⟩) (by show (runE t' (invL [x])).1=s.t;rw [aa]) hu
  ·show ∀ l∈(if s.o=true then s.u else pushL s.u [x]),_
   rw [if_neg hp]
   intro l hl y hy
   rcases jF hl with g|g
   ·exact h.ue l g y hy
   ·rw [g] at hy;rw [List.mem_singleton.1 hy];exact ho
  ·show ∀ y∈(if s.o=true then s.g++[x] else s.g),_
   rw [if_neg hp];exact h.ge
theorem MO {s:StaD} (h:InvS s) (i:Int) (x:ByteArray):InvS (insD s i x).1:=by
 unfold insD
 split
 ·exact h
 rename_i h1
 split
 ·exact h
 split
 ·exact h
 exact jH h (xP (by omega)) ((dK _).2 ⟨Nat.zero_le _,by show x.size≤512;omega,.inr (by show 1≤x.size;omega)⟩)
theorem MN {s:StaD} (h:InvS s) (i n:Int):InvS (delD s i n).1:=by
 unfold delD
 split
 ·exact h
 rename_i h1
 split
 ·exact h
 split
 ·exact h
 obtain ⟨h2,h3⟩:=xH h.v h.z (show delE s.t i n=0 by omega)
 have h4:=(dC.1 (kV (show delE s.t i n=0 by omega)).1).2.1
 exact jH h h2 ((dK _).2 ⟨by omega,Nat.zero_le _,.inl (by omega)⟩)
theorem gK {s:StaD} (h:InvS s) {l:List Mrk} (hl:rightM l s.t=true):InvS ⟨s.t,l,s.u,s.r,s.o,s.g⟩:=⟨h.v,h.z,hl,h.r,h.go,h.gl,h.gr,h.u,h.ue,h.re,h.ge⟩
theorem sK {s:StaD} (h:InvS s):InvS (undoD s).1:=by
 unfold undoD
 by_cases ho:s.o=true
 ·rw [if_pos ho];exact h
 rw [if_neg ho]
 by_cases hl:s.u.length=0
 ·rw [if_pos hl];exact h
 rw [if_neg hl]
 have hg:s.g=[]:=by
  rcases h.go with g|g
  ·exact g
  ·exact absurd g.1 ho
 have hu:=h.u
 rw [hg] at hu
 obtain ⟨k,hk⟩:∃ k,s.u.length=k+1:=⟨s.u.length - 1,by omega⟩
 rw [show s.u.length - 1=k by omega]
 obtain ⟨hr,hrest⟩:=eK hk hu
 obtain ⟨t',e,hv,hz,hb,hbt⟩:=h.runs hr
 rw [IV] at hb hbt
 replace hrest:goes16 invL (runE s.t (invL s.u[k]!)).1 (s.u.take k)=true:=hrest
 rw [e] at hrest ⊢
 have hm:=h.ue _ (fR (L:=s.u) (k:=k) (by omega))
 refine ⟨hv,hz,jU h.v h.z e h.m,eL (f:=id) hb hbt h.r,.inl hg,h.gl,?_,?_,fun l hl=>h.ue l (List.mem_of_mem_take hl),fun l hl=>?_,h.ge⟩
 ·show (runE t' (invL s.g)).2=0
  rw [hg];rfl
 ·show goes16 invL (runE t' (invL s.g)).1 _=true
  rw [hg];exact hrest
 ·rcases jF hl with g|g
  ·exact h.re l g
  ·rw [g];exact hm
theorem uA {s:StaD} (h:InvS s):InvS (redoD s).1:=by
 unfold redoD
 by_cases ho:s.o=true
 ·rw [if_pos ho];exact h
 rw [if_neg ho]
 by_cases hl:s.r.length=0
 ·rw [if_pos hl];exact h
 rw [if_neg hl]
 have hg:s.g=[]:=by
  rcases h.go with g|g
  ·exact g
  ·exact absurd g.1 ho
 have hu:=h.u
 rw [hg] at hu
 obtain ⟨k,hk⟩:∃ k,s.r.length=k+1:=⟨s.r.length - 1,by omega⟩
 rw [show s.r.length - 1=k by omega]
 obtain ⟨hr,hrest⟩:=eK hk h.r
 obtain ⟨t',e,hv,hz,hb,hbt⟩:=h.runs (st:=s.r[k]!) hr
 replace hrest:goes16 id (runE s.t s.r[k]!).1 (s.r.take k)=true:=hrest
 rw [e] at hrest ⊢
 have hm:=h.re _ (fR (L:=s.r) (k:=k) (by omega))
 refine ⟨hv,hz,jU h.v h.z e h.m,hrest,.inl hg,h.gl,?_,?_,fun l hl=>?_,fun l hl=>h.re l (List.mem_of_mem_take hl),h.ge⟩
 ·show (runE t' (invL s.g)).2=0
  rw [hg];rfl
 ·show goes16 invL (runE t' (invL s.g)).1 _=true
  rw [hg];exact eL (f:=invL) hb hbt hu
 ·rcases jF hl with g|g
  ·exact h.ue l g
  ·rw [g];exact hm
theorem pO {s:StaD} (h:InvS s):InvS (beginD s).1:=by
 unfold beginD
 by_cases ho:s.o=true
 ·rw [if_pos ho];exact h
 rw [if_neg ho]
 have hg:s.g=[]:=by
  rcases h.go with g|g
  ·exact g
  ·exact absurd g.1 ho
 exact ⟨h.v,h.z,h.m,h.r,.inl hg,h.gl,h.gr,h.u,h.ue,h.re,h.ge⟩
theorem pK {s:StaD} (h:InvS s):InvS (endD s).1:=by
 unfold endD
 by_cases ho:s.o=false
 ·rw [if_pos ho];exact h
 rw [if_neg ho]
 refine ⟨h.v,h.z,h.m,h.r,.inl rfl,Nat.zero_le _,rfl,?_,?_,h.re,fun x hx=>absurd hx (by simp)⟩
 ·show goes16 invL s.t (if s.g.length=0 then s.u else pushL s.u s.g)=true
  by_cases hg:s.g.length=0
  ·rw [if_pos hg]
   have e:s.g=[]:=List.eq_nil_of_length_eq_zero hg
   have hu:=h.u
   rw [e] at hu
   exact hu
  ·rw [if_neg hg]
   exact eL (f:=invL) (dG.2 ⟨by rw [aF];omega,by rw [aF];exact h.gl,h.gr⟩) rfl h.u
 ·show ∀ l∈(if s.g.length=0 then s.u else pushL s.u s.g),_
  by_cases hg:s.g.length=0
  ·rw [if_pos hg];exact h.ue
  ·rw [if_neg hg]
   intro l hl
   rcases jF hl with g|g
   ·exact h.ue l g
   ·rw [g];exact h.ge
theorem ED {l:List Mrk}:riseM l=true↔l.Pairwise (fun a b=>ltN a.name b.name):=by
 rw [List.pairwise_iff_getElem]
 constructor
 ·intro h i j hi hj hij
  have:=iC h hij hj
  rwa [mget hi,mget hj] at this
 ·intro h
  refine (gS l).2 fun i hi=>(eF _ _).2 ?_
  rw [mget hi,mget (show i<l.length by omega)]
  exact h i (i+1) (by omega) hi (Nat.lt_succ_self i)
theorem dV {l:List Mrk}:rightM l t=true↔(∀ y∈l,okM t y=true)∧l.length≤16∧l.Pairwise (fun a b=>ltN a.name b.name):=by
 rw [aW,ED]
 constructor
 ·rintro ⟨h1,h2,h3⟩
  refine ⟨fun y hy=>?_,h2,h3⟩
  obtain ⟨i,hi,rfl⟩:=List.getElem_of_mem hy
  have:=h1 i hi
  rwa [mget hi] at this
 ·rintro ⟨h1,h2,h3⟩
  exact ⟨fun i hi=>by rw [mget hi];exact h1 _ (List.getElem_mem hi),h2,h3⟩
theorem FW {a b:ByteArray} (h:¬ ltN b a) (hn:¬ a=b):ltN a b:=by
 unfold ltN at h ⊢
 rcases Decidable.em (a.data.toList<b.data.toList) with g|g
 ·exact g
 ·refine absurd ?_ hn
  have:=List.le_antisymm (List.not_lt.1 h) (List.not_lt.1 g)
  exact ByteArray.ext (Array.toList_inj.1 this)
theorem AY {l:List Mrk} (h:rightM l t=true) (s:ByteArray):rightM (dropM l s) t=true:=by
 rw [dV] at h ⊢
 obtain ⟨h1,h2,h3⟩:=h
 exact ⟨fun y hy=>h1 y (List.mem_filter.1 hy).1,Nat.le_trans (FL l s) h2,h3.filter _⟩
theorem pX {l:List Mrk} (h:rightM l t=true) (s:ByteArray) (ho:(drpM l s).2=0):rightM (drpM l s).1 t=true:=by
 unfold drpM at ho ⊢
 split
 ·exact AY h s
 ·rename_i hc
  rw [if_neg hc] at ho
  cases ho
theorem uN {R:Mrk→Mrk→Prop} {a b:List Mrk} {x:Mrk} (h:(a++b).Pairwise R) (ha:∀ y∈a,R y x) (hb:∀ y∈b,R x y):(a++[x]++b).Pairwise R:=by
 rw [List.pairwise_append] at h
 rw [List.append_assoc,List.pairwise_append]
 refine ⟨h.1,?_,?_⟩
 ·rw [List.singleton_append,List.pairwise_cons]
  exact ⟨hb,h.2.1⟩
 ·intro y hy z hz
  rw [List.singleton_append] at hz
  rcases List.mem_cons.1 hz with rfl|hz
  ·exact ha y hy
  ·exact h.2.2 y hy z hz
theorem qI {l:List Mrk} {x:Mrk} (h:rightM l t=true) (hx:edgeB t.data.toList x.p=true) (ho:(setM l x).2=0):rightM (setM l x).1 t=true:=by
 have hri:=((aW l t).1 h).2.2
 obtain ⟨h1,h2,h3⟩:=dV.1 h
 unfold setM at ho ⊢
 by_cases c1:markB x.name.data.toList=false
 ·rw [if_pos c1] at ho;cases ho
 rw [if_neg c1] at ho ⊢
 have hok:okM t x=true:=by
  unfold okM
  rw [bV c1,hx]
  rfl
 by_cases c2:l.findIdx (nmB x.name)<l.length
 ·rw [if_pos c2]
  show rightM (withM (dropM l x.name) x) t=true
  rw [sX hri c2]
  obtain ⟨i,he⟩:∃ i,l.findIdx (nmB x.name)=i:=⟨_,rfl⟩
  have hn:=oP c2
  rw [he] at c2 hn ⊢
  have hn':(l[i]!).name=x.name:=of_decide_eq_true hn
  rw [mget c2] at hn'
  have e:l=l.take i++l[i]::l.drop (i+1):=by simp
  rw [e,List.pairwise_append,List.pairwise_cons] at h3
  obtain ⟨p1,⟨p2,p3⟩,p4⟩:=h3
  rw [dV]
  refine ⟨fun y hy=>?_,?_,?_⟩
  ·rw [List.append_assoc,List.mem_append,List.singleton_append,List.mem_cons] at hy
   rcases hy with hy|rfl|hy
   ·exact h1 y (List.mem_of_mem_take hy)
   ·exact hok
   ·exact h1 y (List.mem_of_mem_drop hy)
  ·rw [List.length_append,List.length_append,List.length_take,List.length_drop,List.length_singleton]
   omega
  ·refine uN ?_ (fun y hy=>?_) (fun y hy=>?_)
   ·rw [List.pairwise_append]
    exact ⟨p1,p3,fun y hy z hz=>p4 y hy z (List.mem_cons_of_mem _ hz)⟩
   ·have:=p4 y hy l[i] (List.mem_cons_self ..)
    rwa [hn'] at this
   ·have:=p2 y hy
    rwa [hn'] at this
 ·rw [if_neg c2] at ho ⊢
  by_cases c3:16≤l.length
  ·rw [if_pos c3] at ho;cases ho
  rw [if_neg c3]
  show rightM (withM l x) t=true
  unfold withM
  obtain ⟨i,he⟩:∃ i,l.findIdx (gtB x.name)=i:=⟨_,rfl⟩
  have hle:=nT l (gtB x.name)
  have ha:=fun j=>kI (l:=l) (f:=gtB x.name) (j:=j)
  have hat:=oP (l:=l) (f:=gtB x.name)
  have hnn:∀ j,j<l.length→¬ (l[j]!).name=x.name:=fun j hj g=>by
   have h4:l.findIdx (nmB x.name)=l.length:=Nat.le_antisymm (nT _ _) (Nat.not_lt.1 c2)
   have:=kI (l:=l) (f:=nmB x.name) (j:=j) (by omega)
   unfold nmB at this
   exact of_decide_eq_false this g
  rw [he] at hle ha hat ⊢
  rw [dV]
  unfold putM
  have e:l=l.take i++l.drop i:=(List.take_append_drop i l).symm
  refine ⟨fun y hy=>?_,?_,?_⟩
  ·rw [List.append_assoc,List.mem_append,List.singleton_append,List.mem_cons] at hy
   rcases hy with hy|rfl|hy
   ·exact h1 y (List.mem_of_mem_take hy)
   ·exact hok
   ·exact h1 y (List.mem_of_mem_drop hy)
  ·rw [List.length_append,List.length_append,List.length_take,List.length_drop,List.length_singleton]
   omega
  ·refine uN (by rw [← e];exact h3) (fun y hy=>?_) (fun y hy=>?_)
   ·obtain ⟨j,hj,rfl⟩:=List.getElem_of_mem hy
    rw [List.length_take] at hj
    rw [List.getElem_take]
    have g1:=ha j (by omega)
    have g2:=hnn j (by omega)
    rw [mget (by omega)] at g1 g2
    exact FW (fun g=>by rw [(lK _ _).2 g] at g1;cases g1) g2
   ·obtain ⟨j,hj,rfl⟩:=List.getElem_of_mem hy
    rw [List.length_drop] at hj
    rw [List.getElem_drop]
    have hil:i<l.length:=by omega
    have g1:=(lK _ _).1 (hat hil)
    rcases Nat.eq_zero_or_pos j with rfl|aa
    ·rw [mget hil] at g1
     exact g1
    ·have g2:=iC hri (show i<i+j by omega) (by omega)
     rw [mget (show i+j<l.length by omega)] at g2
     exact lC g1 g2
theorem IL {s:StaD} (h:InvS s) (i:Int) (x:ByteArray):InvS (markD s i x).1:=by
 unfold markD
 split
 ·exact h
 split
 ·exact h
 split
 ·exact h
 rename_i he
 unfold withMk
 by_cases ho:(setM s.m ⟨x,i⟩).2=0
 ·show InvS (if (setM s.m ⟨x,i⟩).2=0 then _ else _)
  rw [if_pos ho]
  exact gK h (qI h.m (bV he) ho)
 ·show InvS (if (setM s.m ⟨x,i⟩).2=0 then _ else _)
  rw [if_neg ho]
  exact h
theorem AW {s:StaD} (h:InvS s) (x:ByteArray):InvS (unmarkD s x).1:=by
 unfold unmarkD withMk
 by_cases ho:(drpM s.m x).2=0
 ·show InvS (if (drpM s.m x).2=0 then _ else _)
  rw [if_pos ho]
  exact gK h (pX h.m x ho)
 ·show InvS (if (drpM s.m x).2=0 then _ else _)
  rw [if_neg ho]
  exact h
theorem OT {s:StaD} (h:InvS s) (k i n:Int) (x:ByteArray):InvS (doD s k i n x).1:=by
 unfold doD
 repeat' split
 ·exact MO h i x
 ·exact MN h i n
 ·exact IL h i x
 ·exact AW h x
 ·exact sK h
 ·exact uA h
 ·exact pO h
 ·exact pK h
 ·exact h
def stD0:StaD:=⟨⟨#[]⟩,[],[],[],false,[]⟩
theorem pB:InvS stD0:=⟨by decide,Nat.zero_le _,by decide,fL _ _,.inl rfl,Nat.zero_le _,rfl,fL _ _,fun l hl=>absurd hl (by simp [stD0]),fun l hl=>absurd hl (by simp [stD0]),fun l hl=>absurd hl (by simp [stD0])⟩
theorem xX {s:StaD} {x:Edt} (h:(editD s x).2≠0):(editD s x).1=s:=by
 unfold editD at h ⊢
 split
 ·rfl
 ·rename_i c;rw [if_neg c] at h;exact absurd rfl h
theorem PK {s:StaD} (h:(insD s i x).2≠0):(insD s i x).1=s:=by
 unfold insD at h ⊢
 split
 ·rfl
 split
 ·rfl
 split
 ·rfl
 rename_i a b c
 rw [if_neg a,if_neg b,if_neg c] at h
 exact xX h
theorem OV {s:StaD} (h:(delD s i n).2≠0):(delD s i n).1=s:=by
 unfold delD at h ⊢
 split
 ·rfl
 split
 ·rfl
 split
 ·rfl
 rename_i a b c
 rw [if_neg a,if_neg b,if_neg c] at h
 exact xX h
theorem xF {s:StaD} {r:List Mrk×Int} (h:(withMk s r).2≠0):(withMk s r).1=s:=by
 unfold withMk at h ⊢
 exact if_neg h
theorem MU {s:StaD} (h:(markD s i x).2≠0):(markD s i x).1=s:=by
 unfold markD at h ⊢
 split
 ·rfl
 split
 ·rfl
 split
 ·rfl
 rename_i a b c
 rw [if_neg a,if_neg b,if_neg c] at h
 exact xF h
theorem MR {s:StaD} (h:(undoD s).2≠0):(undoD s).1=s:=by
 unfold undoD at h ⊢
 split
 ·rfl
 split
 ·rfl
 rename_i a b
 rw [if_neg a,if_neg b] at h
 exact absurd rfl h
theorem NF {s:StaD} (h:(redoD s).2≠0):(redoD s).1=s:=by
 unfold redoD at h ⊢
 split
 ·rfl
 split
 ·rfl
 rename_i a b
 rw [if_neg a,if_neg b] at h
 exact absurd rfl h
theorem LU {s:StaD} (h:(beginD s).2≠0):(beginD s).1=s:=by
 unfold beginD at h ⊢
 split
 ·rfl
 rename_i a
 rw [if_neg a] at h
 exact absurd rfl h
theorem QA {s:StaD} (h:(endD s).2≠0):(endD s).1=s:=by
 unfold endD at h ⊢
 split
 ·rfl
 rename_i a
 rw [if_neg a] at h
 exact absurd rfl h
theorem QF {s:StaD} {k:Int} (h:(doD s k i n x).2≠0):(doD s k i n x).1=s:=by
 unfold doD at h ⊢
 by_cases c1:k=1
 ·rw [if_pos c1] at h ⊢;exact PK h
 rw [if_neg c1] at h ⊢
 by_cases c2:k=2
 ·rw [if_pos c2] at h ⊢;exact OV h
 rw [if_neg c2] at h ⊢
 by_cases c3:k=3
 ·rw [if_pos c3] at h ⊢;exact MU h
 rw [if_neg c3] at h ⊢
 by_cases c4:k=4
 ·rw [if_pos c4] at h ⊢;exact xF h
 rw [if_neg c4] at h ⊢
 by_cases c5:k=5
 ·rw [if_pos c5] at h ⊢;exact MR h
 rw [if_neg c5] at h ⊢
 by_cases c6:k=6
 ·rw [if_pos c6] at h ⊢;exact NF h
 rw [if_neg c6] at h ⊢
 by_cases c7:k=7
 ·rw [if_pos c7] at h ⊢;exact LU h
 rw [if_neg c7] at h ⊢
 by_cases c8:k=8
 ·rw [if_pos c8] at h ⊢;exact QA h
 rw [if_neg c8]
theorem qO {f:List Edt→List Edt} (hf:∀ l,(f l).length=l.length) {L:List (List Edt)} (h:goesE f t L=true):∀ l∈L,1≤l.length∧l.length≤32:=by
 induction L generalizing t with
 | nil=>exact fun l hl=>absurd hl (by simp)
 | cons x r ih =>
  cases hx:rightS t (f x)
  ·rw [iL hx] at h;cases h
  ·rw [gE hx] at h
   intro l hl
   rcases List.mem_cons.1 hl with rfl|hl
   ·have:=dG.1 hx
    rw [hf] at this
    exact ⟨this.1,this.2.1⟩
   ·exact ih h l hl
theorem InvS.ul {s:StaD} (h:InvS s):s.u.length≤16∧∀ l∈s.u,1≤l.length∧l.length≤32:=by
 obtain ⟨h1,h2⟩:=dH.1 h.u
 exact ⟨h2,fun l hl=>qO aF h1 l (List.mem_reverse.2 hl)⟩
theorem InvS.rl {s:StaD} (h:InvS s):s.r.length≤16∧∀ l∈s.r,1≤l.length∧l.length≤32:=by
 obtain ⟨h1,h2⟩:=dH.1 h.r
 exact ⟨h2,fun l hl=>qO (f:=id) (fun _=>rfl) h1 l (List.mem_reverse.2 hl)⟩
theorem InvS.ml {s:StaD} (h:InvS s):s.m.length≤16:=((aW _ _).1 h.m).2.1
theorem bI {l:List EPc} {P:List Edt→Prop} (h:∀ x∈lsP l,P x):∀ x∈l,P x.l:=fun x hx=>h _ (List.mem_map.2 ⟨x,hx,rfl⟩)
end Go.Proofs.YtbagenpobcgjnaaGreat
namespace Go.Proofs.YtbagenpobcgjnaaGreat
variable {T : List Nat}
open Go.RowKit
set_option linter.unusedVariables false
set_option linter.unusedSimpArgs false
structure EPo (S:List Nat) (w:World) (x:EPc):Prop where
 row:Edts w (Off S w) x.a x.l
 nil:x.a=none→x.c=0
structure KPo (S:List Nat) (w:World) (x:KPc):Prop where
 row:Mrks w (Off S w) x.a x.l
 nil:x.a=none→x.c=0
structure SPo (S:List Nat) (w:World) (x:SPc):Prop where
 row:Scs w (Off S w) x.a x.l
 all:∀ y∈x.l,EPo S w y
 nil:x.a=none→x.c=0
 le:x.l.length≤x.c
 cap:x.c≤maxLen
structure StaO (S:List Nat) (w:World) (s:Sta):Prop where
 m:KPo S w s.m
 u:SPo S w s.u
 r:SPo S w s.r
 g:EPo S w s.g
theorem mS (hS:∀ i∈S',i∈S∨w.heap.size≤i) (hb:Off S w b):Off S' w b:=⟨hb.1,fun g=>by
 have h1:=hb.1
 rcases hS b g with g|g
 ·exact hb.2 g
 ·omega⟩
theorem EPo.in {x:EPc} (h:EPo S w x):EPcs w x:=⟨h.row.more fun _ hb=>hb.1,h.nil⟩
theorem EPo.apart {x:EPc} (h:EPo S w x) (ha:Apart S w w'):EPo S w' x:=⟨(h.row.keep fun p hp=>ha.cell hp.1 hp.2).more fun b hb=>hb.on ha.size,h.nil⟩
theorem EPo.wide {x:EPc} (h:EPo S w x) (hS:∀ i∈S',i∈S∨w.heap.size≤i):EPo S' w x:=⟨h.row.more fun b hb=>mS hS hb,h.nil⟩
theorem EPo.later {x:EPc} (h:EPo S w x) (hb:Below w.heap.size w w'):EPo S w' x:=h.apart (.of_below hb)
theorem ERow.off {base:Nat} {x:EPc} (h:ERow w base x) (hS:∀ i∈S,i<base):EPo S w x:=⟨h.row.more fun b hb=>⟨hb.2,fun g=>by have:=hS b g;have:=hb.1;omega⟩,h.nil⟩
theorem KPo.in {x:KPc} (h:KPo S w x):KPcs w x:=⟨h.row.more fun _ hb=>hb.1,h.nil⟩
theorem KPo.pcs {a:Option Addr} {l:List Mrk} {c:Nat} (h:KPo S w ⟨a,l,c⟩):Pcs w ⟨a,l,c⟩:=⟨h.row.more fun _ hb=>hb.1,h.nil⟩
theorem KPo.apart {x:KPc} (h:KPo S w x) (ha:Apart S w w'):KPo S w' x:=⟨(h.row.keep fun p hp=>ha.cell hp.1 hp.2).more fun b hb=>hb.on ha.size,h.nil⟩
theorem KPo.wide {x:KPc} (h:KPo S w x) (hS:∀ i∈S',i∈S∨w.heap.size≤i):KPo S' w x:=⟨h.row.more fun b hb=>mS hS hb,h.nil⟩
theorem KPo.later {x:KPc} (h:KPo S w x) (hb:Below w.heap.size w w'):KPo S w' x:=h.apart (.of_below hb)
theorem MrkR.off {base:Nat} {a:Option Addr} {l:List Mrk} {c:Nat} (h:MrkR w base a l c) (hS:∀ i∈S,i<base):KPo S w ⟨a,l,c⟩:=⟨h.row.more fun b hb=>⟨hb.2,fun g=>by have:=hS b g;have:=hb.1;omega⟩,h.nil⟩
theorem SPo.in {x:SPc} (h:SPo S w x):SPcs w x:=⟨h.row.more fun _ hb=>hb.1,fun y hy=>(h.all y hy).in,h.nil,h.le,h.cap⟩
theorem SPo.apart {x:SPc} (h:SPo S w x) (ha:Apart S w w'):SPo S w' x:=⟨(h.row.keep fun p hp=>ha.cell hp.1 hp.2).more fun b hb=>hb.on ha.size,fun y hy=>(h.all y hy).apart ha,h.nil,h.le,h.cap⟩
theorem SPo.wide {x:SPc} (h:SPo S w x) (hS:∀ i∈S',i∈S∨w.heap.size≤i):SPo S' w x:=⟨h.row.more fun b hb=>mS hS hb,fun y hy=>(h.all y hy).wide hS,h.nil,h.le,h.cap⟩
theorem SPo.later {x:SPc} (h:SPo S w x) (hb:Below w.heap.size w w'):SPo S w' x:=h.apart (.of_below hb)
theorem SRow.off {base:Nat} {x:SPc} (h:SRow w base x) (hS:∀ i∈S,i<base) (ha:∀ y∈x.l,EPo S w y):SPo S w x:=⟨h.row.more fun b hb=>⟨hb.2,fun g=>by have:=hS b g;have:=hb.1;omega⟩,ha,h.nil,h.le,h.cap⟩
theorem SPo.empty (S:List Nat) (w:World):SPo S w ⟨none,[],0⟩:=⟨fun k hk=>absurd hk (by simp),fun x hx=>absurd hx (by simp),fun _=>rfl,Nat.le_refl _,Nat.zero_le _⟩
theorem EPo.empty (S:List Nat) (w:World):EPo S w ⟨none,[],0⟩:=⟨fun k hk=>absurd hk (by simp),fun _=>rfl⟩
theorem KPo.empty (S:List Nat) (w:World):KPo S w ⟨none,[],0⟩:=⟨fun k hk=>absurd hk (by simp),fun _=>rfl⟩
theorem StaO.in {s:Sta} (h:StaO S w s):StaIn w s:=⟨h.m.in,h.u.in,h.r.in,h.g.in⟩
theorem StaO.apart {s:Sta} (h:StaO S w s) (ha:Apart S w w'):StaO S w' s:=⟨h.m.apart ha,h.u.apart ha,h.r.apart ha,h.g.apart ha⟩
theorem StaO.wide {s:Sta} (h:StaO S w s) (hS:∀ i∈S',i∈S∨w.heap.size≤i):StaO S' w s:=⟨h.m.wide hS,h.u.wide hS,h.r.wide hS,h.g.wide hS⟩
theorem StaO.later {s:Sta} (h:StaO S w s) (hb:Below w.heap.size w w'):StaO S w' s:=h.apart (.of_below hb)
theorem gU {L:List (List Edt)} {e:Ending} (h:RetStk w L e w') (hS:∀ i∈S,i<w.heap.size):∃ x:SPc,e=.returned (.slice x.a x.l.length x.c)∧lsP x.l=L∧SPo S w' x∧Below w.heap.size w w':=by
 obtain ⟨a,c,l,rfl,hl,hr,⟨g,rfl,hg,ha⟩,-,hb⟩:=h
 exact ⟨⟨_,l,c⟩,rfl,hl,hr.off hS fun y hy=>(ha y hy).off fun i hi=>by have:=hS i hi;omega,hb⟩
theorem mC {L:List (List Edt)} {s:List Edt} {e:Ending} (h:RetPop w L s e w') (hS:∀ i∈S,i<w.heap.size):∃ (x:SPc) (a2:Option Addr) (c2:Nat),e=.returned (.tuple #[.slice x.a x.l.length x.c,stpV a2 s.length c2,.int .i64 0])∧lsP x.l=L∧SPo S w' x∧EPo S w' ⟨a2,s,c2⟩∧Below w.heap.size w w':=by
 obtain ⟨a,c,l,a2,c2,rfl,hl,hr,ha,h2,hb⟩:=h
 exact ⟨⟨a,l,c⟩,a2,c2,rfl,hl,hr.off hS fun y hy=>(ha y hy).off hS,h2.off hS,hb⟩
theorem KnotW.offb {B:Nat→Prop} {cs:Array Value} (hb:Blk w b cs 100) {m:Bool} (h0:cs[0]? = some (.bool m)):∀ {h k:Nat} {L:List ByteArray},KnotW w B h k L→KnotW w (fun i=>B i∧i≠b) h k L
 | 0,k,L,⟨hk,s,e,hf,hB⟩=>⟨⟨hk,fun g=>by
  subst g
  have:=hB.symm.trans hb
  cases this⟩,s,e,hf,hB⟩
 | h+1,k,L,⟨hk,K,g,c,h2,h3,h4,h5,e,h6,h7,h8⟩=>⟨⟨hk,fun g=>by
  subst g
  have:=h8.symm.trans hb
  cases this⟩,K,g,c,h2,h3,h4,fun x hx=>(h5 x hx).offb hb h0,e,⟨h6,fun q=>by
  subst q
  have h9:=h7.2 0 (by rw [aP];omega)
  have h10:=hb.cell 0 _ h0
  rw [Nat.zero_add] at h9
  have h11:=h10.symm.trans h9
  simp [ptrs] at h11⟩,h7,h8⟩
theorem RopeW.apart (h:RopeW w r p L s) {cs:Array Value} (hb:Blk w b cs 100) {m:Bool} (h0:cs[0]? = some (.bool m)) (ha:Apart [b] w w'):RopeW w' r p L s:=by
 have hn:∀ i,i<w.heap.size→i≠b→w'.heap[i]? = w.heap[i]? :=fun i hi hne=>ha.block i hi (by simpa using hne)
 refine ⟨⟨?_,h.x.tight,h.x.txt,h.x.small⟩,?_⟩
 ·rcases h.x.t with t|⟨k,hh,e,hk⟩
  ·exact .inl t
  ·exact .inr ⟨k,hh,e,(((hk.offb hb h0).keep ha.size fun i hi=>hn i hi.1.1 hi.2).weak fun i hi=>hi.1.on ha.size)⟩
 ·rcases h.at' with t|⟨k,e,hl,hc⟩
  ·exact .inl t
  ·refine .inr ⟨k,e,Nat.lt_of_lt_of_le hl ha.size,?_⟩
   have hne:k≠b:=fun g=>by
    subst g
    have:=(hb.cell 0 _ h0).symm.trans hc
    cases this
   exact (World.cell?_of_block (w:=w) (hn k hl hne)).trans hc
theorem wide2 {n:Nat} {T:List Nat} (hn:w.heap.size≤n):∀ i∈b::n::T,i∈b::T∨w.heap.size≤i:=fun i hi=>by
 simp only [List.mem_cons] at hi ⊢
 rcases hi with rfl|rfl|hi
 ·exact .inl (.inl rfl)
 ·exact .inr hn
 ·exact .inl (.inr hi)
theorem wide3 {n m:Nat} {T:List Nat} (hn:w.heap.size≤m):∀ i∈b::n::m::T,i∈b::n::T∨w.heap.size≤i:=fun i hi=>by
 simp only [List.mem_cons] at hi ⊢
 rcases hi with rfl|rfl|rfl|hi
 ·exact .inl (.inl rfl)
 ·exact .inl (.inr (.inl rfl))
 ·exact .inr hn
 ·exact .inl (.inr (.inr hi))
abbrev edC (made:Bool) (r:Option Addr) (t:ByteArray) (m:KPc) (u ro:SPc) (o:Bool) (g:EPc):Array Value:=#[.bool made,.pointer r,.string t,.slice m.a m.l.length m.c,.slice u.a u.l.length u.c,.slice ro.a ro.l.length ro.c,.bool o,.slice g.a g.l.length g.c]
structure IsEd (T:List Nat) (w:World) (b:Nat) (s:Sta) (rb:Nat) (p:Option Addr) (L:List ByteArray):Prop where
 blk:Blk w b (edC true (some ⟨rb,0,none⟩) ⟨#[]⟩ s.m s.u s.r s.o s.g) 100
 rope:RopeW w (some ⟨rb,0,none⟩) p L s.t
 rows:StaO (b::T) w s
 ml:s.m.l.length≤s.m.c
 mc:s.m.c≤maxLen
 inv:InvS s.d
 tlt:∀ i∈T,i<w.heap.size
theorem IsEd.lt {s:Sta} (h:IsEd T w b s rb p L):b<w.heap.size:=h.blk.lt
theorem IsEd.later {s:Sta} (h:IsEd T w b s rb p L) (hb:Below w.heap.size w w'):IsEd T w' b s rb p L:=⟨h.blk.onto hb,h.rope.later hb,h.rows.later hb,h.ml,h.mc,h.inv,fun i hi=>Nat.lt_of_lt_of_le (h.tlt i hi) hb.size⟩
def RetEd (T:List Nat) (w:World) (b:Nat) (r:StaD×Int) (e:Ending) (w':World):Prop:=∃ (s':Sta) (rb':Nat) (p':Option Addr) (L':List ByteArray),e=.returned (.int .i64 r.2)∧IsEd T w' b s' rb' p' L'∧s'.d=r.1∧Apart [b] w w'
theorem Blk.eight {x4 x5 x6 x7:Value} {t:TypeId} (h:Blk w b #[x0,x1,x2,x3,x4,x5,x6,x7] t) :
 w.cell? ⟨b,0,none⟩=some x0∧w.cell? ⟨b,1,none⟩=some x1∧w.cell? ⟨b,2,none⟩=some x2∧w.cell? ⟨b,3,none⟩=some x3∧w.cell? ⟨b,4,none⟩=some x4∧w.cell? ⟨b,5,none⟩=some x5∧w.cell? ⟨b,6,none⟩=some x6∧w.cell? ⟨b,7,none⟩=some x7:=
 ⟨h.cell 0 _ rfl,h.cell 1 _ rfl,h.cell 2 _ rfl,h.cell 3 _ rfl,h.cell 4 _ rfl,h.cell 5 _ rfl,h.cell 6 _ rfl,h.cell 7 _ rfl⟩
theorem Blk.all8 {x4 x5 x6 x7:Value} {t:TypeId} (h:Blk w b #[x0,x1,x2,x3,x4,x5,x6,x7] t) :
 w.cell? ⟨b,0,none⟩=some x0∧w.cell? ⟨b,1,none⟩=some x1∧w.cell? ⟨b,2,none⟩=some x2∧w.cell? ⟨b,3,none⟩=some x3∧w.cell? ⟨b,4,none⟩=some x4∧w.cell? ⟨b,5,none⟩=some x5∧w.cell? ⟨b,6,none⟩=some x6∧w.cell? ⟨b,7,none⟩=some x7 ∧
 w.frozen? ⟨b,0,none⟩=false∧w.frozen? ⟨b,1,none⟩=false∧w.frozen? ⟨b,2,none⟩=false∧w.frozen? ⟨b,3,none⟩=false∧w.frozen? ⟨b,4,none⟩=false∧w.frozen? ⟨b,5,none⟩=false∧w.frozen? ⟨b,6,none⟩=false∧w.frozen? ⟨b,7,none⟩=false:=
 ⟨h.cell 0 _ rfl,h.cell 1 _ rfl,h.cell 2 _ rfl,h.cell 3 _ rfl,h.cell 4 _ rfl,h.cell 5 _ rfl,h.cell 6 _ rfl,h.cell 7 _ rfl,h.free 0,h.free 1,h.free 2,h.free 3,h.free 4,h.free 5,h.free 6,h.free 7⟩
theorem Blk.all6 {x4 x5:Value} {t:TypeId} (h:Blk w b #[x0,x1,x2,x3,x4,x5] t) :
 w.cell? ⟨b,0,none⟩=some x0∧w.cell? ⟨b,1,none⟩=some x1∧w.cell? ⟨b,2,none⟩=some x2∧w.cell? ⟨b,3,none⟩=some x3∧w.cell? ⟨b,4,none⟩=some x4∧w.cell? ⟨b,5,none⟩=some x5 ∧
 w.frozen? ⟨b,0,none⟩=false∧w.frozen? ⟨b,1,none⟩=false∧w.frozen? ⟨b,2,none⟩=false∧w.frozen? ⟨b,3,none⟩=false∧w.frozen? ⟨b,4,none⟩=false∧w.frozen? ⟨b,5,none⟩=false:=
 ⟨h.cell 0 _ rfl,h.cell 1 _ rfl,h.cell 2 _ rfl,h.cell 3 _ rfl,h.cell 4 _ rfl,h.cell 5 _ rfl,h.free 0,h.free 1,h.free 2,h.free 3,h.free 4,h.free 5⟩
theorem Blk.all4 {t:TypeId} (h:Blk w b #[x0,x1,x2,x3] t) :
 w.cell? ⟨b,0,none⟩=some x0∧w.cell? ⟨b,1,none⟩=some x1∧w.cell? ⟨b,2,none⟩=some x2∧w.cell? ⟨b,3,none⟩=some x3 ∧
 w.frozen? ⟨b,0,none⟩=false∧w.frozen? ⟨b,1,none⟩=false∧w.frozen? ⟨b,2,none⟩=false∧w.frozen? ⟨b,3,none⟩=false:=
 ⟨h.cell 0 _ rfl,h.cell 1 _ rfl,h.cell 2 _ rfl,h.cell 3 _ rfl,h.free 0,h.free 1,h.free 2,h.free 3⟩
theorem Blk.all3 {t:TypeId} (h:Blk w b #[x0,x1,x2] t) :
 w.cell? ⟨b,0,none⟩=some x0∧w.cell? ⟨b,1,none⟩=some x1∧w.cell? ⟨b,2,none⟩=some x2 ∧
 w.frozen? ⟨b,0,none⟩=false∧w.frozen? ⟨b,1,none⟩=false∧w.frozen? ⟨b,2,none⟩=false:=
 ⟨h.cell 0 _ rfl,h.cell 1 _ rfl,h.cell 2 _ rfl,h.free 0,h.free 1,h.free 2⟩
theorem Blk.all1 {t:TypeId} (h:Blk w b #[x0] t) :
 w.cell? ⟨b,0,none⟩=some x0 ∧
 w.frozen? ⟨b,0,none⟩=false:=
 ⟨h.cell 0 _ rfl,h.free 0⟩
theorem box2 (w:World) (A B:Array Value) (ta tb:TypeId):∃ W,(w.alloc (.cells A ta)).alloc (.cells B tb)=W∧Blk W w.heap.size A ta∧Blk W (w.heap.size+1) B tb∧Below w.heap.size w W∧W.heap.size=w.heap.size+1+1:=by
 have h2:=Blk.new (w.alloc (.cells A ta)) B tb
 rw [World.size_alloc] at h2
 exact ⟨_,rfl,(Blk.new w A ta).alloc _,h2,below2 w _ _,by simp⟩
theorem box1 (w:World) (A:Array Value) (ta:TypeId):∃ W,w.alloc (.cells A ta)=W∧Blk W w.heap.size A ta∧Below w.heap.size w W∧W.heap.size=w.heap.size+1:=⟨_,rfl,Blk.new w A ta,below1 w _,by simp⟩
end Go.Proofs.YtbagenpobcgjnaaGreat
namespace Go.Proofs.YtbagenpobcgjnaaGreat
open Go.RowKit
set_option linter.unusedVariables false
def stepR (s:StaD) (x:Opr×Int):StaD×Int:=if x.2=0 then doD s x.1.k x.1.a x.1.n x.1.s else (s,x.2)
def runR:StaD→List (Opr×Int)→StaD×Nat×Int
 | s,[]=>(s,0,0)
 | s,x::t=>if (stepR s x).2=0 then ((runR (stepR s x).1 t).1,(runR (stepR s x).1 t).2.1+1,(runR (stepR s x).1 t).2.2) else (s,0,(stepR s x).2)
def allR:StaD→List (Opr×Int)→List StaD
 | s,[]=>[s]
 | s,x::t=>if (stepR s x).2=0 then s::allR (stepR s x).1 t else [s]
theorem uM {s:StaD} (h:InvS s) (x:Opr×Int):InvS (stepR s x).1:=by
 unfold stepR
 split
 ·exact OT h _ _ _ _
 ·exact h
structure AtR (s:StaD) (l:List (Opr×Int)) (k:Nat) (t:StaD):Prop where
 le:k≤l.length
 run:runR s l=((runR t (l.drop k)).1,k+(runR t (l.drop k)).2.1,(runR t (l.drop k)).2.2)
 all:∃ pre:List StaD,pre.length=k∧allR s l=pre++allR t (l.drop k)
 inv:InvS s→InvS t
theorem AtR.zero (s:StaD) (l:List (Opr×Int)):AtR s l 0 s:=⟨Nat.zero_le _,by simp,⟨[],rfl,rfl⟩,id⟩
theorem AtR.step {s t:StaD} {l:List (Opr×Int)} (h:AtR s l k t) (hk:k<l.length) (h0:(stepR t l[k]).2=0):AtR s l (k+1) (stepR t l[k]).1:=by
 have e:=List.drop_eq_getElem_cons hk
 obtain ⟨pre,hp,ha⟩:=h.all
 have h1:=h.run
 rw [e] at h1 ha
 simp only [runR,allR,if_pos h0] at h1 ha
 refine ⟨hk,?_,⟨pre++[t],by simp [hp],by rw [ha];simp⟩,fun hs=>uM (h.inv hs) _⟩
 rw [h1]
 refine Prod.ext rfl (Prod.ext ?_ rfl)
 simp only
 omega
theorem AtR.no {s t:StaD} {l:List (Opr×Int)} (h:AtR s l k t) (hk:k<l.length) (h0:(stepR t l[k]).2≠0):runR s l=(t,k,(stepR t l[k]).2):=by
 have h1:=h.run
 rw [List.drop_eq_getElem_cons hk] at h1
 simp only [runR,if_neg h0] at h1
 exact h1
theorem AtR.done {s t:StaD} {l:List (Opr×Int)} (h:AtR s l k t) (hk:k=l.length):runR s l=(t,k,0):=by
 have h1:=h.run
 rw [List.drop_of_length_le (by omega)] at h1
 exact h1
theorem AtR.most {s t:StaD} {l:List (Opr×Int)} (h:AtR s l k t):k≤(runR s l).2.1:=by rw [h.run];exact Nat.le_add_right _ _
def opsL (l:List Opr):List (Opr×Int):=l.map fun x=>(x,0)
theorem iQ (l:List Opr):(opsL l).length=l.length:=by unfold opsL;simp
theorem LJ (l:List Opr) (k:Nat) (h:k<(opsL l).length):(opsL l)[k]=(l[k]'(by rw [iQ] at h;exact h),0):=List.getElem_map _
theorem NT (l m:List (Opr×Int)):∀ s:StaD,runR s (l++m)=if (runR s l).2.2=0 then ((runR (runR s l).1 m).1,(runR s l).2.1+(runR (runR s l).1 m).2.1,(runR (runR s l).1 m).2.2) else runR s l:=by
 induction l with
 | nil=>intro s;simp [runR]
 | cons x t ih =>
  intro s
  rw [List.cons_append]
  simp only [runR]
  split
  ·rw [ih]
   split
   ·refine Prod.ext rfl (Prod.ext ?_ rfl)
    simp only
    omega
   ·rfl
  ·simp
open Go.Proofs.Tryz
set_option maxRecDepth 100000
open Lib (hid)
set_option linter.unusedSimpArgs false
attribute [local go_sem] Oper.semAt_some
abbrev encO (x:Opr×Int):Array Value:=#[.agg #[.int .i64 x.1.k,.int .i64 x.1.a,.int .i64 x.1.n,.string x.1.s],.int .i64 x.2]
def YO (xs:List (Opr×Int)) (k:Nat) (x:Opr×Int) (k':Nat) (_:World):Prop:=∃ h:k<xs.length,x=xs[k]∧k'=k+1
theorem YO.firm (xs:List (Opr×Int)) (l k:Nat) (x:Opr×Int) (k':Nat):Firm l (YO xs k x k'):=Firm.const l _
def OpsIt (gf:Nat) (lb:Array Value) (xs:List (Opr×Int)) (lo:Nat) (w:World):Prop:=
 ∀ (W:World) (m l:Nat) (S:List Nat),Below lo w W→(∀ x∈S,lo≤x)→Iter prog m l gf lb encO (YO xs) (fun _=>True) (fun A B=>Below A.heap.size A B) S 0 xs.length W
theorem OpsIt.later {gf:Nat} {lb:Array Value} {xs:List (Opr×Int)} {lo:Nat} (h:OpsIt gf lb xs lo w) (hb:Below lo w w'):OpsIt gf lb xs lo w':=fun W m l S hW hS=>h W m l S (hb.trans hW) hS
theorem qX {lo:Nat} {A B:World} {a:Option Addr} {l:List Opr} (h:Oprs A (·<lo) a l) (hlo:lo≤A.heap.size) (hS:∀ x∈S,lo≤x) (hm:Apart S A B):Oprs B (·<lo) a l:=h.keep fun p hp=>hm.cell (by omega) (fun g=>by have:=hS _ g;omega)
set_option maxHeartbeats 1600000 in
theorem IC (l:List Opr) (a:Option Addr) (c n:Nat) {lo bl:Nat} (hr:Oprs w (·<lo) a l) (hn:l.length=n) (hbx:Boxed w bl 27 (.slice a n c)) (hb0:bl<lo) (hlo:lo≤w.heap.size) (hz:n≤1000000) :
 OpsIt 36 #[.pointer (some ⟨bl,0,none⟩)] (opsL l) lo w:=by
 intro W m lp S hW hS J Jx hJ hJx hY h0
 have hrW:=hr.below (N:=lo) (fun _ h=>h) hW
 have hbW:Boxed W bl 27 (.slice a n c):=(hW.block bl hb0).trans hbx
 have q0:=hbW.cell
 have hsz:=hW.size
 have hlen:=iQ l
 have ai:=hid hrW;have HY:=hid hY;have HJ:=hid hJ;have HN:=hid hn;have HS:=hid hS;have H0:=hid h0;have aa:=hid hlen
 clear hr hbx hrW hbW hY hJ hn hS h0 hJx hW hlen
 refine callsIn_of_wp func36 rfl trivial ?_ rfl
 simp only [ntmps36,List.size_toArray,List.length_cons,List.length_nil,Nat.reduceAdd,Nat.reduceSub,Array.replicate_succ,Array.replicate_zero,List.push_toArray,List.append_toArray,List.nil_append,List.cons_append]
 gi_wp2
 gi_loopw [7] (fun i wr=>∃ k:Nat,i=.int .i64 k∧k≤n∧J k wr∧W.heap.size≤wr.heap.size∧Oprs wr (·<lo) a l) (fun i _=>n - (intOf i).toNat)
 case atStart=>exact ⟨0,rfl,Nat.zero_le _,H0.out,Nat.le_refl _,ai.out⟩
 case round =>
  obtain ⟨k,rfl,hk,hj,hs,ho⟩:=hrel
  by_cases hlt:k<n
  ·have hkl:k<l.length:=by rw [HN.out];exact hlt
   obtain ⟨ad,rfl,hab,q0,q1,q2,q3⟩:=ho k hkl
   have hbx:=below1 wr (.cells #[.int .i64 l[k].k,.int .i64 l[k].a,.int .i64 l[k].n,.string l[k].s] 50)
   have hx:(opsL l)[k]'(by rw [aa.out];exact hkl)=(l[k],0):=LJ l k _
   have hy:=HY.out k (l[k],0) (k+1) _ ⟨by rw [aa.out];exact hkl,hx.symm,rfl⟩ (HJ.out _ _ _ hj hbx)
   have ab:=qX (S:=[]) ho (by omega) (by simp) (.of_below hbx)
   have ac:=Nat.le_trans hs hbx.size
   generalize l[k]=x at q0 q1 q2 q3 hy ab ac
   obtain ⟨xk,xa,xn,xs⟩:=x
   simp only at q0 q1 q2 q3 hy ab ac
   obtain ⟨fn,tmps,assign,body,hyr,hR⟩:=dD hy
   have b0:(0:Int)≤(k:Int):=by omega
   have b1:(k:Int)<(n:Int):=by omega
   have HR:=hid hR;have HO:=hid ab;have ag:=hid ac
   clear hy hR ho hj hbx hx hab ab ac
   gi_wp2_with fail
   refine ⟨fun e=>(by cases e),(HR.out none _).mono ?_⟩
   rintro e W4 (⟨rfl,ah,ae⟩|⟨rfl,aj,ae⟩)
   ·have af:=hid ah;have ak:=hid (Nat.le_trans ag.out ae.apart.size)
    have al:=hid (qX HO.out (Nat.le_trans (Nat.le_trans hlo hsz) ag.out) HS.out ae.apart)
    clear ah ae HR HO
    gi_wp2
    go_roundw
    case rel=>exact ⟨k+1,by go_num,by omega,af.out,ak.out,al.out⟩
    case measure=>simp [intOf];omega
   ·gi_wp2
    refine bodyPost_ret (results_none rfl _ _ _) rfl ?_
    exact ⟨⟨_,rfl⟩,.inr aj⟩
  ·obtain rfl:k=n:=by omega
   have af:=hid hj
   clear hj ho
   gi_wp2
   go_end0
   exact ⟨⟨_,rfl⟩,.inl ⟨by rw [aa.out,HN.out];exact af.out,trivial⟩⟩
theorem FH (l:List Opr) (a:Option Addr) (c n:Nat) (w:World):Calls prog 20 #[.slice a n c] w fun e w'=>e=.returned (.func (.func 36) #[] #[.pointer (some ⟨w.heap.size,0,none⟩)])∧w'=w.alloc (.cells #[.slice a n c] 27):=by
 have hmf:∀ (fn:Fn) (first cap:Array Value) (w:World),(Instr.makeFunc fn first cap).run prog w=.ok (.func fn first cap) w:=fun _ _ _ _=>rfl
 go_enter func20,ntmps20
 go_wp2
 go_ret
 exact ⟨rfl,rfl⟩
theorem InvS.shown {s:StaD} (h:InvS s) {l:List Edt} (hr:runE s.t l=(t',0)):∀ k,k≤l.length→∀ y∈shfL s.m (l.take k),-2305843009213693952≤y.p∧y.p≤2305843009213693952:=fun k hk y hy=>by
 obtain ⟨u,hu,-⟩:=IP hr k
 have hm:=jU h.v h.z hu h.m
 have hz:=(uF h.v h.z hu).2.1
 have:=LO hm y hy
 omega
theorem InvS.edz {s:StaD} (h:InvS s) {l:List Edt} (hl:∀ x∈l,okE5 x=true):Edtz l 140737488355328:=fun x hx=>by
 have:=(dK x).1 (hl x hx)
 omega
theorem GZ {l:List Edt} (h:∀ x∈l,okE5 x=true):∀ x∈invL l,okE5 x=true:=fun x hx=>by
 unfold invL at hx
 obtain ⟨y,hy,rfl⟩:=List.mem_map.1 (List.mem_reverse.1 hx)
 have:=(dK y).1 (h y hy)
 exact (dK _).2 ⟨this.2.1,this.1,this.2.2.elim .inr .inl⟩
theorem Blk.apart {cs:Array Value} {t:TypeId} (h:Blk w b cs t) (ha:Apart S w w') (hb:b ∉ S):Blk w' b cs t:=(ha.block b h.lt hb).trans h
theorem eone {B:Nat→Prop} {p:Int} {o n:ByteArray} {t:TypeId} (h:Blk w b #[.int .i64 p,.string o,.string n] t) (hB:B b):Edts w B (some ⟨b,0,none⟩) [⟨p,o,n⟩]:=fun k hk=>by
 obtain rfl:k=0:=by simpa using hk
 exact ⟨⟨b,0,none⟩,rfl,hB,h.cell 0 _ rfl,h.cell 1 _ rfl,h.cell 2 _ rfl⟩
theorem qN {p:Addr} {v:Value} (h:w.cell? p=some v) {o:Obj} (hl:w.heap[p.block]? = some o) (ho:o.isCells=false):False:=by
 unfold World.cell? at h
 rw [hl] at h
 cases o <;> simp_all [Obj.isCells]
theorem oN {x:Nat} (hp:Plain w x) (h:w.cell? ⟨x,0,none⟩=some (.pointer p)):False:=by
 have hlt:=World.block_lt_of_cell? w _ h
 have hlt:x<w.heap.size:=hlt
 obtain ⟨o,ho⟩:∃ o,w.heap[x]? = some o:=⟨_,Array.getElem?_eq_getElem hlt⟩
 cases o with
 | cells cs t z =>
  refine (hp cs t z ho).2 p ?_
  unfold World.cell? at h
  rw [ho] at h
  simpa using h
 | _=>exact qN h ho rfl
theorem KnotW.offp {B:Nat→Prop} (hp:∀ x∈S,Plain w x):∀ {h k:Nat} {L:List ByteArray},KnotW w B h k L→KnotW w (fun i=>B i∧i ∉ S) h k L
 | 0,k,L,⟨hk,s,e,hf,hB⟩=>⟨⟨hk,fun g=>(hp k g _ _ _ hB).1 rfl⟩,s,e,hf,hB⟩
 | h+1,k,L,⟨hk,K,g,c,h2,h3,h4,h5,e,h6,h7,h8⟩=>⟨⟨hk,fun q=>(hp k q _ _ _ h8).1 rfl⟩,K,g,c,h2,h3,h4,fun x hx=>(h5 x hx).offp hp,e,⟨h6,fun q=>by
  have h9:=h7.2 0 (by rw [aP];omega)
  rw [Nat.zero_add] at h9
  have:∃ p,w.cell? ⟨g,0,none⟩=some (.pointer p):=by
   rw [h9];unfold ptrs;simp
  obtain ⟨p,hp'⟩:=this
  exact oN (hp g q) hp'⟩,h7,h8⟩
theorem RopeW.mild (h:RopeW w r p L s) (hm:Mild S w w'):RopeW w' r p L s:=by
 refine ⟨⟨?_,h.x.tight,h.x.txt,h.x.small⟩,?_⟩
 ·rcases h.x.t with t|⟨k,hh,e,hk⟩
  ·exact .inl t
  ·exact .inr ⟨k,hh,e,(((hk.offp hm.plain).keep hm.apart.size fun i hi=>hm.apart.block i hi.1.1 hi.2).weak fun i hi=>hi.1.on hm.apart.size)⟩
 ·rcases h.at' with t|⟨k,e,hl,hc⟩
  ·exact .inl t
  ·exact .inr ⟨k,e,Nat.lt_of_lt_of_le hl hm.apart.size,(hm.apart.cell (p:=⟨k,0,none⟩) hl (fun g=>oN (hm.plain k g) hc)).trans hc⟩
section
variable {T S : List Nat} {w w' : World} {b : Nat} {s : Sta} {rb : Nat} {p : Option Addr} {L : List ByteArray}
theorem IsEd.mild (h:IsEd T w b s rb p L) (hS:∀ x∈S,x∈T) (hb:b ∉ S) (hm:Mild S w w'):IsEd T w' b s rb p L:=
 ⟨h.blk.apart hm.apart hb,h.rope.mild hm,h.rows.apart (hm.apart.more fun i hi=>List.mem_cons_of_mem _ (hS i hi)),h.ml,h.mc,h.inv,fun i hi=>Nat.lt_of_lt_of_le (h.tlt i hi) hm.apart.size⟩
theorem IsEd.less {T':List Nat} (h:IsEd T w b s rb p L) (hT:∀ x∈T',x∈T):IsEd T' w b s rb p L:=
 ⟨h.blk,h.rope,h.rows.wide fun i hi=>by simp only [List.mem_cons] at hi ⊢;exact hi.elim (fun e=>.inl (.inl e)) (fun g=>.inl (.inr (hT i g))),h.ml,h.mc,h.inv,fun i hi=>h.tlt i (hT i hi)⟩
theorem IsEd.grow {T':List Nat} (h:IsEd T w b s rb p L) (hb:Below w.heap.size w w') (hT:∀ x∈T',x∈T∨w.heap.size≤x) (hz:∀ x∈T',x<w'.heap.size):IsEd T' w' b s rb p L:=
 ⟨h.blk.onto hb,h.rope.later hb,(h.rows.wide fun i hi=>by simp only [List.mem_cons] at hi ⊢;exact hi.elim (fun e=>.inl (.inl e)) (fun g=>(hT i g).elim (fun g=>.inl (.inr g)) .inr)).later hb,h.ml,h.mc,h.inv,hz⟩
theorem pD {o:Obj} (hl:w.heap[l]? = some o) (ho:o.isCells=false) {i:Nat} (hi:Off S w i) {q:Addr} {v:Value} (hq:q.block=i) (hc:w.cell? q=some v):Off (l::S) w i:=⟨hi.1,fun g=>by
 rcases List.mem_cons.1 g with rfl|g
 ·exact qN hc (by rw [hq];exact hl) ho
 ·exact hi.2 g⟩
theorem EPo.non {x:EPc} {o:Obj} (h:EPo S w x) (hl:w.heap[l]? = some o) (ho:o.isCells=false):EPo (l::S) w x:=⟨fun k hk=>by
 obtain ⟨ad,e,hb,q,r⟩:=h.row k hk
 exact ⟨ad,e,pD hl ho hb (bD ad _) q,q,r⟩,h.nil⟩
theorem KPo.non {x:KPc} {o:Obj} (h:KPo S w x) (hl:w.heap[l]? = some o) (ho:o.isCells=false):KPo (l::S) w x:=⟨fun k hk=>by
 obtain ⟨ad,e,hb,q,r⟩:=h.row k hk
 exact ⟨ad,e,pD hl ho hb (bD ad _) q,q,r⟩,h.nil⟩
theorem SPo.non {x:SPc} {o:Obj} (h:SPo S w x) (hl:w.heap[l]? = some o) (ho:o.isCells=false):SPo (l::S) w x:=⟨fun k hk=>by
 obtain ⟨ad,e,hb,q⟩:=h.row k hk
 exact ⟨ad,e,pD hl ho hb (bD ad _) q,q⟩,fun y hy=>(h.all y hy).non hl ho,h.nil,h.le,h.cap⟩
theorem StaO.non {o:Obj} (h:StaO S w s) (hl:w.heap[l]? = some o) (ho:o.isCells=false):StaO (l::S) w s:=⟨h.m.non hl ho,h.u.non hl ho,h.r.non hl ho,h.g.non hl ho⟩
theorem StaO.putn {o:Obj} (h:StaO S w s) (hl:w.heap[l]? = some o) (ho:o.isCells=false) (o':Obj):StaO S (w.putObj l o') s:=
 StaO.wide ((h.non hl ho).apart (S:=l::S) ⟨rfl,rfl,rfl,by simp,fun k _ hn=>World.putObj_heap_other (fun e=>hn (by simp [e]))⟩) fun i hi=>.inl (List.mem_cons_of_mem _ hi)
theorem IsEd.put {o:Obj} (h:IsEd T w b s rb p L) (hl:w.heap[l]? = some o) (ho:o.isCells=false) (o':Obj):IsEd T (w.putObj l o') b s rb p L:=by
 have hm:Mild [l] w (w.putObj l o'):=⟨⟨rfl,rfl,rfl,by simp,fun k _ hn=>World.putObj_heap_other (by simpa using hn)⟩,fun x hx cs t z hc=>by rw [List.mem_singleton.1 hx,hl] at hc;cases hc;cases ho⟩
 have hbl:b ∉ [l]:=fun g=>by
  have e:=h.blk
  rw [List.mem_singleton] at g
  subst g
  have e2:w.heap[b]? = _:=e
  rw [hl] at e2;cases e2;cases ho
 exact ⟨h.blk.apart hm.apart hbl,h.rope.mild hm,h.rows.putn hl ho o',h.ml,h.mc,h.inv,fun i hi=>by rw [World.putObj_size];exact h.tlt i hi⟩
end
section
variable (made : Bool) (r : Option Addr) (t : ByteArray) (ma : Option Addr) (mn mc : Nat) (ua : Option Addr) (un uc : Nat) (ra : Option Addr) (rn rc : Nat) (o : Bool) (ga : Option Addr) (gn gc : Nat)
abbrev edN:Value:=.agg #[.bool made,.pointer r,.string t,.slice ma mn mc,.slice ua un uc,.slice ra rn rc,.bool o,.slice ga gn gc]
theorem EF (w:World):(Instr.field 100 (edN made r t ma mn mc ua un uc ra rn rc o ga gn gc) 0).run prog w=.ok (.bool made) w:=by kernel_rfl
theorem OJ (w:World):(Instr.field 100 (edN made r t ma mn mc ua un uc ra rn rc o ga gn gc) 1).run prog w=.ok (.pointer r) w:=by kernel_rfl
theorem PV (w:World):(Instr.field 100 (edN made r t ma mn mc ua un uc ra rn rc o ga gn gc) 2).run prog w=.ok (.agg #[.string t,.slice ma mn mc,.slice ua un uc,.slice ra rn rc,.bool o,.slice ga gn gc]) w:=by kernel_rfl
end
structure Nw (w:World) (e:Option Addr) (v:Value):Prop where
 out:∀ W,Below w.heap.size w W→Calls prog 57 #[.pointer e] W fun x W'=>x=.returned v∧Below W.heap.size W W'
theorem Nw.later {W:World} {e:Option Addr} {v:Value} (h:Nw w e v) (hb:Below w.heap.size w W):Nw W e v:=⟨fun W' hW'=>h.out W' (hb.trans (hW'.mono hb.size))⟩
set_option maxHeartbeats 800000 in
theorem mQ {ma:Option Addr} {mn mc:Nat} {ua:Option Addr} {un uc:Nat} {ra:Option Addr} {rn rc:Nat} {ga:Option Addr} {gn gc:Nat}
 (h:Blk w b #[.bool made,.pointer r,.string t,.slice ma mn mc,.slice ua un uc,.slice ra rn rc,.bool o,.slice ga gn gc] 100) :
 Calls prog 57 #[.pointer (some ⟨b,0,none⟩)] w fun x w'=>x=.returned (edN made r t ma mn mc ua un uc ra rn rc o ga gn gc)∧Below w.heap.size w w':=by
 obtain ⟨p0,p1,p2,p3,p4,p5,p6,p7⟩:=h.alloc (.cells #[.bool false,.pointer none,.string ⟨#[]⟩,.slice none 0 0,.slice none 0 0,.slice none 0 0,.bool false,.slice none 0 0] 100) |>.eight
 clear h
 go_enter func57,ntmps57
 go_wp2
 refine bodyPost_ret (results_cell_row (P:=prog) (fn:=Tryz.f57) (p:=2) (ty:=100) rfl _ _ w.heap.size 100 _ (0,0) _ rfl (Blk.new _ _ _) underlying100 rfl (by kernel_rfl)) rfl ?_
 exact ⟨rfl,below1 _ _⟩
theorem Nw.some {ma:Option Addr} {mn mc:Nat} {ua:Option Addr} {un uc:Nat} {ra:Option Addr} {rn rc:Nat} {ga:Option Addr} {gn gc:Nat}
 (h:Blk w b #[.bool made,.pointer r,.string t,.slice ma mn mc,.slice ua un uc,.slice ra rn rc,.bool o,.slice ga gn gc] 100):Nw w (.some ⟨b,0,none⟩) (edN made r t ma mn mc ua un uc ra rn rc o ga gn gc):=⟨fun W hW=>mQ (h.onto hW)⟩
section
variable {w : World} {e : Option Addr} {made : Bool} {r : Option Addr} {t : ByteArray} {ma : Option Addr} {mn mc : Nat} {ua : Option Addr} {un uc : Nat} {ra : Option Addr} {rn rc : Nat} {o : Bool} {ga : Option Addr} {gn gc : Nat}
set_option maxHeartbeats 800000 in
theorem xN (h:Nw w e (edN made r t ma mn mc ua un uc ra rn rc o ga gn gc)) :
 Calls prog 58 #[.pointer e] w fun x w'=>x=.returned (.pointer r)∧Below w.heap.size w w':=by
 have cn:=h.out w (Below.refl _ _)
 have cf:=OJ made r t ma mn mc ua un uc ra rn rc o ga gn gc
 have CN:=hid cn
 clear cn h
 go_enter func58,ntmps58
 go_wp2_with fail
 refine CN.out.mono ?_;rintro x w1 ⟨rfl,aa⟩
 go_wp2
 go_ret
 exact ⟨rfl,aa⟩
set_option maxHeartbeats 800000 in
theorem nN (h:Nw w e (edN made r t ma mn mc ua un uc ra rn rc o ga gn gc)) (hr:RopeW w r p L s) :
 Calls prog 149 #[.pointer e] w fun x w'=>x=.returned (.int .i64 s.size)∧Below w.heap.size w w':=by
 have cn:=xN h
 have cl:=fun W (hW:Below w.heap.size w W)=>uZ (hr.later hW)
 have CN:=hid cn;have CL:=hid cl
 clear cn cl h hr
 go_enter func149,ntmps149
 go_wp2_with fail
 refine CN.out.mono ?_;rintro x w1 ⟨rfl,aa⟩
 have ab:=hid aa
 clear aa
 go_wp2_with fail
 refine (onward ab.out (CL.out _ ab.out)).mono ?_;rintro x w2 ⟨rfl,ac⟩
 go_wp2
 go_ret
 exact ⟨rfl,ac⟩
end
end Go.Proofs.YtbagenpobcgjnaaGreat
namespace Go.Proofs.YtbagenpobcgjnaaGreat
open Go.Proofs.Tryz
set_option maxRecDepth 100000
open Lib (hid)
variable {T : List Nat}
open Go.RowKit
set_option linter.unusedVariables false
set_option linter.unusedSimpArgs false
set_option maxHeartbeats 1600000 in
theorem xU {m:KPc} {u ro:SPc} {g:EPc} (hk:Blk w b (edC made r t m u ro o g) 100) (hT:InS T w) (hu:SPo (b::T) w u) (y:EPc) (hy:EPo (b::T) w y) (hl:u.l.length≤900) (hb:∀ x∈u.l,x.l.length≤1000000) (hb2:y.l.length≤1000000) :
 Calls prog 155 #[.pointer (some ⟨b,0,none⟩),stpV y.a y.l.length y.c] w fun e w'=>e=.returned (.tuple #[])∧∃ u':SPc,lsP u'.l=pushL (lsP u.l) y.l∧Blk w' b (edC made r t m u' ro o g) 100∧SPo (b::T) w' u'∧Apart [b] w w':=by
 have hbl:b<w.heap.size:=hk.lt
 obtain ⟨ya,yl,yc⟩:=y
 obtain ⟨n,hn⟩:∃ n,yl.length=n:=⟨_,rfl⟩
 dsimp only at hb2 ⊢
 rw [hn]
 obtain ⟨wX,hwX,kS,ab,hz⟩:=box1 w #[.slice ya n yc] 54
 have a1:=hid (hk.onto ab)
 have ac:=hid (kS)
 have ba:=hid ((Apart.of_below ab:Apart [b] w wX))
 have bb:=hid (Nat.le_refl wX.heap.size)
 have af:∀ W:World,wX.heap.size≤W.heap.size→∀ i∈b::w.heap.size::T,i<W.heap.size:=fun W hWz i hi=>by simp only [List.mem_cons] at hi;rcases hi with rfl|rfl|hi;all_goals first|omega|(have:=hT i hi;omega)|(have:=hT i hi;have:=hap.size;omega)
 have cP:=fun W (hW:Below wX.heap.size wX W)=>(fX u.a u.l u.c ⟨ya,yl,yc⟩ W ((hu.later ab).later hW).in ((hy.later ab).later hW).in hl hb hb2).mono fun e w' h=>gU (S:=b::w.heap.size::T) h (af W hW.size)
 simp only [hn] at cP
 have HN:=hid hn;have CP:=hid cP
 clear hk kS hu hy hl hb hb2 cP ab hz af
 obtain ⟨ah,ai,aj,ak,ad,al,am,an,ao,aq,ar,au,av,aw,ax,ay⟩:=a1.out.all8
 obtain ⟨az,a0⟩:=ac.out.all1
 have q4:wX.drew.cell? ⟨b,4,none⟩=some (.slice u.a u.l.length u.c):=ad
 go_enter func155,ntmps155
 go_wp2_with fail
 clear ah ai aj ak ad al am an ao aq ar au av aw ax ay az a0
 refine wp_region_held_drew (S:=(fun W:World=>W.cell? ⟨w.heap.size,0,none⟩=some (.slice ya n yc))) (by kernel_rfl) (ac.out.cell 0 _ rfl) (fun hHeld=>?_)
 refine sqt 0 ?_
 refine sqt 1 ?_
 refine sqt 2 ?_
 refine sqt 3 ?_
 refine sqt 4 ?_
 refine sqt 6 ?_
 refine sqr 5 fun K hK=>?_
 go_simp
 skip
 try go_wp2_with fail
 refine hK.out _ _ ?_ (fun hHeld=>?_)
 ·exact hHeld
 clear hK K
 try simp only [Act.put,sqp]
 refine sqr 7 fun K hK=>?_
 go_simp
 (go_at_call 184;refine (CP.out _ (Below.refl _ _).drew).mono ?_;rintro e w1 ⟨⟨xa,xl,xc⟩,rfl,a2,a3,a4⟩;have aa:Below wX.heap.size wX w1:=(Below.refl _ _).drew.trans a4)
 try go_wp2_with fail
 refine hK.out _ _ ?_ (fun hHeld=>?_)
 ·exact (aa.cell (p:=⟨w.heap.size,0,none⟩) ac.out.lt).trans (ac.out.cell 0 _ rfl)
 clear hK K
 try simp only [Act.put,sqp]
 clear q4 a4 hwX CP
 have ag:=hid (a1.out.onto aa)
 have ae:=hid (ac.out.onto aa)
 have a5:=hid (ba.out.trans (S':=[]) (.of_below aa) (by simp))
 have a6:=hid (Nat.le_trans bb.out aa.size)
 have HL:=hid a2;have a7:=hid a3
 clear a2 a3 aa
 obtain ⟨bf,bg,bh,bi,bj,bk,bl,bm,bn,bo,bp,bq,br,bs,bu,bv⟩:=ag.out.all8
 obtain ⟨bw,bx⟩:=ae.out.all1
 refine sqt 8 ?_
 refine sqt 9 ?_
 refine sqt 10 ?_
 refine sqr 11 fun K hK=>?_
 go_simp
 skip
 try go_wp2_with fail
 refine hK.out _ _ ?_ (fun hHeld=>?_)
 ·exact (ae.out.other ⟨b,4,none⟩ (by show b≠w.heap.size;omega) _).cell 0 _ rfl
 clear hK K
 try simp only [Act.put,sqp]
 refine wpAnyH_done (by kernel_rfl) ?_ _
 have kO:Blk (w1.setCell ⟨b,4,none⟩ (.slice xa xl.length xc)) (b) #[.bool made,.pointer r,.string t,.slice m.a m.l.length m.c,.slice xa xl.length xc,.slice ro.a ro.l.length ro.c,.bool o,.slice g.a g.l.length g.c] 100:=(ag.out.set 4 _)
 have kS:Blk (w1.setCell ⟨b,4,none⟩ (.slice xa xl.length xc)) (w.heap.size) #[.slice ya n yc] 54:=(ae.out.other ⟨b,4,none⟩ (by show b≠w.heap.size;omega) _)
 have ap:Apart (b::w.heap.size::T) w1 (w1.setCell ⟨b,4,none⟩ (.slice xa xl.length xc)):=(Apart.refl (b::w.heap.size::T) w1).setCell (p:=⟨b,4,none⟩) (.inl (by simp)) _
 have rP:=a7.out.apart ap
 have hB:=((a5.out.setCell (p:=⟨b,4,none⟩) (by simp) _):Apart [b] w (w1.setCell ⟨b,4,none⟩ (.slice xa xl.length xc)))
 have hz:(w1.setCell ⟨b,4,none⟩ (.slice xa xl.length xc)).heap.size=w1.heap.size:=by simp
 obtain ⟨v2,a8⟩:∃ V,(w1.setCell ⟨b,4,none⟩ (.slice xa xl.length xc))=V:=⟨_,rfl⟩
 rw [a8] at kO kS rP hB hz
 rw [a8]
 have a9:=hid kO
 have bc:=hid kS
 have bd:=hid rP
 have be:=hid hB
 have ck:=hid (Nat.le_trans a6.out (Nat.le_of_eq hz.symm))
 clear kO kS rP hB hz ap ag ae a7 a5 a6
 obtain ⟨bz,b3,b4,b5,b6,b7,b8,b9,ca,cb,cc,cd,ce,cf,cg,ch⟩:=a9.out.all8
 obtain ⟨ci,cj⟩:=bc.out.all1
 go_wp2
 go_end0
 exact ⟨rfl,⟨xa,xl,xc⟩,HL.out,a9.out,bd.out.wide (S':=b::T) (fun i hi=>.inl (by simp only [List.mem_cons] at hi ⊢;rcases hi with h|h <;> simp [h])),be.out⟩
set_option maxHeartbeats 800000 in
theorem xZ {m:KPc} {u ro:SPc} {g:EPc} (hk:Blk w b (edC made r t m u ro o g) 100) (a:Option Addr) (n c:Nat) :
 Calls prog 150 #[.pointer (some ⟨b,0,none⟩),.slice a n c,.int .i64 0] w fun e w'=>e=.returned (.int .i64 0)∧Blk w' b #[.bool made,.pointer r,.string t,.slice a n c,.slice u.a u.l.length u.c,.slice ro.a ro.l.length ro.c,.bool o,.slice g.a g.l.length g.c] 100∧Apart [b] w w':=by
 have hbl:b<w.heap.size:=hk.lt
 have aa:=hid (hk)
 have ab:=hid ((Apart.refl [b] w))
 have ac:=hid (Nat.le_refl w.heap.size)
 clear hk
 obtain ⟨ag,ah,ai,aj,ak,al,am,an,ao,aq,ar,au,av,aw,ax,ay⟩:=aa.out.all8
 go_enter func150,ntmps150
 have kO:Blk (w.setCell ⟨b,3,none⟩ (.slice a n c)) (b) #[.bool made,.pointer r,.string t,.slice a n c,.slice u.a u.l.length u.c,.slice ro.a ro.l.length ro.c,.bool o,.slice g.a g.l.length g.c] 100:=(aa.out.set 3 _)
 have hB:=((ab.out.setCell (p:=⟨b,3,none⟩) (by simp) _):Apart [b] w (w.setCell ⟨b,3,none⟩ (.slice a n c)))
 have hz:(w.setCell ⟨b,3,none⟩ (.slice a n c)).heap.size=w.heap.size:=by simp
 obtain ⟨v1,ae⟩:∃ V,(w.setCell ⟨b,3,none⟩ (.slice a n c))=V:=⟨_,rfl⟩
 rw [ae] at kO hB hz
 have ad:=hid kO
 have af:=hid hB
 have bf:=hid (Nat.le_trans ac.out (Nat.le_of_eq hz.symm))
 clear kO hB hz aa ab ac
 obtain ⟨az,a0,a1,a2,a3,a4,a5,a6,a7,a8,a9,ba,bb,bc,bd,be⟩:=ad.out.all8
 go_wp2
 go_ret
 exact ⟨rfl,ad.out,af.out⟩
set_option maxHeartbeats 800000 in
theorem oE (w:World) (p:Option Addr) (v:Value) (E:Int) (hE:E≠0) :
 Calls prog 150 #[.pointer p,v,.int .i64 E] w fun e w'=>e=.returned (.int .i64 E)∧w=w':=by
 have h0:(E == 0)=false:=beq_eq_false_iff_ne.2 hE
 go_enter func150,ntmps150
 go_wp2
 go_ret
 exact ⟨rfl,rfl⟩
set_option maxHeartbeats 1600000 in
theorem lJ {m:KPc} {u ro:SPc} {g:EPc} (hk:Blk w b (edC made r t m u ro o g) 100) (hT:InS T w) (hm:KPo (b::T) w m) (hml:m.l.length≤1000000) (hmc:m.l.length≤m.c∧m.c≤maxLen) (r':Option Addr) (x:EPc) (hx:EPo (b::T) w x) (hxl:x.l.length≤100000) (hz:Edtz x.l 140737488355328) (hp:∀ y∈x.l,0≤y.p∧y.p≤4096)
 (hms:∀ k,k≤x.l.length→∀ y∈shfL m.l (x.l.take k),-2305843009213693952≤y.p∧y.p≤2305843009213693952) :
 Calls prog 177 #[.pointer (some ⟨b,0,none⟩),.pointer r',.slice x.a x.l.length x.c] w fun e w'=>e=.returned (.tuple #[])∧∃ m':KPc,m'.l=shfL m.l x.l∧(m'.l.length≤m'.c∧m'.c≤maxLen)∧Blk w' b (edC made r' t m' u ro o g) 100∧KPo (b::T) w' m'∧Apart [b] w w':=by
 have hbl:b<w.heap.size:=hk.lt
 obtain ⟨xa,l,xc⟩:=x
 dsimp only at hxl hz hp hms ⊢
 obtain ⟨n,hn⟩:∃ n,l.length=n:=⟨_,rfl⟩
 rw [hn] at hxl hms ⊢
 have ac:=hid (hk)
 have az:=hid ((Apart.refl [b] w))
 have a0:=hid (Nat.le_refl w.heap.size)
 clear hk
 obtain ⟨ah,ai,aj,ab,ak,al,am,an,ao,aq,ar,au,av,aw,ax,ay⟩:=ac.out.all8
 have HX:=hid hx;have HM:=hid hm;have HZ:=hid hz;have HP:=hid hp;have b4:=hid hms;have b5:=hid hml;have b6:=hid hmc;have HN:=hid hn
 clear hx hm hz hp hms hml hmc hn
 go_enter func177,ntmps177
 have kO:Blk (w.setCell ⟨b,1,none⟩ (.pointer r')) (b) #[.bool made,.pointer r',.string t,.slice m.a m.l.length m.c,.slice u.a u.l.length u.c,.slice ro.a ro.l.length ro.c,.bool o,.slice g.a g.l.length g.c] 100:=(ac.out.set 1 _)
 have hB:=((az.out.setCell (p:=⟨b,1,none⟩) (by simp) _):Apart [b] w (w.setCell ⟨b,1,none⟩ (.pointer r')))
 have hz:(w.setCell ⟨b,1,none⟩ (.pointer r')).heap.size=w.heap.size:=by simp
 obtain ⟨v1,bu⟩:∃ V,(w.setCell ⟨b,1,none⟩ (.pointer r'))=V:=⟨_,rfl⟩
 rw [bu] at kO hB hz
 have ae:=hid kO
 have af:=hid hB
 have bk:=hid (Nat.le_trans a0.out (Nat.le_of_eq hz.symm))
 clear kO hB hz ac az a0
 obtain ⟨a1,a2,a4,a5,a6,a7,a8,a9,ba,bb,bc,bd,be,bf,bg,bh⟩:=ae.out.all8
 go_wp2
 clear ah ai aj ab ak al am an ao aq ar au av aw ax ay bu a1 a2 a4 a5 a6 a7 a8 a9 ba bb bc bd be bf bg bh
 go_loopw [14] (fun i wr=>∃ (k:Nat) (m':KPc),k≤n∧i=.int .i64 k∧m'.l=shfL m.l (l.take k)∧(m'.l.length≤m'.c∧m'.c≤maxLen)∧Blk wr b #[.bool made,.pointer r',.string t,.slice m'.a m'.l.length m'.c,.slice u.a u.l.length u.c,.slice ro.a ro.l.length ro.c,.bool o,.slice g.a g.l.length g.c] 100∧KPo (b::T) wr m'∧EPo (b::T) wr ⟨xa,l,xc⟩∧Apart [b] w wr) (fun i _=>n - (intOf i).toNat)
 case atStart=>exact ⟨0,m,Nat.zero_le _,rfl,rfl,b6.out,ae.out,HM.out.apart (af.out.more (by simp)),HX.out.apart (af.out.more (by simp)),af.out⟩
 case round =>
  obtain ⟨k,⟨ma,ml,mc⟩,hk,rfl,hml,hmc,hblk,hkm,hkx,hap⟩:=hrel
  dsimp only at hml hmc hblk
  by_cases hlt:k<n
  ·have hkl:k<l.length:=by rw [HN.out];exact hlt
   obtain ⟨ad,rfl,hab,q0,q1,q2⟩:=hkx.in.row.at k hkl
   obtain ⟨s1,s2⟩:=HZ.out.at k hkl
   have sp:=HP.out (l[k]!) (by rw [eget hkl];exact List.getElem_mem hkl)
   have sn:=FQ m.l l k hkl
   have sm:=b4.out k hk
   rw [← hml] at sn sm
   obtain ⟨x,hx⟩:∃ x,l[k]! = x:=⟨_,rfl⟩
   rw [hx] at q0 q1 q2 s1 s2 sp sn
   obtain ⟨p,eo,en⟩:=x
   simp only at q0 q1 q2 s1 s2 sp sn
   have da:b<wr.heap.size:=hblk.lt
   have mle:ml.length≤1000000:=by rw [hml,JM];exact b5.out
   obtain ⟨wE,hwE,kE,hb,hz⟩:=box1 wr #[.int .i64 p,.string eo,.string en] 92
   have q3:wr.cell? ⟨b,3,none⟩=some (.slice ma ml.length mc):=hblk.cell 3 _ rfl
   have ac:=hid (hblk.onto hb)
   have ag:=hid (kE)
   have b7:=hid ((hkx.wide (S':=b::wr.heap.size::T) (wide2 (Nat.le_refl _))).later hb)
   have az:=hid (hap.trans (S':=[]) (.of_below hb) (by simp))
   have a0:=hid (Nat.le_refl wE.heap.size)
   have bl:∀ W:World,wE.heap.size≤W.heap.size→∀ i∈b::wr.heap.size::T,i<W.heap.size:=fun W hWz i hi=>by simp only [List.mem_cons] at hi;rcases hi with rfl|rfl|hi;all_goals first|omega|(have:=hT i hi;omega)|(have:=hT i hi;have:=hap.size;omega)
   have cs:=fun W (hW:Below wE.heap.size wE W)=>wA ma ml mc p eo en W (KPo.pcs ((hkm.later hb).later hW)) mle s1 s2 (by omega) sm
   have CS:=hid cs;have SN:=hid sn;have b8:=hid bl;have db:=hid hap
   have b0:(0:Int)≤(k:Int):=by omega
   have b1:(k:Int)<(n:Int):=by omega
   clear cs sn bl hkx hkm hblk hap hb hz kE hx s1 s2 sp sm hml mle hab hkl
   obtain ⟨ah,ai,aj,ab,ak,al,am,an,ao,aq,ar,au,av,aw,ax,ay⟩:=ac.out.all8
   obtain ⟨bn,bo,bp,bq,br,bs⟩:=ag.out.all3
   have q5:wE.drew.cell? ⟨b,3,none⟩=some (.slice ma ml.length mc):=ab
   go_wp2_with fail
   clear ah ai aj ab ak al am an ao aq ar au av aw ax ay bn bo bp bq br bs
   refine wp_region_held_drew (S:=(fun W:World=>W.cell? ⟨wr.heap.size,0,none⟩=some (.int .i64 p)∧W.cell? ⟨wr.heap.size,1,none⟩=some (.string eo)∧W.cell? ⟨wr.heap.size,2,none⟩=some (.string en))) (by kernel_rfl) ⟨ag.out.cell 0 _ rfl,ag.out.cell 1 _ rfl,ag.out.cell 2 _ rfl⟩ (fun hHeld=>?_)
   refine sqt 0 ?_
   refine sqt 1 ?_
   refine sqt 2 ?_
   refine sqt 3 ?_
   refine sqt 4 ?_
   refine sqt 6 ?_
   clear q0 q1 q2 q3
   refine sqr 5 fun K hK=>?_
   go_simp
   skip
   try go_wp2_with fail
   refine hK.out _ _ ?_ (fun hHeld=>?_)
   ·exact hHeld
   clear hK K
   try simp only [Act.put,sqp]
   refine sqr 7 fun K hK=>?_
   go_simp
   (go_at_call 202;refine (CS.out _ (Below.refl _ _).drew).mono ?_;rintro e w1 ⟨a3,c3,rfl,bi,bv⟩;have aa:Below wE.heap.size wE w1:=(Below.refl _ _).drew.trans bv)
   try go_wp2_with fail
   refine hK.out _ _ ?_ (fun hHeld=>?_)
   ·exact (by have h:=ag.out.onto aa;exact ⟨h.cell 0 _ rfl,h.cell 1 _ rfl,h.cell 2 _ rfl⟩)
   clear hK K
   try simp only [Act.put,sqp]
   clear q5 bv hwE CS
   have ae:=hid (ac.out.onto aa)
   have bj:=hid (ag.out.onto aa)
   have bw:=hid (b7.out.later aa)
   have af:=hid (az.out.trans (S':=[]) (.of_below aa) (by simp))
   have bk:=hid (Nat.le_trans a0.out aa.size)
   have bm:=hid (bi.off (S:=b::wr.heap.size::T) (b8.out _ (Nat.le_refl _)))
   have bx:=hid (And.intro bi.le bi.cap)
   clear bi aa
   obtain ⟨q,hq⟩:∃ q,shfM ml (shiftI p eo.size en.size)=q:=⟨_,rfl⟩
   have HQ:=hid hq
   rw [hq] at bm bx ⊢
   clear hq
   obtain ⟨a1,a2,a4,a5,a6,a7,a8,a9,ba,bb,bc,bd,be,bf,bg,bh⟩:=ae.out.all8
   obtain ⟨cd,ce,cf,cg,ch,ci⟩:=bj.out.all3
   refine sqt 8 ?_
   refine sqt 9 ?_
   refine sqt 10 ?_
   refine sqr 11 fun K hK=>?_
   go_simp
   skip
   try go_wp2_with fail
   refine hK.out _ _ ?_ (fun hHeld=>?_)
   ·exact (by have h:=bj.out.other ⟨b,3,none⟩ (by show b≠wr.heap.size;omega) (.slice a3 q.length c3);exact ⟨h.cell 0 _ rfl,h.cell 1 _ rfl,h.cell 2 _ rfl⟩)
   clear hK K
   try simp only [Act.put,sqp]
   refine wpAnyH_done (by kernel_rfl) ?_ _
   have kO:Blk (w1.setCell ⟨b,3,none⟩ (.slice a3 q.length c3)) (b) #[.bool made,.pointer r',.string t,.slice a3 q.length c3,.slice u.a u.l.length u.c,.slice ro.a ro.l.length ro.c,.bool o,.slice g.a g.l.length g.c] 100:=(ae.out.set 3 _)
   have kE:Blk (w1.setCell ⟨b,3,none⟩ (.slice a3 q.length c3)) (wr.heap.size) #[.int .i64 p,.string eo,.string en] 92:=(bj.out.other ⟨b,3,none⟩ (by show b≠wr.heap.size;omega) _)
   have ap:Apart (b::wr.heap.size::T) w1 (w1.setCell ⟨b,3,none⟩ (.slice a3 q.length c3)):=(Apart.refl (b::wr.heap.size::T) w1).setCell (p:=⟨b,3,none⟩) (.inl (by simp)) _
   have rX:=bw.out.apart ap
   have rM:=bm.out.apart ap
   have hB:=((af.out.setCell (p:=⟨b,3,none⟩) (by simp) _):Apart [b] w (w1.setCell ⟨b,3,none⟩ (.slice a3 q.length c3)))
   have hz:(w1.setCell ⟨b,3,none⟩ (.slice a3 q.length c3)).heap.size=w1.heap.size:=by simp
   obtain ⟨v2,bz⟩:∃ V,(w1.setCell ⟨b,3,none⟩ (.slice a3 q.length c3))=V:=⟨_,rfl⟩
   rw [bz] at kO kE rX rM hB hz
   rw [bz]
   have b3:=hid kO
   have b9:=hid kE
   have ca:=hid rX
   have cb:=hid rM
   have cc:=hid hB
   have dc:=hid (Nat.le_trans bk.out (Nat.le_of_eq hz.symm))
   clear kO kE rX rM hB hz ap ae bj bw bm af bk
   obtain ⟨cj,ck,cl,cm,cn,co,cp,cq,cr,ct,cu,cv,cw,cx,cy,cz⟩:=b3.out.all8
   obtain ⟨c4,c5,c6,c7,c8,c9⟩:=b9.out.all3
   go_wp2
   go_roundw
   case rel=>exact ⟨k+1,⟨a3,q,c3⟩,by omega,by go_num,by show q=_;rw [SN.out,HQ.out],bx.out,b3.out,cb.out.wide (S':=b::T) (fun i hi=>.inl (by simp only [List.mem_cons] at hi ⊢;rcases hi with h|h <;> simp [h])),ca.out.wide (S':=b::T) (fun i hi=>.inl (by simp only [List.mem_cons] at hi ⊢;rcases hi with h|h <;> simp [h])),cc.out⟩
   case measure=>simp [intOf];omega
  ·obtain rfl:k=n:=by omega
   rw [← HN.out,List.take_length] at hml
   have HR:=hid (And.intro hml (And.intro hmc (And.intro hblk (And.intro hkm hap))))
   clear hml hmc hblk hkm hkx hap
   go_wp2
   go_end0
   exact ⟨rfl,⟨ma,ml,mc⟩,HR.out.1,HR.out.2.1,HR.out.2.2.1,HR.out.2.2.2.1,HR.out.2.2.2.2⟩
set_option maxHeartbeats 800000 in
theorem sU {m:KPc} {u ro:SPc} {g:EPc} (h:IsEd T w b ⟨t,m,u,ro,so,g⟩ rb p L) (r':Option Addr) (x:Int) (eo en:ByteArray) (ho:eo.size≤140737488355328) (hn:en.size≤140737488355328) (hx:512<eo.size+en.size):Calls prog 146 #[.pointer (some ⟨b,0,none⟩),.pointer r',edV x eo en] w (RetEd T w b ((Sta.d ⟨t,m,u,ro,so,g⟩),6)):=by
 have hbl:b<w.heap.size:=h.lt
 obtain ⟨wX,hwX,kE,aa,hz⟩:=box1 w #[.int .i64 x,.string eo,.string en] 92
 have ac:=hid (show Blk wX b #[.bool true,.pointer (some ⟨rb,0,none⟩),.string ⟨#[]⟩,.slice m.a m.l.length m.c,.slice u.a u.l.length u.c,.slice ro.a ro.l.length ro.c,.bool so,.slice g.a g.l.length g.c] 100 from h.blk.onto aa)
 have ad:=hid (kE)
 have a4:=hid ((h.rows.wide (S':=b::w.heap.size::T) (wide2 (Nat.le_refl _))).later aa)
 have ae:=hid ((Apart.of_below aa:Apart [b] w wX))
 have a5:=hid (Nat.le_refl wX.heap.size)
 have ab:∀ W:World,wX.heap.size≤W.heap.size→∀ i∈b::w.heap.size::T,i<W.heap.size:=fun W hWz i hi=>by simp only [List.mem_cons] at hi;rcases hi with rfl|rfl|hi;all_goals first|omega|(have:=h.tlt i hi;omega)
 have a6:=hid ab;have H:=hid h;have HB:=hid aa
 clear ab kE
 obtain ⟨af,ag,ah,ai,aj,ak,al,am,an,ao,aq,ar,au,av,aw,ax⟩:=ac.out.all8
 obtain ⟨ay,az,a0,a1,a2,a3⟩:=ad.out.all3
 have gz:(512:Int)<(eo.size:Int)+(en.size:Int):=by omega
 clear h aa hz
 go_enter func146,ntmps146
 go_wp2
 go_ret
 exact ⟨⟨t,m,u,ro,so,g⟩,rb,p,L,rfl,H.out.later (by rw [← hwX];exact below1 _ _),rfl,ae.out⟩
set_option maxHeartbeats 800000 in
theorem tI {m:KPc} {u ro:SPc} {g:EPc} (h:IsEd T w b ⟨t,m,u,ro,so,g⟩ rb p L) (r':Option Addr) (x:Int) (eo en:ByteArray) (ho:eo.size≤140737488355328) (hn:en.size≤140737488355328) (hx:eo.size+en.size=0):Calls prog 146 #[.pointer (some ⟨b,0,none⟩),.pointer r',edV x eo en] w (RetEd T w b ((Sta.d ⟨t,m,u,ro,so,g⟩),0)):=by
 have hbl:b<w.heap.size:=h.lt
 obtain ⟨wX,hwX,kE,aa,hz⟩:=box1 w #[.int .i64 x,.string eo,.string en] 92
 have ac:=hid (show Blk wX b #[.bool true,.pointer (some ⟨rb,0,none⟩),.string ⟨#[]⟩,.slice m.a m.l.length m.c,.slice u.a u.l.length u.c,.slice ro.a ro.l.length ro.c,.bool so,.slice g.a g.l.length g.c] 100 from h.blk.onto aa)
 have ad:=hid (kE)
 have a4:=hid ((h.rows.wide (S':=b::w.heap.size::T) (wide2 (Nat.le_refl _))).later aa)
 have ae:=hid ((Apart.of_below aa:Apart [b] w wX))
 have a5:=hid (Nat.le_refl wX.heap.size)
 have ab:∀ W:World,wX.heap.size≤W.heap.size→∀ i∈b::w.heap.size::T,i<W.heap.size:=fun W hWz i hi=>by simp only [List.mem_cons] at hi;rcases hi with rfl|rfl|hi;all_goals first|omega|(have:=h.tlt i hi;omega)
 have a6:=hid ab;have H:=hid h;have HB:=hid aa
 clear ab kE
 obtain ⟨af,ag,ah,ai,aj,ak,al,am,an,ao,aq,ar,au,av,aw,ax⟩:=ac.out.all8
 obtain ⟨ay,az,a0,a1,a2,a3⟩:=ad.out.all3
 have gz:(eo.size:Int)+(en.size:Int)≤512:=by omega
 have gy:(eo.size:Int)+(en.size:Int)=0:=by omega
 clear h aa hz
 go_enter func146,ntmps146
 go_wp2
 go_ret
 exact ⟨⟨t,m,u,ro,so,g⟩,rb,p,L,rfl,H.out.later (by rw [← hwX];exact below1 _ _),rfl,ae.out⟩
set_option maxHeartbeats 1600000 in
theorem sL {m:KPc} {u ro:SPc} {g:EPc} (h:IsEd T w b ⟨t,m,u,ro,true,g⟩ rb p L) (r':Option Addr) (x:Int) (eo en:ByteArray) (ho:eo.size≤140737488355328) (hn:en.size≤140737488355328) (hx:eo.size+en.size≤512) (hy:1≤eo.size+en.size) (h2:32≤g.l.length):Calls prog 146 #[.pointer (some ⟨b,0,none⟩),.pointer r',edV x eo en] w (RetEd T w b ((Sta.d ⟨t,m,u,ro,true,g⟩),9)):=by
 have hbl:b<w.heap.size:=h.lt
 have hgl:g.l.length≤32:=h.inv.gl
 have hadd:addS g.l ⟨x,eo,en⟩=([],9):=by unfold addS;rw [if_pos h2]
 obtain ⟨wX,hwX,kE,af,hz⟩:=box1 w #[.int .i64 x,.string eo,.string en] 92
 have aq:=hid (show Blk wX b #[.bool true,.pointer (some ⟨rb,0,none⟩),.string ⟨#[]⟩,.slice m.a m.l.length m.c,.slice u.a u.l.length u.c,.slice ro.a ro.l.length ro.c,.bool true,.slice g.a g.l.length g.c] 100 from h.blk.onto af)
 have ag:=hid (kE)
 have ar:=hid ((h.rows.wide (S':=b::w.heap.size::T) (wide2 (Nat.le_refl _))).later af)
 have cg:=hid ((Apart.of_below af:Apart [b] w wX))
 have ch:=hid (Nat.le_refl wX.heap.size)
 have au:∀ W:World,wX.heap.size≤W.heap.size→∀ i∈b::w.heap.size::T,i<W.heap.size:=fun W hWz i hi=>by simp only [List.mem_cons] at hi;rcases hi with rfl|rfl|hi;all_goals first|omega|(have:=h.tlt i hi;omega)
 have cl:=hid au;have H:=hid h;have HB:=hid af
 clear au kE
 obtain ⟨az,a0,a1,a2,a3,a5,a6,a7,a8,a9,ba,bb,bc,bd,be,bf⟩:=aq.out.all8
 obtain ⟨bg,bh,bi,bj,bk,bl⟩:=ag.out.all3
 have ca:=fun W (hW:Below wX.heap.size wX W)=>mT g.a g.l g.c ⟨x,eo,en⟩ W ((h.rows.g.later af).later hW).in (by omega)
 rw [hadd] at ca
 have CA:=hid ca
 have hzl:w.heap.size<wX.heap.size:=by omega
 clear h af hz ca hadd
 have gz:(eo.size:Int)+(en.size:Int)≤512:=by omega
 have gy:¬ (eo.size:Int)+(en.size:Int)=0:=by omega
 go_enter func146,ntmps146
 have hfs:∀ W,Below wX.heap.size wX W→W.cell? ⟨b,7,none⟩=some (.slice g.a g.l.length g.c)∧W.cell? ⟨w.heap.size,0,none⟩=some (.int .i64 x)∧W.cell? ⟨w.heap.size,1,none⟩=some (.string eo)∧W.cell? ⟨w.heap.size,2,none⟩=some (.string en):=fun W h=>⟨(aq.out.onto h).cell 7 _ rfl,(ag.out.onto h).cell 0 _ rfl,(ag.out.onto h).cell 1 _ rfl,(ag.out.onto h).cell 2 _ rfl⟩
 have FS:=hid hfs
 clear hfs
 go_wp2_with fail
 clear az a0 a1 a2 a3 a5 a6 a7 a8 a9 ba bb bc bd be bf bg bh bi bj bk bl
 refine wp_region_held_drew (S:=(fun W:World=>W.cell? ⟨b,7,none⟩=some (.slice g.a g.l.length g.c)∧W.cell? ⟨w.heap.size,0,none⟩=some (.int .i64 x)∧W.cell? ⟨w.heap.size,1,none⟩=some (.string eo)∧W.cell? ⟨w.heap.size,2,none⟩=some (.string en))) (by kernel_rfl) (FS.out _ (Below.refl _ _).drew) (fun hHeld=>?_)
 refine sqt 0 ?_
 refine sqt 1 ?_
 refine sqt 2 ?_
 refine sqt 3 ?_
 refine sqt 4 ?_
 refine sqt 5 ?_
 refine sqt 6 ?_
 clear hwX
 refine wpAnyH_ready (rs:=[7,11]) (by kernel_rfl) (by simp) ?_
 refine AllReadyH.cons (by simp only [sqg];rfl) (fun K hK=>?_) (AllReadyH.cons (by simp only [sqg];rfl) (fun K hK=>?_) AllReadyH.nil)
 ·go_simp
  (go_at_call 176;refine (CA.out _ (Below.refl _ _).drew).mono ?_;rintro e w1 ⟨a4,c4,rfl,aj,ah⟩;have aa:Below wX.heap.size wX w1:=(Below.refl _ _).drew.trans ah)
  try go_wp2_with fail
  refine hK.out _ _ ?_ (fun hHeld=>?_)
  ·exact FS.out _ aa
  clear hK K
  try simp only [Act.put,sqp]
  have ac:=hid (aq.out.onto aa)
  have ab:=hid (ag.out.onto aa)
  have ai:=hid (ar.out.later aa)
  have ak:=hid (cg.out.trans (S':=[]) (.of_below aa) (by simp))
  have al:=hid (Nat.le_trans ch.out aa.size)
  have am:=hid (aj.off (S:=b::w.heap.size::T) (cl.out _ (Nat.le_refl _)))
  clear aj ah CA
  refine sqt 8 ?_
  refine sqt 9 ?_
  refine sqt 10 ?_
  refine sqr 11 fun K hK=>?_
  go_simp
  skip
  try go_wp2_with fail
  refine hK.out _ _ ?_ (fun hHeld=>?_)
  ·exact FS.out _ (aa.alloc aa.size _)
  clear hK K
  try simp only [Act.put,sqp]
  refine sqr 12 fun K hK=>?_
  go_simp
  skip
  try go_wp2_with fail
  refine hK.out _ _ ?_ (fun hHeld=>?_)
  ·exact FS.out _ (aa.alloc aa.size _)
  clear hK K
  try simp only [Act.put,sqp]
  refine sqt 13 ?_
  refine wpAnyH_done (by kernel_rfl) ?_ _
  have dh:wX.heap.size≤w1.heap.size:=aa.size
  clear aa
  obtain ⟨cm,hwA1,kA,hbA,hzA⟩:=box1 w1 #[.slice a4 0 c4] 54
  have an:=hid (ac.out.onto hbA)
  have av:=hid (ab.out.onto hbA)
  have ad:=hid (ai.out.later hbA)
  have ao:=hid (am.out.later hbA)
  have ae:=hid (ak.out.trans (S':=[]) (.of_below hbA) (by simp))
  have cn:=hid (Nat.le_trans al.out hbA.size)
  have aw:=hid kA
  have ax:w1.heap.size<cm.heap.size:=by omega
  have di:=hid ax
  clear kA hbA hzA ax ac ab ai am ak al
  obtain ⟨bm,bn,bo,bp,bq,br,bs,bu,bv,bw,bx,bz,b3,b4,b5,b6⟩:=an.out.all8
  obtain ⟨b7,b8,b9,cb,cc,cd⟩:=av.out.all3
  obtain ⟨ce,cf⟩:=aw.out.all1
  rw [hwA1]
  replace ad:=hid (ad.out.wide (S':=b::T) (fun i hi=>.inl (by simp only [List.mem_cons] at hi ⊢;rcases hi with h|h <;> simp [h])))
  replace ao:=hid (ao.out.wide (S':=b::T) (fun i hi=>.inl (by simp only [List.mem_cons] at hi ⊢;rcases hi with h|h <;> simp [h])))
  go_wp2
  go_ret
  exact ⟨⟨t,m,u,ro,true,g⟩,rb,p,L,rfl,⟨an.out,H.out.rope.apart H.out.blk rfl ae.out,ad.out,H.out.ml,H.out.mc,H.out.inv,fun i hi=>Nat.lt_of_lt_of_le (H.out.tlt i hi) (ae.out).size⟩,rfl,ae.out⟩
 ·go_simp
  have BSA:=hid ((Below.refl wX.heap.size wX).drew.alloc (Nat.le_refl _) (.cells #[.slice none 0 0] 54));have ci:=hid (Blk.new wX.drew #[.slice none 0 0] 54)
  try go_wp2_with fail
  refine hK.out _ _ ?_ (fun hHeld=>?_)
  ·exact FS.out _ BSA.out
  clear hK K
  try simp only [Act.put,sqp]
  refine sqr 7 fun K hK=>?_
  go_simp
  (go_at_call 176;refine (CA.out _ BSA.out).mono ?_;rintro e w1 ⟨a4,c4,rfl,aj,ah⟩;have aa:Below wX.heap.size wX w1:=BSA.out.trans (ah.mono BSA.out.size))
  try go_wp2_with fail
  refine hK.out _ _ ?_ (fun hHeld=>?_)
  ·exact FS.out _ aa
  clear hK K
  try simp only [Act.put,sqp]
  have ac:=hid (aq.out.onto aa)
  have ab:=hid (ag.out.onto aa)
  have ai:=hid (ar.out.later aa)
  have ak:=hid (cg.out.trans (S':=[]) (.of_below aa) (by simp))
  have al:=hid (Nat.le_trans ch.out aa.size)
  have ay:=hid (show Blk w1 wX.heap.size #[.slice none 0 0] 54 from ci.out.onto ah)
  have am:=hid (aj.off (S:=b::w.heap.size::wX.heap.size::T) (fun i hi=>by
   have hs:wX.heap.size+1≤(World.alloc wX.drew (.cells #[.slice none 0 0] 54)).heap.size:=by simp
   simp only [List.mem_cons,List.not_mem_nil,or_false] at hi
   have dj:(World.alloc wX.drew (.cells #[.slice none 0 0] 54)).heap.size=(World.alloc wX (.cells #[.slice none 0 0] 54)).heap.size:=by simp
   rcases hi with rfl|rfl|rfl|hi
   ·exact Nat.lt_of_lt_of_le (by omega) hs
   ·exact Nat.lt_of_lt_of_le (by omega) hs
   ·exact hs
   ·exact Nat.lt_of_lt_of_le (by have:=H.out.tlt i hi;omega) hs))
  replace ai:=hid (((ar.out.wide (S':=b::w.heap.size::wX.heap.size::T) (wide3 (Nat.le_refl _))).later aa))
  clear aj ah CA ci
  refine sqt 8 ?_
  refine sqt 9 ?_
  refine sqt 10 ?_
  obtain ⟨co,cp,cq,cr,ct,cu,cv,cw,cx,cy,cz,c3,c5,c6,c7,c8⟩:=ac.out.all8
  obtain ⟨c9,da,db,dc,dd,de⟩:=ab.out.all3
  obtain ⟨df,dg⟩:=ay.out.all1
  have ck:w1.cell? ⟨b,7,none⟩=some (.slice g.a g.l.length g.c):=ac.out.cell 7 _ rfl
  refine sqr 12 fun K hK=>?_
  go_simp
  skip
  try go_wp2_with fail
  refine hK.out _ _ ?_ (fun hHeld=>?_)
  ·exact ⟨(ac.out.other ⟨wX.heap.size,0,none⟩ (by show wX.heap.size≠b;omega) _).cell 7 _ rfl,(ab.out.other ⟨wX.heap.size,0,none⟩ (by show wX.heap.size≠w.heap.size;omega) _).cell 0 _ rfl,(ab.out.other ⟨wX.heap.size,0,none⟩ (by show wX.heap.size≠w.heap.size;omega) _).cell 1 _ rfl,(ab.out.other ⟨wX.heap.size,0,none⟩ (by show wX.heap.size≠w.heap.size;omega) _).cell 2 _ rfl⟩
  clear hK K
  try simp only [Act.put,sqp]
  refine sqt 13 ?_
  refine wpAnyH_done (by kernel_rfl) ?_ _
  clear aa ck BSA
  have kT:Blk (w1.setCell ⟨wX.heap.size,0,none⟩ (.slice a4 0 c4)) (wX.heap.size) #[.slice a4 0 c4] 54:=(ay.out.set 0 _)
  have kO:Blk (w1.setCell ⟨wX.heap.size,0,none⟩ (.slice a4 0 c4)) (b) #[.bool true,.pointer (some ⟨rb,0,none⟩),.string ⟨#[]⟩,.slice m.a m.l.length m.c,.slice u.a u.l.length u.c,.slice ro.a ro.l.length ro.c,.bool true,.slice g.a g.l.length g.c] 100:=(ac.out.other ⟨wX.heap.size,0,none⟩ (by show wX.heap.size≠b;omega) _)
  have kE:Blk (w1.setCell ⟨wX.heap.size,0,none⟩ (.slice a4 0 c4)) (w.heap.size) #[.int .i64 x,.string eo,.string en] 92:=(ab.out.other ⟨wX.heap.size,0,none⟩ (by show wX.heap.size≠w.heap.size;omega) _)
  have ap:Apart (b::w.heap.size::wX.heap.size::T) w1 (w1.setCell ⟨wX.heap.size,0,none⟩ (.slice a4 0 c4)):=(Apart.refl (b::w.heap.size::wX.heap.size::T) w1).setCell (p:=⟨wX.heap.size,0,none⟩) (.inl (by simp)) _
  have rS:=ai.out.apart ap
  have rG:=am.out.apart ap
  have hB:=((ak.out.setCell (p:=⟨wX.heap.size,0,none⟩) (by right;show w.heap.size≤wX.heap.size;omega) _):Apart [b] w (w1.setCell ⟨wX.heap.size,0,none⟩ (.slice a4 0 c4)))
  have hz:(w1.setCell ⟨wX.heap.size,0,none⟩ (.slice a4 0 c4)).heap.size=w1.heap.size:=by simp
  obtain ⟨v2,cj⟩:∃ V,(w1.setCell ⟨wX.heap.size,0,none⟩ (.slice a4 0 c4))=V:=⟨_,rfl⟩
  rw [cj] at kO kE kT rS rG hB hz
  rw [cj]
  have an:=hid kO
  have av:=hid kE
  have aw:=hid kT
  have ad:=hid rS
  have ao:=hid rG
  have ae:=hid hB
  have cn:=hid (Nat.le_trans al.out (Nat.le_of_eq hz.symm))
  clear kO kE kT rS rG hB hz ap ac ab ay ai am ak al
  obtain ⟨bm,bn,bo,bp,bq,br,bs,bu,bv,bw,bx,bz,b3,b4,b5,b6⟩:=an.out.all8
  obtain ⟨b7,b8,b9,cb,cc,cd⟩:=av.out.all3
  obtain ⟨ce,cf⟩:=aw.out.all1
  replace ad:=hid (ad.out.wide (S':=b::T) (fun i hi=>.inl (by simp only [List.mem_cons] at hi ⊢;rcases hi with h|h <;> simp [h])))
  replace ao:=hid (ao.out.wide (S':=b::T) (fun i hi=>.inl (by simp only [List.mem_cons] at hi ⊢;rcases hi with h|h <;> simp [h])))
  go_wp2
  go_ret
  exact ⟨⟨t,m,u,ro,true,g⟩,rb,p,L,rfl,⟨an.out,H.out.rope.apart H.out.blk rfl ae.out,ad.out,H.out.ml,H.out.mc,H.out.inv,fun i hi=>Nat.lt_of_lt_of_le (H.out.tlt i hi) (ae.out).size⟩,rfl,ae.out⟩
set_option maxHeartbeats 3200000 in
theorem tC {m:KPc} {u ro:SPc} {g:EPc} (h:IsEd T w b ⟨t,m,u,ro,true,g⟩ rb p L) (x:Int) (eo en:ByteArray) (ho:eo.size≤140737488355328) (hn:en.size≤140737488355328) (hx:eo.size+en.size≤512) (hy:1≤eo.size+en.size) {rb':Nat} {p':Option Addr} {L':List ByteArray} (hap:appE t x eo en=(t',0)) (hr:RopeW w (some ⟨rb',0,none⟩) p' L' t') (h2:g.l.length<32):Calls prog 146 #[.pointer (some ⟨b,0,none⟩),.pointer (some ⟨rb',0,none⟩),edV x eo en] w (RetEd T w b (editD (Sta.d ⟨t,m,u,ro,true,g⟩) ⟨x,eo,en⟩)):=by
 have hbl:b<w.heap.size:=h.lt
 have hadd:addS g.l ⟨x,eo,en⟩=(g.l++[⟨x,eo,en⟩],0):=by unfold addS;rw [if_neg (by omega)]
 have hok:okE5 ⟨x,eo,en⟩=true:=(dK _).2 ⟨by show eo.size≤512;omega,by show en.size≤512;omega,by show 1≤eo.size∨1≤en.size;omega⟩
 have hrun:runE t [⟨x,eo,en⟩]=(t',0):=lM hap
 have hmx:=h.inv.shown hrun
 have hpx:=oG h.inv.z hrun
 have hzx:=h.inv.edz (l:=[⟨x,eo,en⟩]) (fun y hy=>by rw [List.mem_singleton.1 hy];exact hok)
 have hie:=jH (x:=⟨x,eo,en⟩) (t':=t') h.inv hap hok
 have hml:m.l.length≤1000000:=Nat.le_trans h.inv.ml (by decide)
 have hmc:m.l.length≤m.c∧m.c≤maxLen:=⟨h.ml,h.mc⟩
 obtain ⟨l,hl⟩:∃ l,g.l++[(⟨x,eo,en⟩:Edt)]=l:=⟨_,rfl⟩
 have g0:=hid hzx;have g1:=hid hpx;have g2:=hid hmx;have g3:=hid hml;have g4:=hid hmc;have HI:=hid hie;have HR:=hid hr;have HL:=hid hl
 rw [hl] at hadd
 have he:editD (Sta.d ⟨t,m,u,ro,true,g⟩) ⟨x,eo,en⟩=(⟨t',shfM m.l (shiftI x eo.size en.size),lsP u.l,[],true,l⟩,0):=by unfold editD;rw [if_neg (fun h=>by have:=h.2;have:32≤g.l.length:=this;omega)];simp only [hap,← hl];simp only [Sta.d,hap];rfl
 have HE:=hid he
 rw [he]
 clear he hmx hpx hzx hie hml hmc hap hr hrun hok hl
 obtain ⟨wX,hwX,kE,ae,hz⟩:=box1 w #[.int .i64 x,.string eo,.string en] 92
 have aq:=hid (show Blk wX b #[.bool true,.pointer (some ⟨rb,0,none⟩),.string ⟨#[]⟩,.slice m.a m.l.length m.c,.slice u.a u.l.length u.c,.slice ro.a ro.l.length ro.c,.bool true,.slice g.a g.l.length g.c] 100 from h.blk.onto ae)
 have af:=hid (kE)
 have ax:=hid ((h.rows.wide (S':=b::w.heap.size::T) (wide2 (Nat.le_refl _))).later ae)
 have f8:=hid ((Apart.of_below ae:Apart [b] w wX))
 have f9:=hid (Nat.le_refl wX.heap.size)
 have ay:∀ W:World,wX.heap.size≤W.heap.size→∀ i∈b::w.heap.size::T,i<W.heap.size:=fun W hWz i hi=>by simp only [List.mem_cons] at hi;rcases hi with rfl|rfl|hi;all_goals first|omega|(have:=h.tlt i hi;omega)
 have g5:=hid ay;have H:=hid h;have HB:=hid ae
 clear ay kE
 obtain ⟨bl,bm,bn,bo,bp,bq,br,bs,bu,bv,bw,bx,bz,b3,b4,b5⟩:=aq.out.all8
 obtain ⟨b6,b7,b8,b9,cb,cc⟩:=af.out.all3
 have ca:=fun W (hW:Below wX.heap.size wX W)=>mT g.a g.l g.c ⟨x,eo,en⟩ W ((h.rows.g.later ae).later hW).in (by omega)
 rw [hadd] at ca
 have CA:=hid ca
 have hzl:w.heap.size<wX.heap.size:=by omega
 clear h ae hz ca hadd
 have gz:(eo.size:Int)+(en.size:Int)≤512:=by omega
 have gy:¬ (eo.size:Int)+(en.size:Int)=0:=by omega
 go_enter func146,ntmps146
 have hfs:∀ W,Below wX.heap.size wX W→W.cell? ⟨b,7,none⟩=some (.slice g.a g.l.length g.c)∧W.cell? ⟨w.heap.size,0,none⟩=some (.int .i64 x)∧W.cell? ⟨w.heap.size,1,none⟩=some (.string eo)∧W.cell? ⟨w.heap.size,2,none⟩=some (.string en):=fun W h=>⟨(aq.out.onto h).cell 7 _ rfl,(af.out.onto h).cell 0 _ rfl,(af.out.onto h).cell 1 _ rfl,(af.out.onto h).cell 2 _ rfl⟩
 have FS:=hid hfs
 clear hfs
 go_wp2_with fail
 clear bl bm bn bo bp bq br bs bu bv bw bx bz b3 b4 b5 b6 b7 b8 b9 cb cc
 refine wp_region_held_drew (S:=(fun W:World=>W.cell? ⟨b,7,none⟩=some (.slice g.a g.l.length g.c)∧W.cell? ⟨w.heap.size,0,none⟩=some (.int .i64 x)∧W.cell? ⟨w.heap.size,1,none⟩=some (.string eo)∧W.cell? ⟨w.heap.size,2,none⟩=some (.string en))) (by kernel_rfl) (FS.out _ (Below.refl _ _).drew) (fun hHeld=>?_)
 refine sqt 0 ?_
 refine sqt 1 ?_
 refine sqt 2 ?_
 refine sqt 3 ?_
 refine sqt 4 ?_
 refine sqt 5 ?_
 refine sqt 6 ?_
 clear hwX
 refine wpAnyH_ready (rs:=[7,11]) (by kernel_rfl) (by simp) ?_
 refine AllReadyH.cons (by simp only [sqg];rfl) (fun K hK=>?ga) (AllReadyH.cons (by simp only [sqg];rfl) (fun K hK=>?gb) AllReadyH.nil)
 case' gb =>
  go_simp
  have BSA:=hid ((Below.refl wX.heap.size wX).drew.alloc (Nat.le_refl _) (.cells #[.slice none 0 0] 54));have gc:=hid (Blk.new wX.drew #[.slice none 0 0] 54)
  try go_wp2_with fail
  refine hK.out _ _ ?_ (fun hHeld=>?_)
  ·exact FS.out _ BSA.out
  clear hK K
  try simp only [Act.put,sqp]
  refine sqr 7 fun K hK=>?_
  go_simp
  (go_at_call 176;refine (CA.out _ BSA.out).mono ?_;rintro e w1 ⟨a4,c4,rfl,ai,ag⟩;have aa:Below wX.heap.size wX w1:=BSA.out.trans (ag.mono BSA.out.size))
  try go_wp2_with fail
  refine hK.out _ _ ?_ (fun hHeld=>?_)
  ·exact FS.out _ aa
  clear hK K
  try simp only [Act.put,sqp]
  have ac:=hid (aq.out.onto aa)
  have ab:=hid (af.out.onto aa)
  have ah:=hid (ax.out.later aa)
  have aj:=hid (f8.out.trans (S':=[]) (.of_below aa) (by simp))
  have ak:=hid (Nat.le_trans f9.out aa.size)
  have az:=hid (show Blk w1 wX.heap.size #[.slice none 0 0] 54 from gc.out.onto ag)
  have al:=hid (ai.off (S:=b::w.heap.size::wX.heap.size::T) (fun i hi=>by
   have hs:wX.heap.size+1≤(World.alloc wX.drew (.cells #[.slice none 0 0] 54)).heap.size:=by simp
   simp only [List.mem_cons,List.not_mem_nil,or_false] at hi
   have ir:(World.alloc wX.drew (.cells #[.slice none 0 0] 54)).heap.size=(World.alloc wX (.cells #[.slice none 0 0] 54)).heap.size:=by simp
   rcases hi with rfl|rfl|rfl|hi
   ·exact Nat.lt_of_lt_of_le (by omega) hs
   ·exact Nat.lt_of_lt_of_le (by omega) hs
   ·exact hs
   ·exact Nat.lt_of_lt_of_le (by have:=H.out.tlt i hi;omega) hs))
  replace ah:=hid (((ax.out.wide (S':=b::w.heap.size::wX.heap.size::T) (wide3 (Nat.le_refl _))).later aa))
  clear ai ag CA gc
  refine sqt 8 ?_
  refine sqt 9 ?_
  refine sqt 10 ?_
  obtain ⟨cd,ce,cf,cg,ch,ci,cj,ck,cl,cm,cn,co,cp,cq,cr,ct⟩:=ac.out.all8
  obtain ⟨cu,cv,cw,cx,cy,cz⟩:=ab.out.all3
  obtain ⟨c3,c5⟩:=az.out.all1
  have gx:w1.cell? ⟨b,7,none⟩=some (.slice g.a g.l.length g.c):=ac.out.cell 7 _ rfl
  refine sqr 12 fun K hK=>?_
  go_simp
  skip
  try go_wp2_with fail
  refine hK.out _ _ ?_ (fun hHeld=>?_)
  ·exact ⟨(ac.out.other ⟨wX.heap.size,0,none⟩ (by show wX.heap.size≠b;omega) _).cell 7 _ rfl,(ab.out.other ⟨wX.heap.size,0,none⟩ (by show wX.heap.size≠w.heap.size;omega) _).cell 0 _ rfl,(ab.out.other ⟨wX.heap.size,0,none⟩ (by show wX.heap.size≠w.heap.size;omega) _).cell 1 _ rfl,(ab.out.other ⟨wX.heap.size,0,none⟩ (by show wX.heap.size≠w.heap.size;omega) _).cell 2 _ rfl⟩
  clear hK K
  try simp only [Act.put,sqp]
  refine sqt 13 ?_
  refine wpAnyH_done (by kernel_rfl) ?_ _
  clear aa gx BSA
  have kT:Blk (w1.setCell ⟨wX.heap.size,0,none⟩ (.slice a4 l.length c4)) (wX.heap.size) #[.slice a4 l.length c4] 54:=(az.out.set 0 _)
  have kO:Blk (w1.setCell ⟨wX.heap.size,0,none⟩ (.slice a4 l.length c4)) (b) #[.bool true,.pointer (some ⟨rb,0,none⟩),.string ⟨#[]⟩,.slice m.a m.l.length m.c,.slice u.a u.l.length u.c,.slice ro.a ro.l.length ro.c,.bool true,.slice g.a g.l.length g.c] 100:=(ac.out.other ⟨wX.heap.size,0,none⟩ (by show wX.heap.size≠b;omega) _)
  have kE:Blk (w1.setCell ⟨wX.heap.size,0,none⟩ (.slice a4 l.length c4)) (w.heap.size) #[.int .i64 x,.string eo,.string en] 92:=(ab.out.other ⟨wX.heap.size,0,none⟩ (by show wX.heap.size≠w.heap.size;omega) _)
  have ap:Apart (b::w.heap.size::wX.heap.size::T) w1 (w1.setCell ⟨wX.heap.size,0,none⟩ (.slice a4 l.length c4)):=(Apart.refl (b::w.heap.size::wX.heap.size::T) w1).setCell (p:=⟨wX.heap.size,0,none⟩) (.inl (by simp)) _
  have rS:=ah.out.apart ap
  have rG:=al.out.apart ap
  have hB:=((aj.out.setCell (p:=⟨wX.heap.size,0,none⟩) (by right;show w.heap.size≤wX.heap.size;omega) _):Apart [b] w (w1.setCell ⟨wX.heap.size,0,none⟩ (.slice a4 l.length c4)))
  have hz:(w1.setCell ⟨wX.heap.size,0,none⟩ (.slice a4 l.length c4)).heap.size=w1.heap.size:=by simp
  obtain ⟨vv,a0⟩:∃ V,(w1.setCell ⟨wX.heap.size,0,none⟩ (.slice a4 l.length c4))=V:=⟨_,rfl⟩
  rw [a0] at kO kE kT rS rG hB hz
  rw [a0]
  have ar:=hid kO
  have au:=hid kE
  have ad:=hid kT
  have am:=hid rS
  have an:=hid rG
  have a1:=hid hB
  have a2:=hid (Nat.le_trans ak.out (Nat.le_of_eq hz.symm))
  clear kO kE kT rS rG hB hz ap ac ab az ah al aj ak
  obtain ⟨bt,hbt⟩:∃ x,wX.heap.size=x:=⟨_,rfl⟩
  have hbx:wX.heap.size≤bt:=Nat.le_of_eq hbt
  rw [hbt] at ad ⊢
  have gd:=hid ad.out.lt
  clear hbt a0 cd ce cf cg ch ci cj ck cl cm cn co cp cq cr ct cu cv cw cx cy cz c3 c5
 case' ga =>
  go_simp
  (go_at_call 176;refine (CA.out _ (Below.refl _ _).drew).mono ?_;rintro e w1 ⟨a4,c4,rfl,ai,ag⟩;have aa:Below wX.heap.size wX w1:=(Below.refl _ _).drew.trans ag)
  try go_wp2_with fail
  refine hK.out _ _ ?_ (fun hHeld=>?_)
  ·exact FS.out _ aa
  clear hK K
  try simp only [Act.put,sqp]
  have ac:=hid (aq.out.onto aa)
  have ab:=hid (af.out.onto aa)
  have ah:=hid (ax.out.later aa)
  have aj:=hid (f8.out.trans (S':=[]) (.of_below aa) (by simp))
  have ak:=hid (Nat.le_trans f9.out aa.size)
  have al:=hid (ai.off (S:=b::w.heap.size::T) (g5.out _ (Nat.le_refl _)))
  clear ai ag CA
  refine sqt 8 ?_
  refine sqt 9 ?_
  refine sqt 10 ?_
  refine sqr 11 fun K hK=>?_
  go_simp
  skip
  try go_wp2_with fail
  refine hK.out _ _ ?_ (fun hHeld=>?_)
  ·exact FS.out _ (aa.alloc aa.size _)
  clear hK K
  try simp only [Act.put,sqp]
  refine sqr 12 fun K hK=>?_
  go_simp
  skip
  try go_wp2_with fail
  refine hK.out _ _ ?_ (fun hHeld=>?_)
  ·exact FS.out _ (aa.alloc aa.size _)
  clear hK K
  try simp only [Act.put,sqp]
  refine sqt 13 ?_
  refine wpAnyH_done (by kernel_rfl) ?_ _
  have gf:wX.heap.size≤w1.heap.size:=aa.size
  clear aa
  obtain ⟨vv,hwA1,kA,hbA,hzA⟩:=box1 w1 #[.slice a4 l.length c4] 54
  have ar:=hid (ac.out.onto hbA)
  have au:=hid (ab.out.onto hbA)
  have am:=hid (ah.out.later hbA)
  have an:=hid (al.out.later hbA)
  have a1:=hid (aj.out.trans (S':=[]) (.of_below hbA) (by simp))
  have a2:=hid (Nat.le_trans ak.out hbA.size)
  have ad:=hid kA
  have a3:w1.heap.size<vv.heap.size:=by omega
  have gd:=hid a3
  clear kA hbA hzA a3 ac ab ah al aj ak
  rw [hwA1]
  obtain ⟨bt,hbt⟩:∃ x,w1.heap.size=x:=⟨_,rfl⟩
  rw [hbt] at ad gd ⊢
  have hbx:wX.heap.size≤bt:=by rw [← hbt];exact gf
  clear hwA1 hbt gf
 all_goals
  obtain ⟨c6,c7,c8,c9,da,db,dc,dd,de,df,dg,dh,di,dj,dk,dl⟩:=ar.out.all8
  obtain ⟨dm,dn,dp,dq,dr,ds⟩:=au.out.all3
  obtain ⟨dt,du⟩:=ad.out.all1
  replace am:=hid (am.out.wide (S':=b::T) (fun i hi=>.inl (by simp only [List.mem_cons] at hi ⊢;rcases hi with h|h <;> simp [h])))
  replace an:=hid (an.out.wide (S':=b::T) (fun i hi=>.inl (by simp only [List.mem_cons] at hi ⊢;rcases hi with h|h <;> simp [h])))
  have kO:Blk (vv.setCell ⟨b,7,none⟩ (.slice a4 l.length c4)) (b) #[.bool true,.pointer (some ⟨rb,0,none⟩),.string ⟨#[]⟩,.slice m.a m.l.length m.c,.slice u.a u.l.length u.c,.slice ro.a ro.l.length ro.c,.bool true,.slice a4 l.length c4] 100:=(ar.out.set 7 _)
  have kE:Blk (vv.setCell ⟨b,7,none⟩ (.slice a4 l.length c4)) (w.heap.size) #[.int .i64 x,.string eo,.string en] 92:=(au.out.other ⟨b,7,none⟩ (by show b≠w.heap.size;omega) _)
  have kT:Blk (vv.setCell ⟨b,7,none⟩ (.slice a4 l.length c4)) (bt) #[.slice a4 l.length c4] 54:=(ad.out.other ⟨b,7,none⟩ (by show b≠bt;omega) _)
  have ap:Apart (b::T) vv (vv.setCell ⟨b,7,none⟩ (.slice a4 l.length c4)):=(Apart.refl (b::T) vv).setCell (p:=⟨b,7,none⟩) (.inl (by simp)) _
  have rS:=am.out.apart ap
  have rG:=an.out.apart ap
  have hB:=((a1.out.setCell (p:=⟨b,7,none⟩) (by simp) _):Apart [b] w (vv.setCell ⟨b,7,none⟩ (.slice a4 l.length c4)))
  have hz:(vv.setCell ⟨b,7,none⟩ (.slice a4 l.length c4)).heap.size=vv.heap.size:=by simp
  obtain ⟨v3,gg⟩:∃ V,(vv.setCell ⟨b,7,none⟩ (.slice a4 l.length c4))=V:=⟨_,rfl⟩
  rw [gg] at kO kE kT rS rG hB hz
  have a5:=hid kO
  have a6:=hid kE
  have a7:=hid kT
  have gh:=hid rS
  have gi:=hid rG
  have gj:=hid hB
  have gk:=hid (Nat.le_trans a2.out (Nat.le_of_eq hz.symm))
  clear kO kE kT rS rG hB hz ap ar au ad am an a1 a2
  obtain ⟨dv,dw,dx,dy,dz,d0,d1,d2,d3,d4,d5,d6,d7,d8,d9,ea⟩:=a5.out.all8
  obtain ⟨eb,ec,ed,ee,ef,eg⟩:=a6.out.all3
  obtain ⟨eh,ei⟩:=a7.out.all1
  have kO:Blk (v3.setCell ⟨b,5,none⟩ (.slice none 0 0)) (b) #[.bool true,.pointer (some ⟨rb,0,none⟩),.string ⟨#[]⟩,.slice m.a m.l.length m.c,.slice u.a u.l.length u.c,.slice none 0 0,.bool true,.slice a4 l.length c4] 100:=(a5.out.set 5 _)
  have kE:Blk (v3.setCell ⟨b,5,none⟩ (.slice none 0 0)) (w.heap.size) #[.int .i64 x,.string eo,.string en] 92:=(a6.out.other ⟨b,5,none⟩ (by show b≠w.heap.size;omega) _)
  have kT:Blk (v3.setCell ⟨b,5,none⟩ (.slice none 0 0)) (bt) #[.slice a4 l.length c4] 54:=(a7.out.other ⟨b,5,none⟩ (by show b≠bt;omega) _)
  have ap:Apart (b::T) v3 (v3.setCell ⟨b,5,none⟩ (.slice none 0 0)):=(Apart.refl (b::T) v3).setCell (p:=⟨b,5,none⟩) (.inl (by simp)) _
  have rS:=gh.out.apart ap
  have rG:=gi.out.apart ap
  have hB:=((gj.out.setCell (p:=⟨b,5,none⟩) (by simp) _):Apart [b] w (v3.setCell ⟨b,5,none⟩ (.slice none 0 0)))
  have hz:(v3.setCell ⟨b,5,none⟩ (.slice none 0 0)).heap.size=v3.heap.size:=by simp
  obtain ⟨v4,gm⟩:∃ V,(v3.setCell ⟨b,5,none⟩ (.slice none 0 0))=V:=⟨_,rfl⟩
  rw [gm] at kO kE kT rS rG hB hz
  have av:=hid kO
  have a8:=hid kE
  have a9:=hid kT
  have gn:=hid rS
  have gp:=hid rG
  have ba:=hid hB
  have gq:=hid (Nat.le_trans gk.out (Nat.le_of_eq hz.symm))
  clear kO kE kT rS rG hB hz ap a5 a6 a7 gh gi gj gk
  obtain ⟨ej,ek,el,em,eq,er,es,et,eu,ev,ew,ey,ez,e0,e3,e4⟩:=av.out.all8
  obtain ⟨e5,e6,e7,e8,e9,fa⟩:=a8.out.all3
  obtain ⟨fb,fc⟩:=a9.out.all1
  have g6:=hid (show b<v4.heap.size from av.out.lt);have g7:=hid ba.out.size
  obtain ⟨gs,hwA4,kA,hbA,hzA⟩:=box1 v4 #[.int .i64 x,.string eo,.string en] 92
  have bb:=hid (av.out.onto hbA)
  have bc:=hid (a8.out.onto hbA)
  have bd:=hid (a9.out.onto hbA)
  have be:=hid (gn.out.later hbA)
  have gt:=hid (gp.out.later hbA)
  have bf:=hid (ba.out.trans (S':=[]) (.of_below hbA) (by simp))
  have gu:=hid (Nat.le_trans gq.out hbA.size)
  have ao:=hid kA
  have bg:v4.heap.size<gs.heap.size:=by omega
  have it:=hid bg
  clear kA hbA hzA bg av a8 a9 gn gp ba gq
  obtain ⟨fd,fe,ff,fg,fh,fi,fj,fk,fm,fn,fo,fp,fq,fr,fs,ft⟩:=bb.out.all8
  obtain ⟨fu,fv,fw,fx,fy,fz⟩:=bc.out.all3
  obtain ⟨f0,f1⟩:=bd.out.all1
  obtain ⟨f2,f3,f4,f5,f6,f7⟩:=ao.out.all3
  have hbv:b≠v4.heap.size:=by have h1:=g6.out;omega
  have csh:=lJ (made:=true) (r:=some ⟨rb,0,none⟩) (t:=⟨#[]⟩) (m:=m) (u:=u) (ro:=⟨none,[],0⟩) (o:=true) (g:=⟨a4,l,c4⟩) bb.out (fun i hi=>Nat.lt_of_lt_of_le (H.out.tlt i hi) bf.out.size) be.out.m g3.out g4.out (some ⟨rb',0,none⟩) ⟨some ⟨v4.heap.size,0,none⟩,[⟨x,eo,en⟩],1⟩ ⟨eone ao.out ⟨ao.out.lt,by simp only [List.mem_cons,not_or];exact ⟨by omega,fun hi=>by have h1:=H.out.tlt _ hi;have h2:=g7.out;(try dsimp only at h1 h2);omega⟩⟩,fun e=>by cases e⟩ (by simp) g0.out g1.out g2.out
  have g8:=hid (show Calls prog 177 #[.pointer (some ⟨b,0,none⟩),.pointer (some ⟨rb',0,none⟩),.slice (some ⟨v4.heap.size,0,none⟩) (1:Nat) 1] gs _ from csh)
  clear csh
  go_wp2_with fail
  refine (g8.out).mono ?_;rintro e wZ ⟨rfl,⟨ma,ml,mc⟩,bh,bi,gv,bj,ha⟩
  clear c6 c7 c8 c9 da db dc dd de df dg dh di dj dk dl dm dn dp dq dr ds dt du gg dv dw dx dy dz d0 d1 d2 d3 d4 d5 d6 d7 d8 d9 ea eb ec ed ee ef eg eh ei gm ej ek el em eq er es et eu ev ew ey ez e0 e3 e4 e5 e6 e7 e8 e9 fa fb fc hwA4 fd fe ff fg fh fi fj fk fm fn fo fp fq fr fs ft fu fv fw fx fy fz f0 f1 f2 f3 f4 f5 f6 f7
  have gw:=hid (gv)
  have g9:=hid (bc.out.apart ha (by simp only [List.mem_singleton];omega))
  have hb:=hid (bd.out.apart ha (by simp only [List.mem_singleton];omega))
  have hc:=hid (ao.out.apart ha (by simp only [List.mem_singleton];omega))
  have hd:=hid (be.out.apart (ha.more (by simp)))
  have hf:=hid (gt.out.apart (ha.more (by simp)))
  have bk:=hid (bf.out.trans ha (by simp))
  have iu:=hid (Nat.le_trans gu.out ha.size)
  have aw:=hid (And.intro bh bi)
  have hg:=hid (bj)
  clear ha bh bi gv bj bb bc bd ao be gt bf gu
  obtain ⟨hj,hk,hm,hp,hq,ht,hu,hv,hw,h0,h4,h5,h6,h7,h8,h9⟩:=gw.out.all8
  obtain ⟨ia,ib,ic,ie,ig,ih⟩:=g9.out.all3
  obtain ⟨ii,ij⟩:=hb.out.all1
  obtain ⟨ik,il,im,io,ip,iq⟩:=hc.out.all3
  go_wp2
  go_ret
  refine ⟨⟨t',⟨ma,ml,mc⟩,u,⟨none,[],0⟩,true,⟨a4,l,c4⟩⟩,rb',p',L',rfl,⟨gw.out,HR.out.apart H.out.blk rfl bk.out,⟨hg.out,hd.out.u,SPo.empty _ _,hf.out⟩,aw.out.2.1,aw.out.2.2,?_,fun i hi=>Nat.lt_of_lt_of_le (H.out.tlt i hi) (bk.out).size⟩,?_,bk.out⟩
  ·have e:=HI.out
   rw [HE.out] at e
   have h3:ml=shfM m.l (shiftI x eo.size en.size):=aw.out.1
   show InvS (⟨t',ml,lsP u.l,[],true,l⟩:StaD)
   rw [h3]
   exact e
  ·have h3:ml=shfM m.l (shiftI x eo.size en.size):=aw.out.1
   show (⟨t',ml,lsP u.l,[],true,l⟩:StaD)=_
   rw [h3]
set_option maxHeartbeats 3200000 in
theorem oX {m:KPc} {u ro:SPc} {g:EPc} (h:IsEd T w b ⟨t,m,u,ro,false,g⟩ rb p L) (x:Int) (eo en:ByteArray) (ho:eo.size≤140737488355328) (hn:en.size≤140737488355328) (hx:eo.size+en.size≤512) (hy:1≤eo.size+en.size) {rb':Nat} {p':Option Addr} {L':List ByteArray} (hap:appE t x eo en=(t',0)) (hr:RopeW w (some ⟨rb',0,none⟩) p' L' t'):Calls prog 146 #[.pointer (some ⟨b,0,none⟩),.pointer (some ⟨rb',0,none⟩),edV x eo en] w (RetEd T w b (editD (Sta.d ⟨t,m,u,ro,false,g⟩) ⟨x,eo,en⟩)):=by
 have hbl:b<w.heap.size:=h.lt
 have hg:g.l=[]:=by
  rcases h.inv.go with e|e
  ·exact e
  ·have:=e.1;cases this
 have hadd:addS g.l ⟨x,eo,en⟩=([⟨x,eo,en⟩],0):=by unfold addS;rw [hg];rfl
 have hok:okE5 ⟨x,eo,en⟩=true:=(dK _).2 ⟨by show eo.size≤512;omega,by show en.size≤512;omega,by show 1≤eo.size∨1≤en.size;omega⟩
 have hrun:runE t [⟨x,eo,en⟩]=(t',0):=lM hap
 have hmx:=h.inv.shown hrun
 have hpx:=oG h.inv.z hrun
 have hzx:=h.inv.edz (l:=[⟨x,eo,en⟩]) (fun y hy=>by rw [List.mem_singleton.1 hy];exact hok)
 have hie:=jH (x:=⟨x,eo,en⟩) (t':=t') h.inv hap hok
 have hml:m.l.length≤1000000:=Nat.le_trans h.inv.ml (by decide)
 have hmc:m.l.length≤m.c∧m.c≤maxLen:=⟨h.ml,h.mc⟩
 obtain ⟨l,hl⟩:∃ l,[(⟨x,eo,en⟩:Edt)]=l:=⟨_,rfl⟩
 have g5:=hid hzx;have g6:=hid hpx;have g7:=hid hmx;have g8:=hid hml;have g9:=hid hmc;have HI:=hid hie;have HR:=hid hr;have HL:=hid hl
 rw [hl] at hadd
 have hll:l.length=1:=by rw [← hl];rfl
 have hul:u.l.length≤900∧∀ y∈u.l,y.l.length≤1000000:=by
  have h1:=h.inv.ul
  have h2:(lsP u.l).length≤16:=h1.1
  rw [aG] at h2
  exact ⟨by omega,bI fun y hy=>Nat.le_trans (h1.2 y hy).2 (by decide)⟩
 have hb:=hid hll;have f9:=hid hul
 have he:editD (Sta.d ⟨t,m,u,ro,false,g⟩) ⟨x,eo,en⟩=(⟨t',shfM m.l (shiftI x eo.size en.size),pushL (lsP u.l) [⟨x,eo,en⟩],[],false,g.l⟩,0):=by unfold editD;rw [if_neg (fun h=>by cases h.1)];simp only [Sta.d,hap];rfl
 have HE:=hid he
 rw [he]
 have hgz:g.l.length≤32:=by rw [hg];exact Nat.zero_le _
 clear he hmx hpx hzx hie hml hmc hap hr hrun hok hl hll hul hg
 obtain ⟨wX,hwX,kE,ae,hz⟩:=box1 w #[.int .i64 x,.string eo,.string en] 92
 have aq:=hid (show Blk wX b #[.bool true,.pointer (some ⟨rb,0,none⟩),.string ⟨#[]⟩,.slice m.a m.l.length m.c,.slice u.a u.l.length u.c,.slice ro.a ro.l.length ro.c,.bool false,.slice g.a g.l.length g.c] 100 from h.blk.onto ae)
 have af:=hid (kE)
 have ay:=hid ((h.rows.wide (S':=b::w.heap.size::T) (wide2 (Nat.le_refl _))).later ae)
 have gc:=hid ((Apart.of_below ae:Apart [b] w wX))
 have gd:=hid (Nat.le_refl wX.heap.size)
 have az:∀ W:World,wX.heap.size≤W.heap.size→∀ i∈b::w.heap.size::T,i<W.heap.size:=fun W hWz i hi=>by simp only [List.mem_cons] at hi;rcases hi with rfl|rfl|hi;all_goals first|omega|(have:=h.tlt i hi;omega)
 have hc:=hid az;have H:=hid h;have HB:=hid ae
 clear az kE
 obtain ⟨bm,bn,bo,bp,bq,br,bs,bu,bv,bw,bx,bz,b3,b4,b5,b6⟩:=aq.out.all8
 obtain ⟨b7,b8,b9,cb,cc,cd⟩:=af.out.all3
 have ca:=fun W (hW:Below wX.heap.size wX W)=>mT g.a g.l g.c ⟨x,eo,en⟩ W ((h.rows.g.later ae).later hW).in (by omega)
 rw [hadd] at ca
 have CA:=hid ca
 have hzl:w.heap.size<wX.heap.size:=by omega
 clear h ae hz ca hadd
 have gz:(eo.size:Int)+(en.size:Int)≤512:=by omega
 have gy:¬ (eo.size:Int)+(en.size:Int)=0:=by omega
 go_enter func146,ntmps146
 have hfs:∀ W,Below wX.heap.size wX W→W.cell? ⟨b,7,none⟩=some (.slice g.a g.l.length g.c)∧W.cell? ⟨w.heap.size,0,none⟩=some (.int .i64 x)∧W.cell? ⟨w.heap.size,1,none⟩=some (.string eo)∧W.cell? ⟨w.heap.size,2,none⟩=some (.string en):=fun W h=>⟨(aq.out.onto h).cell 7 _ rfl,(af.out.onto h).cell 0 _ rfl,(af.out.onto h).cell 1 _ rfl,(af.out.onto h).cell 2 _ rfl⟩
 have FS:=hid hfs
 clear hfs
 go_wp2_with fail
 clear bm bn bo bp bq br bs bu bv bw bx bz b3 b4 b5 b6 b7 b8 b9 cb cc cd
 refine wp_region_held_drew (S:=(fun W:World=>W.cell? ⟨b,7,none⟩=some (.slice g.a g.l.length g.c)∧W.cell? ⟨w.heap.size,0,none⟩=some (.int .i64 x)∧W.cell? ⟨w.heap.size,1,none⟩=some (.string eo)∧W.cell? ⟨w.heap.size,2,none⟩=some (.string en))) (by kernel_rfl) (FS.out _ (Below.refl _ _).drew) (fun hHeld=>?_)
 refine sqt 0 ?_
 refine sqt 1 ?_
 refine sqt 2 ?_
 refine sqt 3 ?_
 refine sqt 4 ?_
 refine sqt 5 ?_
 refine sqt 6 ?_
 clear hwX
 refine wpAnyH_ready (rs:=[7,11]) (by kernel_rfl) (by simp) ?_
 refine AllReadyH.cons (by simp only [sqg];rfl) (fun K hK=>?ga) (AllReadyH.cons (by simp only [sqg];rfl) (fun K hK=>?gb) AllReadyH.nil)
 case' gb =>
  go_simp
  have BSA:=hid ((Below.refl wX.heap.size wX).drew.alloc (Nat.le_refl _) (.cells #[.slice none 0 0] 54));have gf:=hid (Blk.new wX.drew #[.slice none 0 0] 54)
  try go_wp2_with fail
  refine hK.out _ _ ?_ (fun hHeld=>?_)
  ·exact FS.out _ BSA.out
  clear hK K
  try simp only [Act.put,sqp]
  refine sqr 7 fun K hK=>?_
  go_simp
  (go_at_call 176;refine (CA.out _ BSA.out).mono ?_;rintro e w1 ⟨a4,c4,rfl,ak,ag⟩;have aa:Below wX.heap.size wX w1:=BSA.out.trans (ag.mono BSA.out.size))
  try go_wp2_with fail
  refine hK.out _ _ ?_ (fun hHeld=>?_)
  ·exact FS.out _ aa
  clear hK K
  try simp only [Act.put,sqp]
  have ac:=hid (aq.out.onto aa)
  have ab:=hid (af.out.onto aa)
  have ah:=hid (ay.out.later aa)
  have al:=hid (gc.out.trans (S':=[]) (.of_below aa) (by simp))
  have am:=hid (Nat.le_trans gd.out aa.size)
  have a0:=hid (show Blk w1 wX.heap.size #[.slice none 0 0] 54 from gf.out.onto ag)
  have an:=hid (ak.off (S:=b::w.heap.size::wX.heap.size::T) (fun i hi=>by
   have hs:wX.heap.size+1≤(World.alloc wX.drew (.cells #[.slice none 0 0] 54)).heap.size:=by simp
   simp only [List.mem_cons,List.not_mem_nil,or_false] at hi
   have i1:(World.alloc wX.drew (.cells #[.slice none 0 0] 54)).heap.size=(World.alloc wX (.cells #[.slice none 0 0] 54)).heap.size:=by simp
   rcases hi with rfl|rfl|rfl|hi
   ·exact Nat.lt_of_lt_of_le (by omega) hs
   ·exact Nat.lt_of_lt_of_le (by omega) hs
   ·exact hs
   ·exact Nat.lt_of_lt_of_le (by have:=H.out.tlt i hi;omega) hs))
  replace ah:=hid (((ay.out.wide (S':=b::w.heap.size::wX.heap.size::T) (wide3 (Nat.le_refl _))).later aa))
  clear ak ag CA gf
  refine sqt 8 ?_
  refine sqt 9 ?_
  refine sqt 10 ?_
  obtain ⟨ce,cf,cg,ch,ci,cj,ck,cl,cm,cn,co,cp,cq,cr,ct,cu⟩:=ac.out.all8
  obtain ⟨cv,cw,cx,cy,cz,c3⟩:=ab.out.all3
  obtain ⟨c5,c6⟩:=a0.out.all1
  have g4:w1.cell? ⟨b,7,none⟩=some (.slice g.a g.l.length g.c):=ac.out.cell 7 _ rfl
  refine sqr 12 fun K hK=>?_
  go_simp
  skip
  try go_wp2_with fail
  refine hK.out _ _ ?_ (fun hHeld=>?_)
  ·exact ⟨(ac.out.other ⟨wX.heap.size,0,none⟩ (by show wX.heap.size≠b;omega) _).cell 7 _ rfl,(ab.out.other ⟨wX.heap.size,0,none⟩ (by show wX.heap.size≠w.heap.size;omega) _).cell 0 _ rfl,(ab.out.other ⟨wX.heap.size,0,none⟩ (by show wX.heap.size≠w.heap.size;omega) _).cell 1 _ rfl,(ab.out.other ⟨wX.heap.size,0,none⟩ (by show wX.heap.size≠w.heap.size;omega) _).cell 2 _ rfl⟩
  clear hK K
  try simp only [Act.put,sqp]
  refine sqt 13 ?_
  refine wpAnyH_done (by kernel_rfl) ?_ _
  clear aa g4 BSA
  have kT:Blk (w1.setCell ⟨wX.heap.size,0,none⟩ (.slice a4 l.length c4)) (wX.heap.size) #[.slice a4 l.length c4] 54:=(a0.out.set 0 _)
  have kO:Blk (w1.setCell ⟨wX.heap.size,0,none⟩ (.slice a4 l.length c4)) (b) #[.bool true,.pointer (some ⟨rb,0,none⟩),.string ⟨#[]⟩,.slice m.a m.l.length m.c,.slice u.a u.l.length u.c,.slice ro.a ro.l.length ro.c,.bool false,.slice g.a g.l.length g.c] 100:=(ac.out.other ⟨wX.heap.size,0,none⟩ (by show wX.heap.size≠b;omega) _)
  have kE:Blk (w1.setCell ⟨wX.heap.size,0,none⟩ (.slice a4 l.length c4)) (w.heap.size) #[.int .i64 x,.string eo,.string en] 92:=(ab.out.other ⟨wX.heap.size,0,none⟩ (by show wX.heap.size≠w.heap.size;omega) _)
  have ap:Apart (b::w.heap.size::wX.heap.size::T) w1 (w1.setCell ⟨wX.heap.size,0,none⟩ (.slice a4 l.length c4)):=(Apart.refl (b::w.heap.size::wX.heap.size::T) w1).setCell (p:=⟨wX.heap.size,0,none⟩) (.inl (by simp)) _
  have rS:=ah.out.apart ap
  have rG:=an.out.apart ap
  have hB:=((al.out.setCell (p:=⟨wX.heap.size,0,none⟩) (by right;show w.heap.size≤wX.heap.size;omega) _):Apart [b] w (w1.setCell ⟨wX.heap.size,0,none⟩ (.slice a4 l.length c4)))
  have hz:(w1.setCell ⟨wX.heap.size,0,none⟩ (.slice a4 l.length c4)).heap.size=w1.heap.size:=by simp
  obtain ⟨vv,a1⟩:∃ V,(w1.setCell ⟨wX.heap.size,0,none⟩ (.slice a4 l.length c4))=V:=⟨_,rfl⟩
  rw [a1] at kO kE kT rS rG hB hz
  rw [a1]
  have ar:=hid kO
  have au:=hid kE
  have ad:=hid kT
  have ai:=hid rS
  have aj:=hid rG
  have av:=hid hB
  have a2:=hid (Nat.le_trans am.out (Nat.le_of_eq hz.symm))
  clear kO kE kT rS rG hB hz ap ac ab a0 ah an al am
  obtain ⟨bt,hbt⟩:∃ x,wX.heap.size=x:=⟨_,rfl⟩
  have hbx:wX.heap.size≤bt:=Nat.le_of_eq hbt
  rw [hbt] at ad ⊢
  have gg:=hid ad.out.lt
  clear hbt a1 ce cf cg ch ci cj ck cl cm cn co cp cq cr ct cu cv cw cx cy cz c3 c5 c6
 case' ga =>
  go_simp
  (go_at_call 176;refine (CA.out _ (Below.refl _ _).drew).mono ?_;rintro e w1 ⟨a4,c4,rfl,ak,ag⟩;have aa:Below wX.heap.size wX w1:=(Below.refl _ _).drew.trans ag)
  try go_wp2_with fail
  refine hK.out _ _ ?_ (fun hHeld=>?_)
  ·exact FS.out _ aa
  clear hK K
  try simp only [Act.put,sqp]
  have ac:=hid (aq.out.onto aa)
  have ab:=hid (af.out.onto aa)
  have ah:=hid (ay.out.later aa)
  have al:=hid (gc.out.trans (S':=[]) (.of_below aa) (by simp))
  have am:=hid (Nat.le_trans gd.out aa.size)
  have an:=hid (ak.off (S:=b::w.heap.size::T) (hc.out _ (Nat.le_refl _)))
  clear ak ag CA
  refine sqt 8 ?_
  refine sqt 9 ?_
  refine sqt 10 ?_
  refine sqr 11 fun K hK=>?_
  go_simp
  skip
  try go_wp2_with fail
  refine hK.out _ _ ?_ (fun hHeld=>?_)
  ·exact FS.out _ (aa.alloc aa.size _)
  clear hK K
  try simp only [Act.put,sqp]
  refine sqr 12 fun K hK=>?_
  go_simp
  skip
  try go_wp2_with fail
  refine hK.out _ _ ?_ (fun hHeld=>?_)
  ·exact FS.out _ (aa.alloc aa.size _)
  clear hK K
  try simp only [Act.put,sqp]
  refine sqt 13 ?_
  refine wpAnyH_done (by kernel_rfl) ?_ _
  have gh:wX.heap.size≤w1.heap.size:=aa.size
  clear aa
  obtain ⟨vv,hwA1,kA,hbA,hzA⟩:=box1 w1 #[.slice a4 l.length c4] 54
  have ar:=hid (ac.out.onto hbA)
  have au:=hid (ab.out.onto hbA)
  have ai:=hid (ah.out.later hbA)
  have aj:=hid (an.out.later hbA)
  have av:=hid (al.out.trans (S':=[]) (.of_below hbA) (by simp))
  have a2:=hid (Nat.le_trans am.out hbA.size)
  have ad:=hid kA
  have a3:w1.heap.size<vv.heap.size:=by omega
  have gg:=hid a3
  clear kA hbA hzA a3 ac ab ah an al am
  rw [hwA1]
  obtain ⟨bt,hbt⟩:∃ x,w1.heap.size=x:=⟨_,rfl⟩
  rw [hbt] at ad gg ⊢
  have hbx:wX.heap.size≤bt:=by rw [← hbt];exact gh
  clear hwA1 hbt gh
 all_goals
  obtain ⟨c7,c8,c9,da,db,dc,dd,de,df,dg,dh,di,dj,dk,dl,dm⟩:=ar.out.all8
  obtain ⟨dn,dp,dq,dr,ds,dt⟩:=au.out.all3
  obtain ⟨du,dv⟩:=ad.out.all1
  replace ai:=hid (ai.out.wide (S':=b::T) (fun i hi=>.inl (by simp only [List.mem_cons] at hi ⊢;rcases hi with h|h <;> simp [h])))
  replace aj:=hid (aj.out.wide (S':=b::T) (fun i hi=>.inl (by simp only [List.mem_cons] at hi ⊢;rcases hi with h|h <;> simp [h])))
  have cpu:=xU (made:=true) (r:=some ⟨rb,0,none⟩) (t:=⟨#[]⟩) (m:=m) (u:=u) (ro:=ro) (o:=false) (g:=g) ar.out (fun i hi=>Nat.lt_of_lt_of_le (H.out.tlt i hi) av.out.size) ai.out.u ⟨a4,l,c4⟩ aj.out f9.out.1 f9.out.2 (by rw [hb.out];decide)
  have hd:=hid (show Calls prog 155 #[.pointer (some ⟨b,0,none⟩),stpV a4 l.length c4] vv _ from cpu)
  clear cpu
  go_wp2_with fail
  refine (hd.out).mono ?_;rintro e wP ⟨rfl,⟨ua,ul,uc⟩,hul,gi,hsu,ha⟩
  clear c7 c8 c9 da db dc dd de df dg dh di dj dk dl dm dn dp dq dr ds dt du dv
  have a5:=hid (gi)
  have a6:=hid (au.out.apart ha (by simp only [List.mem_singleton];omega))
  have a7:=hid (ad.out.apart ha (by simp only [List.mem_singleton];omega))
  have gj:=hid (ai.out.apart (ha.more (by simp)))
  have gk:=hid (aj.out.apart (ha.more (by simp)))
  have gm:=hid (av.out.trans ha (by simp))
  have gn:=hid (Nat.le_trans a2.out ha.size)
  have a8:=hid hul
  have gp:=hid (hsu)
  clear ha hul gi hsu ar au ad ai aj av a2
  obtain ⟨dw,dx,dy,dz,d0,d1,d2,d3,d4,d5,d6,d7,d8,d9,ea,eb⟩:=a5.out.all8
  obtain ⟨ec,ed,ee,ef,eg,eh⟩:=a6.out.all3
  obtain ⟨ei,ej⟩:=a7.out.all1
  have kO:Blk (wP.setCell ⟨b,5,none⟩ (.slice none 0 0)) (b) #[.bool true,.pointer (some ⟨rb,0,none⟩),.string ⟨#[]⟩,.slice m.a m.l.length m.c,.slice ua ul.length uc,.slice none 0 0,.bool false,.slice g.a g.l.length g.c] 100:=(a5.out.set 5 _)
  have kE:Blk (wP.setCell ⟨b,5,none⟩ (.slice none 0 0)) (w.heap.size) #[.int .i64 x,.string eo,.string en] 92:=(a6.out.other ⟨b,5,none⟩ (by show b≠w.heap.size;omega) _)
  have kT:Blk (wP.setCell ⟨b,5,none⟩ (.slice none 0 0)) (bt) #[.slice a4 l.length c4] 54:=(a7.out.other ⟨b,5,none⟩ (by show b≠bt;omega) _)
  have ap:Apart (b::T) wP (wP.setCell ⟨b,5,none⟩ (.slice none 0 0)):=(Apart.refl (b::T) wP).setCell (p:=⟨b,5,none⟩) (.inl (by simp)) _
  have rS:=gj.out.apart ap
  have rG:=gk.out.apart ap
  have rU:=gp.out.apart ap
  have hB:=((gm.out.setCell (p:=⟨b,5,none⟩) (by simp) _):Apart [b] w (wP.setCell ⟨b,5,none⟩ (.slice none 0 0)))
  have hz:(wP.setCell ⟨b,5,none⟩ (.slice none 0 0)).heap.size=wP.heap.size:=by simp
  obtain ⟨v4,gq⟩:∃ V,(wP.setCell ⟨b,5,none⟩ (.slice none 0 0))=V:=⟨_,rfl⟩
  rw [gq] at kO kE kT rS rG rU hB hz
  have aw:=hid kO
  have a9:=hid kE
  have ba:=hid kT
  have gs:=hid rS
  have gt:=hid rG
  have gu:=hid rU
  have bb:=hid hB
  have gv:=hid (Nat.le_trans gn.out (Nat.le_of_eq hz.symm))
  clear kO kE kT rS rG rU hB hz ap a5 a6 a7 gj gk gp gm gn
  obtain ⟨ek,el,em,eq,er,es,et,eu,ev,ew,ey,ez,e0,e3,e4,e5⟩:=aw.out.all8
  obtain ⟨e6,e7,e8,e9,fa,fb⟩:=a9.out.all3
  obtain ⟨fc,fd⟩:=ba.out.all1
  have hf:=hid (show b<v4.heap.size from aw.out.lt);have hj:=hid bb.out.size
  obtain ⟨gw,hwA4,kA,hbA,hzA⟩:=box1 v4 #[.int .i64 x,.string eo,.string en] 92
  have bc:=hid (aw.out.onto hbA)
  have bd:=hid (a9.out.onto hbA)
  have be:=hid (ba.out.onto hbA)
  have bf:=hid (gs.out.later hbA)
  have gx:=hid (gt.out.later hbA)
  have g0:=hid (gu.out.later hbA)
  have bg:=hid (bb.out.trans (S':=[]) (.of_below hbA) (by simp))
  have g1:=hid (Nat.le_trans gv.out hbA.size)
  have ao:=hid kA
  have bh:v4.heap.size<gw.heap.size:=by omega
  have i2:=hid bh
  clear kA hbA hzA bh aw a9 ba gs gt gu bb gv
  obtain ⟨fe,ff,fg,fh,fi,fj,fk,fm,fn,fo,fp,fq,fr,fs,ft,fu⟩:=bc.out.all8
  obtain ⟨fv,fw,fx,fy,fz,f0⟩:=bd.out.all3
  obtain ⟨f1,f2⟩:=be.out.all1
  obtain ⟨f3,f4,f5,f6,f7,f8⟩:=ao.out.all3
  have hbv:b≠v4.heap.size:=by have h1:=hf.out;omega
  have csh:=lJ (made:=true) (r:=some ⟨rb,0,none⟩) (t:=⟨#[]⟩) (m:=m) (u:=⟨ua,ul,uc⟩) (ro:=⟨none,[],0⟩) (o:=false) (g:=g) bc.out (fun i hi=>Nat.lt_of_lt_of_le (H.out.tlt i hi) bg.out.size) bf.out.m g8.out g9.out (some ⟨rb',0,none⟩) ⟨some ⟨v4.heap.size,0,none⟩,[⟨x,eo,en⟩],1⟩ ⟨eone ao.out ⟨ao.out.lt,by simp only [List.mem_cons,not_or];exact ⟨by omega,fun hi=>by have h1:=H.out.tlt _ hi;have h2:=hj.out;(try dsimp only at h1 h2);omega⟩⟩,fun e=>by cases e⟩ (by simp) g5.out g6.out g7.out
  have hk:=hid (show Calls prog 177 #[.pointer (some ⟨b,0,none⟩),.pointer (some ⟨rb',0,none⟩),.slice (some ⟨v4.heap.size,0,none⟩) (1:Nat) 1] gw _ from csh)
  clear csh
  go_wp2_with fail
  refine (hk.out).mono ?_;rintro e wZ ⟨rfl,⟨ma,ml,mc⟩,bi,bj,g2,bk,ha⟩
  clear dw dx dy dz d0 d1 d2 d3 d4 d5 d6 d7 d8 d9 ea eb ec ed ee ef eg eh ei ej gq ek el em eq er es et eu ev ew ey ez e0 e3 e4 e5 e6 e7 e8 e9 fa fb fc fd hwA4 fe ff fg fh fi fj fk fm fn fo fp fq fr fs ft fu fv fw fx fy fz f0 f1 f2 f3 f4 f5 f6 f7 f8
  have g3:=hid (g2)
  have hm:=hid (bd.out.apart ha (by simp only [List.mem_singleton];omega))
  have hp:=hid (be.out.apart ha (by simp only [List.mem_singleton];omega))
  have hq:=hid (ao.out.apart ha (by simp only [List.mem_singleton];omega))
  have ht:=hid (bf.out.apart (ha.more (by simp)))
  have i3:=hid (gx.out.apart (ha.more (by simp)))
  have hu:=hid (g0.out.apart (ha.more (by simp)))
  have bl:=hid (bg.out.trans ha (by simp))
  have i4:=hid (Nat.le_trans g1.out ha.size)
  have ax:=hid (And.intro bi bj)
  have hv:=hid (bk)
  clear ha bi bj g2 bk bc bd be ao bf gx g0 bg g1
  obtain ⟨hw,h0,h5,h6,h7,h8,h9,ia,ib,ic,ie,ig,ih,ii,ij,ik⟩:=g3.out.all8
  obtain ⟨il,im,io,ip,iq,ir⟩:=hm.out.all3
  obtain ⟨it,iu⟩:=hp.out.all1
  obtain ⟨iv,iw,ix,iy,iz,i0⟩:=hq.out.all3
  go_wp2
  go_ret
  refine ⟨⟨t',⟨ma,ml,mc⟩,⟨ua,ul,uc⟩,⟨none,[],0⟩,false,g⟩,rb',p',L',rfl,⟨g3.out,HR.out.apart H.out.blk rfl bl.out,⟨hv.out,hu.out,SPo.empty _ _,ht.out.g⟩,ax.out.2.1,ax.out.2.2,?_,fun i hi=>Nat.lt_of_lt_of_le (H.out.tlt i hi) (bl.out).size⟩,?_,bl.out⟩
  ·have e:=HI.out
   rw [HE.out] at e
   have h3:ml=shfM m.l (shiftI x eo.size en.size):=ax.out.1
   have h4:lsP ul=pushL (lsP u.l) [⟨x,eo,en⟩]:=by rw [HL.out];exact a8.out
   show InvS (⟨t',ml,lsP ul,[],false,g.l⟩:StaD)
   rw [h3,h4]
   exact e
  ·have h3:ml=shfM m.l (shiftI x eo.size en.size):=ax.out.1
   have h4:lsP ul=pushL (lsP u.l) [⟨x,eo,en⟩]:=by rw [HL.out];exact a8.out
   show (⟨t',ml,lsP ul,[],false,g.l⟩:StaD)=_
   rw [h3,h4]
set_option maxHeartbeats 800000 in
theorem wN {m:KPc} {u ro:SPc} {g:EPc} (h:IsEd T w b ⟨t,m,u,ro,true,g⟩ rb p L) (k i n:Int) (x:ByteArray):Calls prog 124 #[.pointer (some ⟨b,0,none⟩),(.agg #[.int .i64 k,.int .i64 i,.int .i64 n,.string x])] w (RetEd T w b ((Sta.d ⟨t,m,u,ro,true,g⟩),11)):=by
 have hbl:b<w.heap.size:=h.lt
 obtain ⟨wX,hwX,kE,aa,hz⟩:=box1 w #[.int .i64 k,.int .i64 i,.int .i64 n,.string x] 50
 have ad:=hid (show Blk wX b #[.bool true,.pointer (some ⟨rb,0,none⟩),.string ⟨#[]⟩,.slice m.a m.l.length m.c,.slice u.a u.l.length u.c,.slice ro.a ro.l.length ro.c,.bool true,.slice g.a g.l.length g.c] 100 from h.blk.onto aa)
 have ae:=hid (kE)
 have af:=hid ((h.rows.wide (S':=b::w.heap.size::T) (wide2 (Nat.le_refl _))).later aa)
 have ab:=hid ((Apart.of_below aa:Apart [b] w wX))
 have a7:=hid (Nat.le_refl wX.heap.size)
 have ac:∀ W:World,wX.heap.size≤W.heap.size→∀ i∈b::w.heap.size::T,i<W.heap.size:=fun W hWz i hi=>by simp only [List.mem_cons] at hi;rcases hi with rfl|rfl|hi;all_goals first|omega|(have:=h.tlt i hi;omega)
 have a8:=hid ac;have H:=hid h;have HB:=hid aa
 clear ac kE
 obtain ⟨ag,ah,ai,aj,ak,al,am,an,ao,aq,ar,au,av,aw,ax,ay⟩:=ad.out.all8
 obtain ⟨az,a0,a1,a2,a3,a4,a5,a6⟩:=ae.out.all4
 clear h aa hz
 go_enter func124,ntmps124
 go_wp2
 go_ret
 exact ⟨⟨t,m,u,ro,true,g⟩,rb,p,L,rfl,⟨ad.out,H.out.rope.apart H.out.blk rfl ab.out,af.out.wide (fun i hi=>.inl (by simp only [List.mem_cons] at hi ⊢;rcases hi with h|h <;> simp [h])),H.out.ml,H.out.mc,H.out.inv,fun i hi=>Nat.lt_of_lt_of_le (H.out.tlt i hi) (ab.out).size⟩,rfl,ab.out⟩
set_option maxHeartbeats 800000 in
theorem tZ {m:KPc} {u ro:SPc} {g:EPc} (h:IsEd T w b ⟨t,m,u,ro,false,g⟩ rb p L) (k i n:Int) (x:ByteArray):Calls prog 124 #[.pointer (some ⟨b,0,none⟩),(.agg #[.int .i64 k,.int .i64 i,.int .i64 n,.string x])] w (RetEd T w b (⟨t,m.l,lsP u.l,lsP ro.l,true,g.l⟩,0)):=by
 have hbl:b<w.heap.size:=h.lt
 obtain ⟨wX,hwX,kE,ab,hz⟩:=box1 w #[.int .i64 k,.int .i64 i,.int .i64 n,.string x] 50
 have ac:=hid (show Blk wX b #[.bool true,.pointer (some ⟨rb,0,none⟩),.string ⟨#[]⟩,.slice m.a m.l.length m.c,.slice u.a u.l.length u.c,.slice ro.a ro.l.length ro.c,.bool false,.slice g.a g.l.length g.c] 100 from h.blk.onto ab)
 have ad:=hid (kE)
 have ag:=hid ((h.rows.wide (S':=b::w.heap.size::T) (wide2 (Nat.le_refl _))).later ab)
 have ah:=hid ((Apart.of_below ab:Apart [b] w wX))
 have ai:=hid (Nat.le_refl wX.heap.size)
 have ae:∀ W:World,wX.heap.size≤W.heap.size→∀ i∈b::w.heap.size::T,i<W.heap.size:=fun W hWz i hi=>by simp only [List.mem_cons] at hi;rcases hi with rfl|rfl|hi;all_goals first|omega|(have:=h.tlt i hi;omega)
 have b6:=hid ae;have H:=hid h;have HB:=hid ab
 clear ae kE
 obtain ⟨am,an,ao,aq,ar,au,av,aw,ax,ay,az,a0,a1,a2,a3,a4⟩:=ac.out.all8
 obtain ⟨a5,a6,a7,a8,a9,ba,bb,bc⟩:=ad.out.all4
 clear h ab hz
 go_enter func124,ntmps124
 have kO:Blk (wX.setCell ⟨b,6,none⟩ (.bool true)) (b) #[.bool true,.pointer (some ⟨rb,0,none⟩),.string ⟨#[]⟩,.slice m.a m.l.length m.c,.slice u.a u.l.length u.c,.slice ro.a ro.l.length ro.c,.bool true,.slice g.a g.l.length g.c] 100:=(ac.out.set 6 _)
 have kE:Blk (wX.setCell ⟨b,6,none⟩ (.bool true)) (w.heap.size) #[.int .i64 k,.int .i64 i,.int .i64 n,.string x] 50:=(ad.out.other ⟨b,6,none⟩ (by show b≠w.heap.size;omega) _)
 have ap:Apart (b::w.heap.size::T) wX (wX.setCell ⟨b,6,none⟩ (.bool true)):=(Apart.refl (b::w.heap.size::T) wX).setCell (p:=⟨b,6,none⟩) (.inl (by simp)) _
 have rS:=ag.out.apart ap
 have hB:=((ah.out.setCell (p:=⟨b,6,none⟩) (by simp) _):Apart [b] w (wX.setCell ⟨b,6,none⟩ (.bool true)))
 have hz:(wX.setCell ⟨b,6,none⟩ (.bool true)).heap.size=wX.heap.size:=by simp
 obtain ⟨v1,ak⟩:∃ V,(wX.setCell ⟨b,6,none⟩ (.bool true))=V:=⟨_,rfl⟩
 rw [ak] at kO kE rS hB hz
 have aj:=hid kO
 have al:=hid kE
 have aa:=hid rS
 have af:=hid hB
 have b7:=hid (Nat.le_trans ai.out (Nat.le_of_eq hz.symm))
 clear kO kE rS hB hz ap ac ad ag ah ai
 obtain ⟨bd,be,bf,bg,bh,bi,bj,bk,bl,bm,bn,bo,bp,bq,br,bs⟩:=aj.out.all8
 obtain ⟨bu,bv,bw,bx,bz,b3,b4,b5⟩:=al.out.all4
 replace aa:=hid (aa.out.wide (S':=b::T) (fun i hi=>.inl (by simp only [List.mem_cons] at hi ⊢;rcases hi with h|h <;> simp [h])))
 go_wp2
 go_ret
 exact ⟨⟨t,m,u,ro,true,g⟩,rb,p,L,rfl,⟨aj.out,H.out.rope.apart H.out.blk rfl af.out,⟨aa.out.m,aa.out.u,aa.out.r,aa.out.g⟩,H.out.ml,H.out.mc,(by have e:=pO H.out.inv;exact e),fun i hi=>Nat.lt_of_lt_of_le (H.out.tlt i hi) (af.out).size⟩,rfl,af.out⟩
set_option maxHeartbeats 800000 in
theorem GH {m:KPc} {u ro:SPc} {g:EPc} (h:IsEd T w b ⟨t,m,u,ro,false,g⟩ rb p L) (k i n:Int) (x:ByteArray):Calls prog 125 #[.pointer (some ⟨b,0,none⟩),(.agg #[.int .i64 k,.int .i64 i,.int .i64 n,.string x])] w (RetEd T w b ((Sta.d ⟨t,m,u,ro,false,g⟩),11)):=by
 have hbl:b<w.heap.size:=h.lt
 obtain ⟨wX,hwX,kE,aa,hz⟩:=box1 w #[.int .i64 k,.int .i64 i,.int .i64 n,.string x] 50
 have ad:=hid (show Blk wX b #[.bool true,.pointer (some ⟨rb,0,none⟩),.string ⟨#[]⟩,.slice m.a m.l.length m.c,.slice u.a u.l.length u.c,.slice ro.a ro.l.length ro.c,.bool false,.slice g.a g.l.length g.c] 100 from h.blk.onto aa)
 have ae:=hid (kE)
 have af:=hid ((h.rows.wide (S':=b::w.heap.size::T) (wide2 (Nat.le_refl _))).later aa)
 have ab:=hid ((Apart.of_below aa:Apart [b] w wX))
 have a7:=hid (Nat.le_refl wX.heap.size)
 have ac:∀ W:World,wX.heap.size≤W.heap.size→∀ i∈b::w.heap.size::T,i<W.heap.size:=fun W hWz i hi=>by simp only [List.mem_cons] at hi;rcases hi with rfl|rfl|hi;all_goals first|omega|(have:=h.tlt i hi;omega)
 have a8:=hid ac;have H:=hid h;have HB:=hid aa
 clear ac kE
 obtain ⟨ag,ah,ai,aj,ak,al,am,an,ao,aq,ar,au,av,aw,ax,ay⟩:=ad.out.all8
 obtain ⟨az,a0,a1,a2,a3,a4,a5,a6⟩:=ae.out.all4
 clear h aa hz
 go_enter func125,ntmps125
 go_wp2
 go_ret
 exact ⟨⟨t,m,u,ro,false,g⟩,rb,p,L,rfl,⟨ad.out,H.out.rope.apart H.out.blk rfl ab.out,af.out.wide (fun i hi=>.inl (by simp only [List.mem_cons] at hi ⊢;rcases hi with h|h <;> simp [h])),H.out.ml,H.out.mc,H.out.inv,fun i hi=>Nat.lt_of_lt_of_le (H.out.tlt i hi) (ab.out).size⟩,rfl,ab.out⟩
set_option maxHeartbeats 1600000 in
theorem wG {m:KPc} {u ro:SPc} {g:EPc} (h:IsEd T w b ⟨t,m,u,ro,true,g⟩ rb p L) (k i n:Int) (x:ByteArray) (hg0:g.l.length=0):Calls prog 125 #[.pointer (some ⟨b,0,none⟩),(.agg #[.int .i64 k,.int .i64 i,.int .i64 n,.string x])] w (RetEd T w b (⟨t,m.l,lsP u.l,lsP ro.l,false,[]⟩,0)):=by
 have hbl:b<w.heap.size:=h.lt
 have he:endD (Sta.d ⟨t,m,u,ro,true,g⟩)=(⟨t,m.l,lsP u.l,lsP ro.l,false,[]⟩,0):=by unfold endD;rw [if_neg (fun h=>by cases h),show (Sta.d ⟨t,m,u,ro,true,g⟩).g.length=0 from hg0,if_pos rfl];rfl
 have HE:=hid he
 clear he
 obtain ⟨wX,hwX,kE,aa,hz⟩:=box1 w #[.int .i64 k,.int .i64 i,.int .i64 n,.string x] 50
 have ac:=hid (show Blk wX b #[.bool true,.pointer (some ⟨rb,0,none⟩),.string ⟨#[]⟩,.slice m.a m.l.length m.c,.slice u.a u.l.length u.c,.slice ro.a ro.l.length ro.c,.bool true,.slice g.a g.l.length g.c] 100 from h.blk.onto aa)
 have ad:=hid (kE)
 have ab:=hid ((h.rows.wide (S':=b::w.heap.size::T) (wide2 (Nat.le_refl _))).later aa)
 have aj:=hid ((Apart.of_below aa:Apart [b] w wX))
 have ak:=hid (Nat.le_refl wX.heap.size)
 have ae:∀ W:World,wX.heap.size≤W.heap.size→∀ i∈b::w.heap.size::T,i<W.heap.size:=fun W hWz i hi=>by simp only [List.mem_cons] at hi;rcases hi with rfl|rfl|hi;all_goals first|omega|(have:=h.tlt i hi;omega)
 have c4:=hid ae;have H:=hid h;have HB:=hid aa
 clear ae kE
 obtain ⟨av,aw,ax,ay,az,a0,a1,a2,a3,a4,a5,a6,a7,a8,a9,ba⟩:=ac.out.all8
 obtain ⟨bb,bc,bd,be,bf,bg,bh,bi⟩:=ad.out.all4
 have g0:g.l.length=0:=hg0
 clear h aa hz
 go_enter func125,ntmps125
 replace ab:=hid (ab.out.wide (S':=b::T) (fun i hi=>.inl (by simp only [List.mem_cons] at hi ⊢;rcases hi with h|h <;> simp [h])))
 have kO:Blk (wX.setCell ⟨b,6,none⟩ (.bool false)) (b) #[.bool true,.pointer (some ⟨rb,0,none⟩),.string ⟨#[]⟩,.slice m.a m.l.length m.c,.slice u.a u.l.length u.c,.slice ro.a ro.l.length ro.c,.bool false,.slice g.a g.l.length g.c] 100:=(ac.out.set 6 _)
 have kE:Blk (wX.setCell ⟨b,6,none⟩ (.bool false)) (w.heap.size) #[.int .i64 k,.int .i64 i,.int .i64 n,.string x] 50:=(ad.out.other ⟨b,6,none⟩ (by show b≠w.heap.size;omega) _)
 have ap:Apart (b::T) wX (wX.setCell ⟨b,6,none⟩ (.bool false)):=(Apart.refl (b::T) wX).setCell (p:=⟨b,6,none⟩) (.inl (by simp)) _
 have rS:=ab.out.apart ap
 have hB:=((aj.out.setCell (p:=⟨b,6,none⟩) (by simp) _):Apart [b] w (wX.setCell ⟨b,6,none⟩ (.bool false)))
 have hz:(wX.setCell ⟨b,6,none⟩ (.bool false)).heap.size=wX.heap.size:=by simp
 obtain ⟨v1,aq⟩:∃ V,(wX.setCell ⟨b,6,none⟩ (.bool false))=V:=⟨_,rfl⟩
 rw [aq] at kO kE rS hB hz
 have af:=hid kO
 have ag:=hid kE
 have al:=hid rS
 have am:=hid hB
 have an:=hid (Nat.le_trans ak.out (Nat.le_of_eq hz.symm))
 clear kO kE rS hB hz ap ac ad ab aj ak
 obtain ⟨bj,bk,bl,bm,bn,bo,bp,bq,br,bs,bu,bv,bw,bx,bz,b3⟩:=af.out.all8
 obtain ⟨b4,b5,b6,b7,b8,b9,ca,cb⟩:=ag.out.all4
 have kO:Blk (v1.setCell ⟨b,7,none⟩ (.slice none 0 0)) (b) #[.bool true,.pointer (some ⟨rb,0,none⟩),.string ⟨#[]⟩,.slice m.a m.l.length m.c,.slice u.a u.l.length u.c,.slice ro.a ro.l.length ro.c,.bool false,.slice none 0 0] 100:=(af.out.set 7 _)
 have kE:Blk (v1.setCell ⟨b,7,none⟩ (.slice none 0 0)) (w.heap.size) #[.int .i64 k,.int .i64 i,.int .i64 n,.string x] 50:=(ag.out.other ⟨b,7,none⟩ (by show b≠w.heap.size;omega) _)
 have ap:Apart (b::T) v1 (v1.setCell ⟨b,7,none⟩ (.slice none 0 0)):=(Apart.refl (b::T) v1).setCell (p:=⟨b,7,none⟩) (.inl (by simp)) _
 have rS:=al.out.apart ap
 have hB:=((am.out.setCell (p:=⟨b,7,none⟩) (by simp) _):Apart [b] w (v1.setCell ⟨b,7,none⟩ (.slice none 0 0)))
 have hz:(v1.setCell ⟨b,7,none⟩ (.slice none 0 0)).heap.size=v1.heap.size:=by simp
 obtain ⟨v2,ar⟩:∃ V,(v1.setCell ⟨b,7,none⟩ (.slice none 0 0))=V:=⟨_,rfl⟩
 rw [ar] at kO kE rS hB hz
 have ao:=hid kO
 have au:=hid kE
 have ah:=hid rS
 have ai:=hid hB
 have c5:=hid (Nat.le_trans an.out (Nat.le_of_eq hz.symm))
 clear kO kE rS hB hz ap af ag al am an
 obtain ⟨cc,cd,ce,cf,cg,ch,ci,cj,ck,cl,cm,cn,co,cp,cq,cr⟩:=ao.out.all8
 obtain ⟨ct,cu,cv,cw,cx,cy,cz,c3⟩:=au.out.all4
 go_wp2
 go_ret
 have hie:=pK H.out.inv
 rw [HE.out] at hie
 exact ⟨⟨t,m,u,ro,false,⟨none,[],0⟩⟩,rb,p,L,rfl,⟨ao.out,H.out.rope.apart H.out.blk rfl ai.out,⟨ah.out.m,ah.out.u,ah.out.r,EPo.empty _ _⟩,H.out.ml,H.out.mc,hie,fun i hi=>Nat.lt_of_lt_of_le (H.out.tlt i hi) (ai.out).size⟩,rfl,ai.out⟩
set_option maxHeartbeats 1600000 in
theorem vL {m:KPc} {u ro:SPc} {g:EPc} (h:IsEd T w b ⟨t,m,u,ro,true,g⟩ rb p L) (k i n:Int) (x:ByteArray) (hg0:¬ g.l.length=0):Calls prog 125 #[.pointer (some ⟨b,0,none⟩),(.agg #[.int .i64 k,.int .i64 i,.int .i64 n,.string x])] w (RetEd T w b (⟨t,m.l,pushL (lsP u.l) g.l,lsP ro.l,false,[]⟩,0)):=by
 have hbl:b<w.heap.size:=h.lt
 have he:endD (Sta.d ⟨t,m,u,ro,true,g⟩)=(⟨t,m.l,pushL (lsP u.l) g.l,lsP ro.l,false,[]⟩,0):=by unfold endD;rw [if_neg (fun h=>by cases h),if_neg (show ¬ (Sta.d ⟨t,m,u,ro,true,g⟩).g.length=0 from hg0)];rfl
 have HE:=hid he
 have hul:u.l.length≤900∧∀ y∈u.l,y.l.length≤1000000:=by
  have h1:=h.inv.ul
  have h2:(lsP u.l).length≤16:=h1.1
  rw [aG] at h2
  exact ⟨by omega,bI fun y hy=>Nat.le_trans (h1.2 y hy).2 (by decide)⟩
 have hgl:g.l.length≤1000000:=Nat.le_trans h.inv.gl (by decide)
 have bc:=hid hul;have bq:=hid hgl
 clear he hul hgl
 obtain ⟨wX,hwX,kE,ab,hz⟩:=box1 w #[.int .i64 k,.int .i64 i,.int .i64 n,.string x] 50
 have ac:=hid (show Blk wX b #[.bool true,.pointer (some ⟨rb,0,none⟩),.string ⟨#[]⟩,.slice m.a m.l.length m.c,.slice u.a u.l.length u.c,.slice ro.a ro.l.length ro.c,.bool true,.slice g.a g.l.length g.c] 100 from h.blk.onto ab)
 have ad:=hid (kE)
 have aa:=hid ((h.rows.wide (S':=b::w.heap.size::T) (wide2 (Nat.le_refl _))).later ab)
 have ae:=hid ((Apart.of_below ab:Apart [b] w wX))
 have bd:=hid (Nat.le_refl wX.heap.size)
 have af:∀ W:World,wX.heap.size≤W.heap.size→∀ i∈b::w.heap.size::T,i<W.heap.size:=fun W hWz i hi=>by simp only [List.mem_cons] at hi;rcases hi with rfl|rfl|hi;all_goals first|omega|(have:=h.tlt i hi;omega)
 have d6:=hid af;have H:=hid h;have HB:=hid ab
 clear af kE
 obtain ⟨al,am,an,ao,aq,ar,au,av,aw,ax,ay,az,a0,a1,a2,a3⟩:=ac.out.all8
 obtain ⟨a4,a5,a6,a7,a8,a9,ba,bb⟩:=ad.out.all4
 have g0:¬ g.l.length=0:=hg0
 have g1:(0:Int)<(g.l.length:Int):=by omega
 have cpu:=fun W (hk:Blk W b (edC true (some ⟨rb,0,none⟩) ⟨#[]⟩ m u ro true g) 100) (hT:InS T W) (hu:SPo (b::T) W u) (hg:EPo (b::T) W g)=>xU hk hT hu g hg bc.out.1 bc.out.2 bq.out
 have br:=hid cpu
 clear h ab hz cpu
 go_enter func125,ntmps125
 replace aa:=hid (aa.out.wide (S':=b::T) (fun i hi=>.inl (by simp only [List.mem_cons] at hi ⊢;rcases hi with h|h <;> simp [h])))
 go_wp2_with fail
 refine (br.out _ ac.out (fun i hi=>Nat.lt_of_lt_of_le (H.out.tlt i hi) ae.out.size) aa.out.u aa.out.g).mono ?_;rintro e wP ⟨rfl,⟨ua,ul,uc⟩,hul,be,hsu,ha⟩
 clear al am an ao aq ar au av aw ax ay az a0 a1 a2 a3 a4 a5 a6 a7 a8 a9 ba bb
 have ag:=hid (be)
 have ah:=hid (ad.out.apart ha (by simp only [List.mem_singleton];omega))
 have bf:=hid (aa.out.apart (ha.more (by simp)))
 have bg:=hid (ae.out.trans ha (by simp))
 have bh:=hid (Nat.le_trans bd.out ha.size)
 have bp:=hid hul
 have bi:=hid (hsu)
 clear ha hul be hsu hwX ac ad aa ae bd
 obtain ⟨bx,bz,b3,b4,b5,b6,b7,b8,b9,ca,cb,cc,cd,ce,cf,cg⟩:=ag.out.all8
 obtain ⟨ch,ci,cj,ck,cl,cm,cn,co⟩:=ah.out.all4
 have kO:Blk (wP.setCell ⟨b,6,none⟩ (.bool false)) (b) #[.bool true,.pointer (some ⟨rb,0,none⟩),.string ⟨#[]⟩,.slice m.a m.l.length m.c,.slice ua ul.length uc,.slice ro.a ro.l.length ro.c,.bool false,.slice g.a g.l.length g.c] 100:=(ag.out.set 6 _)
 have kE:Blk (wP.setCell ⟨b,6,none⟩ (.bool false)) (w.heap.size) #[.int .i64 k,.int .i64 i,.int .i64 n,.string x] 50:=(ah.out.other ⟨b,6,none⟩ (by show b≠w.heap.size;omega) _)
 have ap:Apart (b::T) wP (wP.setCell ⟨b,6,none⟩ (.bool false)):=(Apart.refl (b::T) wP).setCell (p:=⟨b,6,none⟩) (.inl (by simp)) _
 have rS:=bf.out.apart ap
 have rU:=bi.out.apart ap
 have hB:=((bg.out.setCell (p:=⟨b,6,none⟩) (by simp) _):Apart [b] w (wP.setCell ⟨b,6,none⟩ (.bool false)))
 have hz:(wP.setCell ⟨b,6,none⟩ (.bool false)).heap.size=wP.heap.size:=by simp
 obtain ⟨v2,bs⟩:∃ V,(wP.setCell ⟨b,6,none⟩ (.bool false))=V:=⟨_,rfl⟩
 rw [bs] at kO kE rS rU hB hz
 have ai:=hid kO
 have aj:=hid kE
 have bj:=hid rS
 have bk:=hid rU
 have bl:=hid hB
 have bm:=hid (Nat.le_trans bh.out (Nat.le_of_eq hz.symm))
 clear kO kE rS rU hB hz ap ag ah bf bi bg bh
 obtain ⟨cp,cq,cr,ct,cu,cv,cw,cx,cy,cz,c3,c4,c5,c6,c7,c8⟩:=ai.out.all8
 obtain ⟨c9,da,db,dc,dd,de,df,dg⟩:=aj.out.all4
 have kO:Blk (v2.setCell ⟨b,7,none⟩ (.slice none 0 0)) (b) #[.bool true,.pointer (some ⟨rb,0,none⟩),.string ⟨#[]⟩,.slice m.a m.l.length m.c,.slice ua ul.length uc,.slice ro.a ro.l.length ro.c,.bool false,.slice none 0 0] 100:=(ai.out.set 7 _)
 have kE:Blk (v2.setCell ⟨b,7,none⟩ (.slice none 0 0)) (w.heap.size) #[.int .i64 k,.int .i64 i,.int .i64 n,.string x] 50:=(aj.out.other ⟨b,7,none⟩ (by show b≠w.heap.size;omega) _)
 have ap:Apart (b::T) v2 (v2.setCell ⟨b,7,none⟩ (.slice none 0 0)):=(Apart.refl (b::T) v2).setCell (p:=⟨b,7,none⟩) (.inl (by simp)) _
 have rS:=bj.out.apart ap
 have rU:=bk.out.apart ap
 have hB:=((bl.out.setCell (p:=⟨b,7,none⟩) (by simp) _):Apart [b] w (v2.setCell ⟨b,7,none⟩ (.slice none 0 0)))
 have hz:(v2.setCell ⟨b,7,none⟩ (.slice none 0 0)).heap.size=v2.heap.size:=by simp
 obtain ⟨v3,bu⟩:∃ V,(v2.setCell ⟨b,7,none⟩ (.slice none 0 0))=V:=⟨_,rfl⟩
 rw [bu] at kO kE rS rU hB hz
 have bn:=hid kO
 have bv:=hid kE
 have bo:=hid rS
 have bw:=hid rU
 have ak:=hid hB
 have d7:=hid (Nat.le_trans bm.out (Nat.le_of_eq hz.symm))
 clear kO kE rS rU hB hz ap ai aj bj bk bl bm
 obtain ⟨dh,di,dj,dk,dl,dm,dn,dp,dq,dr,ds,dt,du,dv,dw,dx⟩:=bn.out.all8
 obtain ⟨dy,dz,d0,d1,d2,d3,d4,d5⟩:=bv.out.all4
 go_wp2
 go_ret
 have hie:=pK H.out.inv
 rw [HE.out] at hie
 have h4:lsP ul=pushL (lsP u.l) g.l:=bp.out
 exact ⟨⟨t,m,⟨ua,ul,uc⟩,ro,false,⟨none,[],0⟩⟩,rb,p,L,rfl,⟨bn.out,H.out.rope.apart H.out.blk rfl ak.out,⟨bo.out.m,bw.out,bo.out.r,EPo.empty _ _⟩,H.out.ml,H.out.mc,(by show InvS ⟨t,m.l,lsP ul,lsP ro.l,false,[]⟩;rw [h4];exact hie),fun i hi=>Nat.lt_of_lt_of_le (H.out.tlt i hi) (ak.out).size⟩,(by show (⟨t,m.l,lsP ul,lsP ro.l,false,[]⟩:StaD)=_;rw [h4]),ak.out⟩
set_option maxHeartbeats 1600000 in
theorem sN {m:KPc} {u ro:SPc} {g:EPc} (h:IsEd T w b ⟨t,m,u,ro,so,g⟩ rb p L) (k i n:Int) (x:ByteArray) (hx:x.size≤maxLen) (h1:markB x.data.toList=false):Calls prog 120 #[.pointer (some ⟨b,0,none⟩),(.agg #[.int .i64 k,.int .i64 i,.int .i64 n,.string x])] w (RetEd T w b ((Sta.d ⟨t,m,u,ro,so,g⟩),7)):=by
 have hbl:b<w.heap.size:=h.lt
 obtain ⟨wX,hwX,kE,aa,hz⟩:=box1 w #[.int .i64 k,.int .i64 i,.int .i64 n,.string x] 50
 have ad:=hid (show Blk wX b #[.bool true,.pointer (some ⟨rb,0,none⟩),.string ⟨#[]⟩,.slice m.a m.l.length m.c,.slice u.a u.l.length u.c,.slice ro.a ro.l.length ro.c,.bool so,.slice g.a g.l.length g.c] 100 from h.blk.onto aa)
 have ae:=hid (kE)
 have af:=hid ((h.rows.wide (S':=b::w.heap.size::T) (wide2 (Nat.le_refl _))).later aa)
 have ab:=hid ((Apart.of_below aa:Apart [b] w wX))
 have a7:=hid (Nat.le_refl wX.heap.size)
 have ac:∀ W:World,wX.heap.size≤W.heap.size→∀ i∈b::w.heap.size::T,i<W.heap.size:=fun W hWz i hi=>by simp only [List.mem_cons] at hi;rcases hi with rfl|rfl|hi;all_goals first|omega|(have:=h.tlt i hi;omega)
 have a8:=hid ac;have H:=hid h;have HB:=hid aa
 clear ac kE
 obtain ⟨ag,ah,ai,aj,ak,al,am,an,ao,aq,ar,au,av,aw,ax,ay⟩:=ad.out.all8
 obtain ⟨az,a0,a1,a2,a3,a4,a5,a6⟩:=ae.out.all4
 have c1:=bB x hx
 rw [h1] at c1
 have C1:=hid c1
 clear h aa hz c1 h1
 go_enter func120,ntmps120
 go_wp2_with fail
 refine (C1.out _).mono ?_;rintro e w1 ⟨rfl,rfl⟩
 go_wp2
 go_ret
 exact ⟨⟨t,m,u,ro,so,g⟩,rb,p,L,rfl,⟨ad.out,H.out.rope.apart H.out.blk rfl ab.out,af.out.wide (fun i hi=>.inl (by simp only [List.mem_cons] at hi ⊢;rcases hi with h|h <;> simp [h])),H.out.ml,H.out.mc,H.out.inv,fun i hi=>Nat.lt_of_lt_of_le (H.out.tlt i hi) (ab.out).size⟩,rfl,ab.out⟩
set_option maxHeartbeats 1600000 in
theorem sB {m:KPc} {u ro:SPc} {g:EPc} (h:IsEd T w b ⟨t,m,u,ro,so,g⟩ rb p L) (k i n:Int) (x:ByteArray) (hx:x.size≤maxLen) (h1:markB x.data.toList=true) (h2:i<0):Calls prog 120 #[.pointer (some ⟨b,0,none⟩),(.agg #[.int .i64 k,.int .i64 i,.int .i64 n,.string x])] w (RetEd T w b ((Sta.d ⟨t,m,u,ro,so,g⟩),3)):=by
 have hbl:b<w.heap.size:=h.lt
 obtain ⟨wX,hwX,kE,aa,hz⟩:=box1 w #[.int .i64 k,.int .i64 i,.int .i64 n,.string x] 50
 have ac:=hid (show Blk wX b #[.bool true,.pointer (some ⟨rb,0,none⟩),.string ⟨#[]⟩,.slice m.a m.l.length m.c,.slice u.a u.l.length u.c,.slice ro.a ro.l.length ro.c,.bool so,.slice g.a g.l.length g.c] 100 from h.blk.onto aa)
 have ab:=hid (kE)
 have a6:=hid ((h.rows.wide (S':=b::w.heap.size::T) (wide2 (Nat.le_refl _))).later aa)
 have ad:=hid ((Apart.of_below aa:Apart [b] w wX))
 have a7:=hid (Nat.le_refl wX.heap.size)
 have ae:∀ W:World,wX.heap.size≤W.heap.size→∀ i∈b::w.heap.size::T,i<W.heap.size:=fun W hWz i hi=>by simp only [List.mem_cons] at hi;rcases hi with rfl|rfl|hi;all_goals first|omega|(have:=h.tlt i hi;omega)
 have a8:=hid ae;have H:=hid h;have HB:=hid aa
 clear ae kE
 obtain ⟨af,ag,ah,ai,aj,ak,al,am,an,ao,aq,ar,au,av,aw,ax⟩:=ac.out.all8
 obtain ⟨ay,az,a0,a1,a2,a3,a4,a5⟩:=ab.out.all4
 have c1:=bB x hx
 rw [h1] at c1
 have C1:=hid c1
 clear c1 h1
 have hfs:∀ W,Below wX.heap.size wX W→(W.cell? ⟨b,1,none⟩=some (.pointer (some ⟨rb,0,none⟩))∧W.cell? ⟨b,3,none⟩=some (.slice m.a m.l.length m.c))∧W.cell? ⟨w.heap.size,0,none⟩=some (.int .i64 k)∧W.cell? ⟨w.heap.size,1,none⟩=some (.int .i64 i)∧W.cell? ⟨w.heap.size,2,none⟩=some (.int .i64 n)∧W.cell? ⟨w.heap.size,3,none⟩=some (.string x):=fun W h=>⟨⟨(ac.out.onto h).cell 1 _ rfl,(ac.out.onto h).cell 3 _ rfl⟩,(ab.out.onto h).cell 0 _ rfl,(ab.out.onto h).cell 1 _ rfl,(ab.out.onto h).cell 2 _ rfl,(ab.out.onto h).cell 3 _ rfl⟩
 have FS:=hid hfs
 clear hfs
 have d2:decide (i<0)=true:=decide_eq_true h2
 clear h aa hz
 go_enter func120,ntmps120
 go_wp2_with fail
 refine (C1.out _).mono ?_;rintro e w1 ⟨rfl,rfl⟩
 clear hwX
 go_wp2_with fail
 clear af ag ah ai aj ak al am an ao aq ar au av aw ax ay az a0 a1 a2 a3 a4 a5
 refine wp_region_held_drew (S:=(fun W:World=>(W.cell? ⟨b,1,none⟩=some (.pointer (some ⟨rb,0,none⟩))∧W.cell? ⟨b,3,none⟩=some (.slice m.a m.l.length m.c))∧W.cell? ⟨w.heap.size,0,none⟩=some (.int .i64 k)∧W.cell? ⟨w.heap.size,1,none⟩=some (.int .i64 i)∧W.cell? ⟨w.heap.size,2,none⟩=some (.int .i64 n)∧W.cell? ⟨w.heap.size,3,none⟩=some (.string x))) (by kernel_rfl) (FS.out _ (Below.refl _ _).drew) (fun hHeld=>?_)
 refine sqt 0 ?_
 refine sqt 1 ?_
 refine sqt 2 ?_
 refine sqt 3 ?_
 refine wpAnyH_take (i:=4) (v:=undef) (by simp only [sqg];rfl) (by kernel_rfl) (by kernel_rfl) (by kernel_rfl) (fun _ _ _ h=>by exact h) (Or.inr ⟨by rfl,rfl⟩) (by assumption) ?_
 try simp only [Act.put,sqp]
 refine wpAnyH_take (i:=5) (v:=undef) (by simp only [sqg];rfl) (by kernel_rfl) (by kernel_rfl) (by kernel_rfl) (fun _ _ _ h=>by exact h) (Or.inr ⟨by rfl,rfl⟩) (by assumption) ?_
 try simp only [Act.put,sqp]
 refine wpAnyH_take (i:=6) (v:=undef) (by simp only [sqg];rfl) (by kernel_rfl) (by kernel_rfl) (by kernel_rfl) (fun _ _ _ h=>by exact h) (Or.inr ⟨by rfl,rfl⟩) (by assumption) ?_
 try simp only [Act.put,sqp]
 refine wpAnyH_take (i:=7) (v:=undef) (by simp only [sqg];rfl) (by kernel_rfl) (by kernel_rfl) (by kernel_rfl) (fun _ _ _ h=>by exact h) (Or.inr ⟨by rfl,rfl⟩) (by assumption) ?_
 try simp only [Act.put,sqp]
 refine wpAnyH_take (i:=8) (v:=undef) (by simp only [sqg];rfl) (by kernel_rfl) (by kernel_rfl) (by kernel_rfl) (fun _ _ _ h=>by exact h) (Or.inr ⟨by rfl,rfl⟩) (by assumption) ?_
 try simp only [Act.put,sqp]
 refine sqt 9 ?_
 refine sqt 10 ?_
 refine wpAnyH_done (by kernel_rfl) ?_ _
 go_wp2
 go_ret
 exact ⟨⟨t,m,u,ro,so,g⟩,rb,p,L,rfl,⟨(ac.out.drewN 1),H.out.rope.apart H.out.blk rfl (ad.out.drewN 1),(a6.out.later (Below.refl _ _).drew).wide (fun i hi=>.inl (by simp only [List.mem_cons] at hi ⊢;rcases hi with h|h <;> simp [h])),H.out.ml,H.out.mc,H.out.inv,fun i hi=>Nat.lt_of_lt_of_le (H.out.tlt i hi) ((ad.out.drewN 1)).size⟩,rfl,(ad.out.drewN 1)⟩
set_option maxHeartbeats 1600000 in
theorem oW {m:KPc} {u ro:SPc} {g:EPc} (h:IsEd T w b ⟨t,m,u,ro,so,g⟩ rb p L) (k i n:Int) (x:ByteArray) (hx:x.size≤maxLen) (h1:markB x.data.toList=true) (h2:(t.size:Int)<i):Calls prog 120 #[.pointer (some ⟨b,0,none⟩),(.agg #[.int .i64 k,.int .i64 i,.int .i64 n,.string x])] w (RetEd T w b ((Sta.d ⟨t,m,u,ro,so,g⟩),3)):=by
 have hbl:b<w.heap.size:=h.lt
 obtain ⟨wX,hwX,kE,ab,hz⟩:=box1 w #[.int .i64 k,.int .i64 i,.int .i64 n,.string x] 50
 have ad:=hid (show Blk wX b #[.bool true,.pointer (some ⟨rb,0,none⟩),.string ⟨#[]⟩,.slice m.a m.l.length m.c,.slice u.a u.l.length u.c,.slice ro.a ro.l.length ro.c,.bool so,.slice g.a g.l.length g.c] 100 from h.blk.onto ab)
 have ac:=hid (kE)
 have a8:=hid ((h.rows.wide (S':=b::w.heap.size::T) (wide2 (Nat.le_refl _))).later ab)
 have a9:=hid ((Apart.of_below ab:Apart [b] w wX))
 have ba:=hid (Nat.le_refl wX.heap.size)
 have ae:∀ W:World,wX.heap.size≤W.heap.size→∀ i∈b::w.heap.size::T,i<W.heap.size:=fun W hWz i hi=>by simp only [List.mem_cons] at hi;rcases hi with rfl|rfl|hi;all_goals first|omega|(have:=h.tlt i hi;omega)
 have bd:=hid ae;have H:=hid h;have HB:=hid ab
 clear ae kE
 obtain ⟨ag,ah,ai,aj,ak,al,am,an,ao,aq,ar,au,av,aw,ax,ay⟩:=ad.out.all8
 obtain ⟨az,a0,a1,a2,a3,a4,a5,a6⟩:=ac.out.all4
 have c1:=bB x hx
 rw [h1] at c1
 have C1:=hid c1
 clear c1 h1
 have hnw:=fun W (hW:Below wX.heap.size wX W)=>nN (Nw.some (ad.out.onto hW)) ((h.rope.later ab).later hW)
 have CL:=hid hnw
 clear hnw
 have hfs:∀ W,Below wX.heap.size wX W→(W.cell? ⟨b,1,none⟩=some (.pointer (some ⟨rb,0,none⟩))∧W.cell? ⟨b,3,none⟩=some (.slice m.a m.l.length m.c))∧W.cell? ⟨w.heap.size,0,none⟩=some (.int .i64 k)∧W.cell? ⟨w.heap.size,1,none⟩=some (.int .i64 i)∧W.cell? ⟨w.heap.size,2,none⟩=some (.int .i64 n)∧W.cell? ⟨w.heap.size,3,none⟩=some (.string x):=fun W h=>⟨⟨(ad.out.onto h).cell 1 _ rfl,(ad.out.onto h).cell 3 _ rfl⟩,(ac.out.onto h).cell 0 _ rfl,(ac.out.onto h).cell 1 _ rfl,(ac.out.onto h).cell 2 _ rfl,(ac.out.onto h).cell 3 _ rfl⟩
 have FS:=hid hfs
 clear hfs
 have g2:¬ i<0:=by omega
 have d2:decide (i<0)=false:=decide_eq_false g2
 clear h ab hz
 go_enter func120,ntmps120
 go_wp2_with fail
 refine (C1.out _).mono ?_;rintro e w1 ⟨rfl,rfl⟩
 clear hwX
 go_wp2_with fail
 clear ag ah ai aj ak al am an ao aq ar au av aw ax ay az a0 a1 a2 a3 a4 a5 a6
 refine wp_region_held_drew (S:=(fun W:World=>(W.cell? ⟨b,1,none⟩=some (.pointer (some ⟨rb,0,none⟩))∧W.cell? ⟨b,3,none⟩=some (.slice m.a m.l.length m.c))∧W.cell? ⟨w.heap.size,0,none⟩=some (.int .i64 k)∧W.cell? ⟨w.heap.size,1,none⟩=some (.int .i64 i)∧W.cell? ⟨w.heap.size,2,none⟩=some (.int .i64 n)∧W.cell? ⟨w.heap.size,3,none⟩=some (.string x))) (by kernel_rfl) (FS.out _ (Below.refl _ _).drew) (fun hHeld=>?_)
 refine sqt 0 ?_
 refine sqt 1 ?_
 refine sqt 2 ?_
 refine sqt 3 ?_
 refine sqt 4 ?_
 refine sqt 5 ?_
 refine sqt 6 ?_
 refine sqr 7 fun K hK=>?_
 go_simp
 (go_at_call 149;refine (CL.out _ (Below.refl _ _).drew).mono ?_;rintro e w1 ⟨rfl,a7⟩;have aa:Below wX.heap.size wX w1:=(Below.refl _ _).drew.trans a7)
 try go_wp2_with fail
 refine hK.out _ _ ?_ (fun hHeld=>?_)
 ·exact FS.out _ aa
 clear hK K
 try simp only [Act.put,sqp]
 refine sqt 8 ?_
 refine sqt 9 ?_
 refine sqt 10 ?_
 refine wpAnyH_done (by kernel_rfl) ?_ _
 have bb:=hid (ad.out.onto aa)
 have be:=hid (ac.out.onto aa)
 have bc:=hid (a8.out.later aa)
 have af:=hid (a9.out.trans (S':=[]) (.of_below aa) (by simp))
 have bf:=hid (Nat.le_trans ba.out aa.size)
 have bg:=hid aa
 clear a7 CL aa
 go_wp2
 go_ret
 exact ⟨⟨t,m,u,ro,so,g⟩,rb,p,L,rfl,⟨bb.out,H.out.rope.apart H.out.blk rfl af.out,bc.out.wide (fun i hi=>.inl (by simp only [List.mem_cons] at hi ⊢;rcases hi with h|h <;> simp [h])),H.out.ml,H.out.mc,H.out.inv,fun i hi=>Nat.lt_of_lt_of_le (H.out.tlt i hi) (af.out).size⟩,rfl,af.out⟩
set_option maxHeartbeats 1600000 in
theorem sE {m:KPc} {u ro:SPc} {g:EPc} (h:IsEd T w b ⟨t,m,u,ro,so,g⟩ rb p L) (k i n:Int) (x:ByteArray) (hx:x.size≤maxLen) (h1:markB x.data.toList=true) (h2:0≤i∧i≤t.size) (h4:edgeB t.data.toList i=false):Calls prog 120 #[.pointer (some ⟨b,0,none⟩),(.agg #[.int .i64 k,.int .i64 i,.int .i64 n,.string x])] w (RetEd T w b ((Sta.d ⟨t,m,u,ro,so,g⟩),4)):=by
 have hbl:b<w.heap.size:=h.lt
 obtain ⟨wX,hwX,kE,ac,hz⟩:=box1 w #[.int .i64 k,.int .i64 i,.int .i64 n,.string x] 50
 have ae:=hid (show Blk wX b #[.bool true,.pointer (some ⟨rb,0,none⟩),.string ⟨#[]⟩,.slice m.a m.l.length m.c,.slice u.a u.l.length u.c,.slice ro.a ro.l.length ro.c,.bool so,.slice g.a g.l.length g.c] 100 from h.blk.onto ac)
 have ad:=hid (kE)
 have b6:=hid ((h.rows.wide (S':=b::w.heap.size::T) (wide2 (Nat.le_refl _))).later ac)
 have b7:=hid ((Apart.of_below ac:Apart [b] w wX))
 have b8:=hid (Nat.le_refl wX.heap.size)
 have ag:∀ W:World,wX.heap.size≤W.heap.size→∀ i∈b::w.heap.size::T,i<W.heap.size:=fun W hWz i hi=>by simp only [List.mem_cons] at hi;rcases hi with rfl|rfl|hi;all_goals first|omega|(have:=h.tlt i hi;omega)
 have cf:=hid ag;have H:=hid h;have HB:=hid ac
 clear ag kE
 obtain ⟨ai,aj,ak,al,am,an,ao,aq,ar,au,av,aw,ax,ay,az,a0⟩:=ae.out.all8
 obtain ⟨a1,a2,a3,a4,a5,a6,a7,a8⟩:=ad.out.all4
 have c1:=bB x hx
 rw [h1] at c1
 have C1:=hid c1
 clear c1 h1
 have hnw:=fun W (hW:Below wX.heap.size wX W)=>nN (Nw.some (ae.out.onto hW)) ((h.rope.later ac).later hW)
 have CL:=hid hnw
 clear hnw
 have hfs:∀ W,Below wX.heap.size wX W→(W.cell? ⟨b,1,none⟩=some (.pointer (some ⟨rb,0,none⟩))∧W.cell? ⟨b,3,none⟩=some (.slice m.a m.l.length m.c))∧W.cell? ⟨w.heap.size,0,none⟩=some (.int .i64 k)∧W.cell? ⟨w.heap.size,1,none⟩=some (.int .i64 i)∧W.cell? ⟨w.heap.size,2,none⟩=some (.int .i64 n)∧W.cell? ⟨w.heap.size,3,none⟩=some (.string x):=fun W h=>⟨⟨(ae.out.onto h).cell 1 _ rfl,(ae.out.onto h).cell 3 _ rfl⟩,(ad.out.onto h).cell 0 _ rfl,(ad.out.onto h).cell 1 _ rfl,(ad.out.onto h).cell 2 _ rfl,(ad.out.onto h).cell 3 _ rfl⟩
 have FS:=hid hfs
 clear hfs
 have he:=fun W (hW:Below wX.heap.size wX W)=>fS (q:=i) ((h.rope.later ac).later hW) (by unfold i64P;have:=h.inv.z;replace this:t.size≤4096:=this;omega)
 rw [h4] at he
 have CE:=hid he
 clear he h4
 have g2:¬ i<0:=by omega
 have d2:decide (i<0)=false:=decide_eq_false g2
 have g3:¬ (t.size:Int)<i:=by omega
 clear h ac hz
 go_enter func120,ntmps120
 go_wp2_with fail
 refine (C1.out _).mono ?_;rintro e w1 ⟨rfl,rfl⟩
 clear hwX
 go_wp2_with fail
 clear ai aj ak al am an ao aq ar au av aw ax ay az a0 a1 a2 a3 a4 a5 a6 a7 a8
 refine wp_region_held_drew (S:=(fun W:World=>(W.cell? ⟨b,1,none⟩=some (.pointer (some ⟨rb,0,none⟩))∧W.cell? ⟨b,3,none⟩=some (.slice m.a m.l.length m.c))∧W.cell? ⟨w.heap.size,0,none⟩=some (.int .i64 k)∧W.cell? ⟨w.heap.size,1,none⟩=some (.int .i64 i)∧W.cell? ⟨w.heap.size,2,none⟩=some (.int .i64 n)∧W.cell? ⟨w.heap.size,3,none⟩=some (.string x))) (by kernel_rfl) (FS.out _ (Below.refl _ _).drew) (fun hHeld=>?_)
 refine sqt 0 ?_
 refine sqt 1 ?_
 refine sqt 2 ?_
 refine sqt 3 ?_
 refine sqt 4 ?_
 refine sqt 5 ?_
 refine sqt 6 ?_
 refine sqr 7 fun K hK=>?_
 go_simp
 (go_at_call 149;refine (CL.out _ (Below.refl _ _).drew).mono ?_;rintro e w1 ⟨rfl,bz⟩;have aa:Below wX.heap.size wX w1:=(Below.refl _ _).drew.trans bz)
 try go_wp2_with fail
 refine hK.out _ _ ?_ (fun hHeld=>?_)
 ·exact FS.out _ aa
 clear hK K
 try simp only [Act.put,sqp]
 refine sqt 8 ?_
 refine sqt 9 ?_
 refine sqt 10 ?_
 refine wpAnyH_done (by kernel_rfl) ?_ _
 have b3:=hid (ae.out.onto aa)
 have b4:=hid (ad.out.onto aa)
 have b9:=hid (b6.out.later aa)
 have ca:=hid (b7.out.trans (S':=[]) (.of_below aa) (by simp))
 have cb:=hid (Nat.le_trans b8.out aa.size)
 have af:=hid aa
 clear bz CL aa
 obtain ⟨a9,ba,bb,bc,bd,be,bf,bg,bh,bi,bj,bk,bl,bm,bn,bo⟩:=b3.out.all8
 obtain ⟨bp,bq,br,bs,bu,bv,bw,bx⟩:=b4.out.all4
 go_wp2_with fail
 clear a9 ba bb bc bd be bf bg bh bi bj bk bl bm bn bo bp bq br bs bu bv bw bx
 refine wp_region_held_drew (S:=(fun W:World=>(W.cell? ⟨b,1,none⟩=some (.pointer (some ⟨rb,0,none⟩))∧W.cell? ⟨b,3,none⟩=some (.slice m.a m.l.length m.c))∧W.cell? ⟨w.heap.size,0,none⟩=some (.int .i64 k)∧W.cell? ⟨w.heap.size,1,none⟩=some (.int .i64 i)∧W.cell? ⟨w.heap.size,2,none⟩=some (.int .i64 n)∧W.cell? ⟨w.heap.size,3,none⟩=some (.string x))) (by kernel_rfl) (FS.out _ (af.out.drew)) (fun hHeld=>?_)
 refine sqt 0 ?_
 refine sqt 1 ?_
 refine sqt 2 ?_
 refine sqt 3 ?_
 refine sqt 4 ?_
 refine sqt 5 ?_
 refine sqr 6 fun K hK=>?_
 go_simp
 (go_at_call 113;refine (CE.out _ af.out.drew).mono ?_;rintro e w2 ⟨rfl,b5⟩;have ab:Below w1.heap.size w1 w2:=(Below.refl _ _).drew.trans b5;have cc:=hid (af.out.trans (ab.mono af.out.size)))
 try go_wp2_with fail
 refine hK.out _ _ ?_ (fun hHeld=>?_)
 ·exact FS.out _ cc.out
 clear hK K
 try simp only [Act.put,sqp]
 refine sqt 7 ?_
 refine sqt 8 ?_
 refine wpAnyH_done (by kernel_rfl) ?_ _
 have cd:=hid (b3.out.onto ab)
 have cg:=hid (b4.out.onto ab)
 have ce:=hid (b9.out.later ab)
 have ah:=hid (ca.out.trans (S':=[]) (.of_below ab) (by simp))
 have ch:=hid (Nat.le_trans cb.out ab.size)
 clear b5 CE ab
 go_wp2
 go_ret
 exact ⟨⟨t,m,u,ro,so,g⟩,rb,p,L,rfl,⟨cd.out,H.out.rope.apart H.out.blk rfl ah.out,ce.out.wide (fun i hi=>.inl (by simp only [List.mem_cons] at hi ⊢;rcases hi with h|h <;> simp [h])),H.out.ml,H.out.mc,H.out.inv,fun i hi=>Nat.lt_of_lt_of_le (H.out.tlt i hi) (ah.out).size⟩,rfl,ah.out⟩
set_option maxHeartbeats 3200000 in
theorem vZ {m:KPc} {u ro:SPc} {g:EPc} (h:IsEd T w b ⟨t,m,u,ro,so,g⟩ rb p L) (k i n:Int) (x:ByteArray) (hx:x.size≤maxLen) (h1:markB x.data.toList=true) (h2:0≤i∧i≤t.size) (h4:edgeB t.data.toList i=true) (h5:(setM m.l ⟨x,i⟩).2≠0):Calls prog 120 #[.pointer (some ⟨b,0,none⟩),(.agg #[.int .i64 k,.int .i64 i,.int .i64 n,.string x])] w (RetEd T w b ((Sta.d ⟨t,m,u,ro,so,g⟩),(setM m.l ⟨x,i⟩).2)):=by
 have hbl:b<w.heap.size:=h.lt
 have h4':=h4
 obtain ⟨wX,hwX,kE,ad,hz⟩:=box1 w #[.int .i64 k,.int .i64 i,.int .i64 n,.string x] 50
 have ag:=hid (show Blk wX b #[.bool true,.pointer (some ⟨rb,0,none⟩),.string ⟨#[]⟩,.slice m.a m.l.length m.c,.slice u.a u.l.length u.c,.slice ro.a ro.l.length ro.c,.bool so,.slice g.a g.l.length g.c] 100 from h.blk.onto ad)
 have ae:=hid (kE)
 have c6:=hid ((h.rows.wide (S':=b::w.heap.size::T) (wide2 (Nat.le_refl _))).later ad)
 have c7:=hid ((Apart.of_below ad:Apart [b] w wX))
 have c8:=hid (Nat.le_refl wX.heap.size)
 have ak:∀ W:World,wX.heap.size≤W.heap.size→∀ i∈b::w.heap.size::T,i<W.heap.size:=fun W hWz i hi=>by simp only [List.mem_cons] at hi;rcases hi with rfl|rfl|hi;all_goals first|omega|(have:=h.tlt i hi;omega)
 have c9:=hid ak;have H:=hid h;have HB:=hid ad
 clear ak kE
 obtain ⟨am,an,ao,aq,ar,au,av,aw,ax,ay,az,a0,a1,a2,a4,a5⟩:=ag.out.all8
 obtain ⟨a6,a7,a8,a9,ba,bb,bc,bd⟩:=ae.out.all4
 have c1:=bB x hx
 rw [h1] at c1
 have C1:=hid c1
 clear c1 h1
 have hnw:=fun W (hW:Below wX.heap.size wX W)=>nN (Nw.some (ag.out.onto hW)) ((h.rope.later ad).later hW)
 have CL:=hid hnw
 clear hnw
 have hfs:∀ W,Below wX.heap.size wX W→(W.cell? ⟨b,1,none⟩=some (.pointer (some ⟨rb,0,none⟩))∧W.cell? ⟨b,3,none⟩=some (.slice m.a m.l.length m.c))∧W.cell? ⟨w.heap.size,0,none⟩=some (.int .i64 k)∧W.cell? ⟨w.heap.size,1,none⟩=some (.int .i64 i)∧W.cell? ⟨w.heap.size,2,none⟩=some (.int .i64 n)∧W.cell? ⟨w.heap.size,3,none⟩=some (.string x):=fun W h=>⟨⟨(ag.out.onto h).cell 1 _ rfl,(ag.out.onto h).cell 3 _ rfl⟩,(ae.out.onto h).cell 0 _ rfl,(ae.out.onto h).cell 1 _ rfl,(ae.out.onto h).cell 2 _ rfl,(ae.out.onto h).cell 3 _ rfl⟩
 have FS:=hid hfs
 clear hfs
 have he:=fun W (hW:Below wX.heap.size wX W)=>fS (q:=i) ((h.rope.later ad).later hW) (by unfold i64P;have:=h.inv.z;replace this:t.size≤4096:=this;omega)
 rw [h4] at he
 have CE:=hid he
 clear he h4
 have cs:=fun W (hW:Below wX.heap.size wX W)=>qV m.a m.l m.c ⟨x,i⟩ W (KPo.pcs ((h.rows.m.later ad).later hW)) h.ml h.mc (Nat.le_trans h.inv.ml (by decide)) hx ((aW _ _).1 h.inv.m).2.2
 skip
 obtain ⟨q,hq⟩:∃ q,setM m.l ⟨x,i⟩=q:=⟨_,rfl⟩
 rw [hq] at cs h5 ⊢
 obtain ⟨ql,qe⟩:=q
 have CS:=hid cs
 have h5':qe≠0:=h5
 have g2:¬ i<0:=by omega
 have d2:decide (i<0)=false:=decide_eq_false g2
 have g3:¬ (t.size:Int)<i:=by omega
 clear h ad hz cs hq h5
 go_enter func120,ntmps120
 go_wp2_with fail
 refine (C1.out _).mono ?_;rintro e w1 ⟨rfl,rfl⟩
 clear hwX
 go_wp2_with fail
 clear am an ao aq ar au av aw ax ay az a0 a1 a2 a4 a5 a6 a7 a8 a9 ba bb bc bd
 refine wp_region_held_drew (S:=(fun W:World=>(W.cell? ⟨b,1,none⟩=some (.pointer (some ⟨rb,0,none⟩))∧W.cell? ⟨b,3,none⟩=some (.slice m.a m.l.length m.c))∧W.cell? ⟨w.heap.size,0,none⟩=some (.int .i64 k)∧W.cell? ⟨w.heap.size,1,none⟩=some (.int .i64 i)∧W.cell? ⟨w.heap.size,2,none⟩=some (.int .i64 n)∧W.cell? ⟨w.heap.size,3,none⟩=some (.string x))) (by kernel_rfl) (FS.out _ (Below.refl _ _).drew) (fun hHeld=>?_)
 refine sqt 0 ?_
 refine sqt 1 ?_
 refine sqt 2 ?_
 refine sqt 3 ?_
 refine sqt 4 ?_
 refine sqt 5 ?_
 refine sqt 6 ?_
 refine sqr 7 fun K hK=>?_
 go_simp
 (go_at_call 149;refine (CL.out _ (Below.refl _ _).drew).mono ?_;rintro e w1 ⟨rfl,cv⟩;have aa:Below wX.heap.size wX w1:=(Below.refl _ _).drew.trans cv)
 try go_wp2_with fail
 refine hK.out _ _ ?_ (fun hHeld=>?_)
 ·exact FS.out _ aa
 clear hK K
 try simp only [Act.put,sqp]
 refine sqt 8 ?_
 refine sqt 9 ?_
 refine sqt 10 ?_
 refine wpAnyH_done (by kernel_rfl) ?_ _
 have cw:=hid (ag.out.onto aa)
 have cx:=hid (ae.out.onto aa)
 have da:=hid (c6.out.later aa)
 have db:=hid (c7.out.trans (S':=[]) (.of_below aa) (by simp))
 have dc:=hid (Nat.le_trans c8.out aa.size)
 have ah:=hid aa
 clear cv CL aa
 obtain ⟨be,bf,bg,bh,bi,bj,bk,bl,bm,bn,bo,bp,bq,br,bs,bu⟩:=cw.out.all8
 obtain ⟨bv,bw,bx,bz,b3,b4,b5,b6⟩:=cx.out.all4
 go_wp2_with fail
 clear be bf bg bh bi bj bk bl bm bn bo bp bq br bs bu bv bw bx bz b3 b4 b5 b6
 refine wp_region_held_drew (S:=(fun W:World=>(W.cell? ⟨b,1,none⟩=some (.pointer (some ⟨rb,0,none⟩))∧W.cell? ⟨b,3,none⟩=some (.slice m.a m.l.length m.c))∧W.cell? ⟨w.heap.size,0,none⟩=some (.int .i64 k)∧W.cell? ⟨w.heap.size,1,none⟩=some (.int .i64 i)∧W.cell? ⟨w.heap.size,2,none⟩=some (.int .i64 n)∧W.cell? ⟨w.heap.size,3,none⟩=some (.string x))) (by kernel_rfl) (FS.out _ (ah.out.drew)) (fun hHeld=>?_)
 refine sqt 0 ?_
 refine sqt 1 ?_
 refine sqt 2 ?_
 refine sqt 3 ?_
 refine sqt 4 ?_
 refine sqt 5 ?_
 refine sqr 6 fun K hK=>?_
 go_simp
 (go_at_call 113;refine (CE.out _ ah.out.drew).mono ?_;rintro e w2 ⟨rfl,cy⟩;have ab:Below w1.heap.size w1 w2:=(Below.refl _ _).drew.trans cy;have af:=hid (ah.out.trans (ab.mono ah.out.size)))
 try go_wp2_with fail
 refine hK.out _ _ ?_ (fun hHeld=>?_)
 ·exact FS.out _ af.out
 clear hK K
 try simp only [Act.put,sqp]
 refine sqt 7 ?_
 refine sqt 8 ?_
 refine wpAnyH_done (by kernel_rfl) ?_ _
 have cz:=hid (cw.out.onto ab)
 have c4:=hid (cx.out.onto ab)
 have dd:=hid (da.out.later ab)
 have de:=hid (db.out.trans (S':=[]) (.of_below ab) (by simp))
 have df:=hid (Nat.le_trans dc.out ab.size)
 clear cy CE ab
 obtain ⟨b7,b8,b9,ai,ca,cb,cc,cd,ce,cf,cg,ch,ci,cj,ck,cl⟩:=cz.out.all8
 obtain ⟨cm,cn,co,cp,cq,cr,ct,cu⟩:=c4.out.all4
 have q3:w2.drew.cell? ⟨b,3,none⟩=some (.slice m.a m.l.length m.c):=ai
 go_wp2_with fail
 clear b7 b8 b9 ai ca cb cc cd ce cf cg ch ci cj ck cl cm cn co cp cq cr ct cu
 refine wp_region_held_drew (S:=(fun W:World=>W.cell? ⟨w.heap.size,0,none⟩=some (.int .i64 k)∧W.cell? ⟨w.heap.size,1,none⟩=some (.int .i64 i)∧W.cell? ⟨w.heap.size,2,none⟩=some (.int .i64 n)∧W.cell? ⟨w.heap.size,3,none⟩=some (.string x))) (by kernel_rfl) (FS.out _ af.out.drew).2 (fun hHeld=>?_)
 refine sqt 0 ?_
 refine sqt 1 ?_
 refine sqt 2 ?_
 refine sqt 3 ?_
 refine sqt 4 ?_
 refine sqt 6 ?_
 refine sqt 7 ?_
 refine sqt 8 ?_
 refine sqt 9 ?_
 refine sqt 10 ?_
 refine sqr 5 fun K hK=>?_
 go_simp
 skip
 try go_wp2_with fail
 refine hK.out _ _ ?_ (fun hHeld=>?_)
 ·exact hHeld
 clear hK K
 try simp only [Act.put,sqp]
 refine sqr 11 fun K hK=>?_
 go_simp
 (go_at_call 151;refine (CS.out _ af.out.drew).mono ?_;rintro e w3 ⟨a3,c3,rfl,aj,c5⟩;have ac:Below w2.heap.size w2 w3:=(Below.refl _ _).drew.trans c5;have dg:=hid (af.out.trans (ac.mono af.out.size)))
 try go_wp2_with fail
 refine hK.out _ _ ?_ (fun hHeld=>?_)
 ·exact (FS.out _ dg.out).2
 clear hK K
 try simp only [Act.put,sqp]
 clear q3
 refine sqt 12 ?_
 refine sqt 13 ?_
 have dh:=hid (cz.out.onto ac)
 have dj:=hid (c4.out.onto ac)
 have di:=hid (dd.out.later ac)
 have al:=hid (de.out.trans (S':=[]) (.of_below ac) (by simp))
 have dk:=hid (Nat.le_trans df.out ac.size)
 have dl:=hid (aj.off (S:=b::w.heap.size::T) (c9.out _ af.out.size))
 have dm:=hid (And.intro aj.le aj.cap)
 clear aj c5 ac CS
 refine sqr 14 fun K hK=>?_
 go_simp
 (go_at_call 150;refine (oE _ _ _ _ h5').mono ?_;rintro e w4 ⟨rfl,rfl⟩)
 try go_wp2_with fail
 refine hK.out _ _ ?_ (fun hHeld=>?_)
 ·exact hHeld
 clear hK K
 try simp only [Act.put,sqp]
 refine sqt 15 ?_
 refine wpAnyH_done (by kernel_rfl) ?_ _
 go_wp2
 go_ret
 exact ⟨⟨t,m,u,ro,so,g⟩,rb,p,L,rfl,⟨dh.out,H.out.rope.apart H.out.blk rfl al.out,di.out.wide (fun i hi=>.inl (by simp only [List.mem_cons] at hi ⊢;rcases hi with h|h <;> simp [h])),H.out.ml,H.out.mc,H.out.inv,fun i hi=>Nat.lt_of_lt_of_le (H.out.tlt i hi) (al.out).size⟩,rfl,al.out⟩
set_option maxHeartbeats 3200000 in
theorem vV {m:KPc} {u ro:SPc} {g:EPc} (h:IsEd T w b ⟨t,m,u,ro,so,g⟩ rb p L) (k i n:Int) (x:ByteArray) (hx:x.size≤maxLen) (h1:markB x.data.toList=true) (h2:0≤i∧i≤t.size) (h4:edgeB t.data.toList i=true) (h5:(setM m.l ⟨x,i⟩).2=0):Calls prog 120 #[.pointer (some ⟨b,0,none⟩),(.agg #[.int .i64 k,.int .i64 i,.int .i64 n,.string x])] w (RetEd T w b (⟨t,(setM m.l ⟨x,i⟩).1,lsP u.l,lsP ro.l,so,g.l⟩,0)):=by
 have hbl:b<w.heap.size:=h.lt
 have h4':=h4
 obtain ⟨wX,hwX,kE,ad,hz⟩:=box1 w #[.int .i64 k,.int .i64 i,.int .i64 n,.string x] 50
 have ah:=hid (show Blk wX b #[.bool true,.pointer (some ⟨rb,0,none⟩),.string ⟨#[]⟩,.slice m.a m.l.length m.c,.slice u.a u.l.length u.c,.slice ro.a ro.l.length ro.c,.bool so,.slice g.a g.l.length g.c] 100 from h.blk.onto ad)
 have af:=hid (kE)
 have db:=hid ((h.rows.wide (S':=b::w.heap.size::T) (wide2 (Nat.le_refl _))).later ad)
 have dc:=hid ((Apart.of_below ad:Apart [b] w wX))
 have dd:=hid (Nat.le_refl wX.heap.size)
 have al:∀ W:World,wX.heap.size≤W.heap.size→∀ i∈b::w.heap.size::T,i<W.heap.size:=fun W hWz i hi=>by simp only [List.mem_cons] at hi;rcases hi with rfl|rfl|hi;all_goals first|omega|(have:=h.tlt i hi;omega)
 have de:=hid al;have H:=hid h;have HB:=hid ad
 clear al kE
 obtain ⟨ao,aq,ar,au,av,aw,ax,ay,az,a0,a1,a2,a4,a5,a6,a7⟩:=ah.out.all8
 obtain ⟨a8,a9,ba,bb,bc,bd,be,bf⟩:=af.out.all4
 have c1:=bB x hx
 rw [h1] at c1
 have C1:=hid c1
 clear c1 h1
 have hnw:=fun W (hW:Below wX.heap.size wX W)=>nN (Nw.some (ah.out.onto hW)) ((h.rope.later ad).later hW)
 have CL:=hid hnw
 clear hnw
 have hfs:∀ W,Below wX.heap.size wX W→(W.cell? ⟨b,1,none⟩=some (.pointer (some ⟨rb,0,none⟩))∧W.cell? ⟨b,3,none⟩=some (.slice m.a m.l.length m.c))∧W.cell? ⟨w.heap.size,0,none⟩=some (.int .i64 k)∧W.cell? ⟨w.heap.size,1,none⟩=some (.int .i64 i)∧W.cell? ⟨w.heap.size,2,none⟩=some (.int .i64 n)∧W.cell? ⟨w.heap.size,3,none⟩=some (.string x):=fun W h=>⟨⟨(ah.out.onto h).cell 1 _ rfl,(ah.out.onto h).cell 3 _ rfl⟩,(af.out.onto h).cell 0 _ rfl,(af.out.onto h).cell 1 _ rfl,(af.out.onto h).cell 2 _ rfl,(af.out.onto h).cell 3 _ rfl⟩
 have FS:=hid hfs
 clear hfs
 have he:=fun W (hW:Below wX.heap.size wX W)=>fS (q:=i) ((h.rope.later ad).later hW) (by unfold i64P;have:=h.inv.z;replace this:t.size≤4096:=this;omega)
 rw [h4] at he
 have CE:=hid he
 clear he h4
 have cs:=fun W (hW:Below wX.heap.size wX W)=>qV m.a m.l m.c ⟨x,i⟩ W (KPo.pcs ((h.rows.m.later ad).later hW)) h.ml h.mc (Nat.le_trans h.inv.ml (by decide)) hx ((aW _ _).1 h.inv.m).2.2
 have hri:=qI (x:=⟨x,i⟩) h.inv.m h4' h5
 have am:=hid hri
 clear hri
 obtain ⟨q,hq⟩:∃ q,setM m.l ⟨x,i⟩=q:=⟨_,rfl⟩
 rw [hq] at cs h5 ⊢
 obtain ⟨ql,qe⟩:=q
 have CS:=hid cs
 replace am:=hid (show rightM ql t=true by have e:=am.out;rw [show (setM (Sta.d ⟨t,m,u,ro,so,g⟩).m ⟨x,i⟩)=(ql,qe) from hq] at e;exact e)
 have h5':qe=0:=h5
 have g2:¬ i<0:=by omega
 have d2:decide (i<0)=false:=decide_eq_false g2
 have g3:¬ (t.size:Int)<i:=by omega
 clear h ad hz cs hq h5
 subst h5'
 go_enter func120,ntmps120
 go_wp2_with fail
 refine (C1.out _).mono ?_;rintro e w1 ⟨rfl,rfl⟩
 clear hwX
 go_wp2_with fail
 clear ao aq ar au av aw ax ay az a0 a1 a2 a4 a5 a6 a7 a8 a9 ba bb bc bd be bf
 refine wp_region_held_drew (S:=(fun W:World=>(W.cell? ⟨b,1,none⟩=some (.pointer (some ⟨rb,0,none⟩))∧W.cell? ⟨b,3,none⟩=some (.slice m.a m.l.length m.c))∧W.cell? ⟨w.heap.size,0,none⟩=some (.int .i64 k)∧W.cell? ⟨w.heap.size,1,none⟩=some (.int .i64 i)∧W.cell? ⟨w.heap.size,2,none⟩=some (.int .i64 n)∧W.cell? ⟨w.heap.size,3,none⟩=some (.string x))) (by kernel_rfl) (FS.out _ (Below.refl _ _).drew) (fun hHeld=>?_)
 refine sqt 0 ?_
 refine sqt 1 ?_
 refine sqt 2 ?_
 refine sqt 3 ?_
 refine sqt 4 ?_
 refine sqt 5 ?_
 refine sqt 6 ?_
 refine sqr 7 fun K hK=>?_
 go_simp
 (go_at_call 149;refine (CL.out _ (Below.refl _ _).drew).mono ?_;rintro e w1 ⟨rfl,cx⟩;have aa:Below wX.heap.size wX w1:=(Below.refl _ _).drew.trans cx)
 try go_wp2_with fail
 refine hK.out _ _ ?_ (fun hHeld=>?_)
 ·exact FS.out _ aa
 clear hK K
 try simp only [Act.put,sqp]
 refine sqt 8 ?_
 refine sqt 9 ?_
 refine sqt 10 ?_
 refine wpAnyH_done (by kernel_rfl) ?_ _
 have cy:=hid (ah.out.onto aa)
 have cz:=hid (af.out.onto aa)
 have df:=hid (db.out.later aa)
 have dg:=hid (dc.out.trans (S':=[]) (.of_below aa) (by simp))
 have dh:=hid (Nat.le_trans dd.out aa.size)
 have ai:=hid aa
 clear cx CL aa
 obtain ⟨bg,bh,bi,bj,bk,bl,bm,bn,bo,bp,bq,br,bs,bu,bv,bw⟩:=cy.out.all8
 obtain ⟨bx,bz,b3,b4,b5,b6,b7,b8⟩:=cz.out.all4
 go_wp2_with fail
 clear bg bh bi bj bk bl bm bn bo bp bq br bs bu bv bw bx bz b3 b4 b5 b6 b7 b8
 refine wp_region_held_drew (S:=(fun W:World=>(W.cell? ⟨b,1,none⟩=some (.pointer (some ⟨rb,0,none⟩))∧W.cell? ⟨b,3,none⟩=some (.slice m.a m.l.length m.c))∧W.cell? ⟨w.heap.size,0,none⟩=some (.int .i64 k)∧W.cell? ⟨w.heap.size,1,none⟩=some (.int .i64 i)∧W.cell? ⟨w.heap.size,2,none⟩=some (.int .i64 n)∧W.cell? ⟨w.heap.size,3,none⟩=some (.string x))) (by kernel_rfl) (FS.out _ (ai.out.drew)) (fun hHeld=>?_)
 refine sqt 0 ?_
 refine sqt 1 ?_
 refine sqt 2 ?_
 refine sqt 3 ?_
 refine sqt 4 ?_
 refine sqt 5 ?_
 refine sqr 6 fun K hK=>?_
 go_simp
 (go_at_call 113;refine (CE.out _ ai.out.drew).mono ?_;rintro e w2 ⟨rfl,c4⟩;have ab:Below w1.heap.size w1 w2:=(Below.refl _ _).drew.trans c4;have ag:=hid (ai.out.trans (ab.mono ai.out.size)))
 try go_wp2_with fail
 refine hK.out _ _ ?_ (fun hHeld=>?_)
 ·exact FS.out _ ag.out
 clear hK K
 try simp only [Act.put,sqp]
 refine sqt 7 ?_
 refine sqt 8 ?_
 refine wpAnyH_done (by kernel_rfl) ?_ _
 have c5:=hid (cy.out.onto ab)
 have c6:=hid (cz.out.onto ab)
 have di:=hid (df.out.later ab)
 have dj:=hid (dg.out.trans (S':=[]) (.of_below ab) (by simp))
 have dk:=hid (Nat.le_trans dh.out ab.size)
 clear c4 CE ab
 obtain ⟨b9,ca,cb,aj,cc,cd,ce,cf,cg,ch,ci,cj,ck,cl,cm,cn⟩:=c5.out.all8
 obtain ⟨co,cp,cq,cr,ct,cu,cv,cw⟩:=c6.out.all4
 have q3:w2.drew.cell? ⟨b,3,none⟩=some (.slice m.a m.l.length m.c):=aj
 go_wp2_with fail
 clear b9 ca cb aj cc cd ce cf cg ch ci cj ck cl cm cn co cp cq cr ct cu cv cw
 refine wp_region_held_drew (S:=(fun W:World=>W.cell? ⟨w.heap.size,0,none⟩=some (.int .i64 k)∧W.cell? ⟨w.heap.size,1,none⟩=some (.int .i64 i)∧W.cell? ⟨w.heap.size,2,none⟩=some (.int .i64 n)∧W.cell? ⟨w.heap.size,3,none⟩=some (.string x))) (by kernel_rfl) (FS.out _ ag.out.drew).2 (fun hHeld=>?_)
 refine sqt 0 ?_
 refine sqt 1 ?_
 refine sqt 2 ?_
 refine sqt 3 ?_
 refine sqt 4 ?_
 refine sqt 6 ?_
 refine sqt 7 ?_
 refine sqt 8 ?_
 refine sqt 9 ?_
 refine sqt 10 ?_
 refine sqr 5 fun K hK=>?_
 go_simp
 skip
 try go_wp2_with fail
 refine hK.out _ _ ?_ (fun hHeld=>?_)
 ·exact hHeld
 clear hK K
 try simp only [Act.put,sqp]
 refine sqr 11 fun K hK=>?_
 go_simp
 (go_at_call 151;refine (CS.out _ ag.out.drew).mono ?_;rintro e w3 ⟨a3,c3,rfl,ak,c7⟩;have ac:Below w2.heap.size w2 w3:=(Below.refl _ _).drew.trans c7;have dl:=hid (ag.out.trans (ac.mono ag.out.size)))
 try go_wp2_with fail
 refine hK.out _ _ ?_ (fun hHeld=>?_)
 ·exact (FS.out _ dl.out).2
 clear hK K
 try simp only [Act.put,sqp]
 clear q3
 refine sqt 12 ?_
 refine sqt 13 ?_
 have dm:=hid (c5.out.onto ac)
 have dn:=hid (c6.out.onto ac)
 have an:=hid (di.out.later ac)
 have dp:=hid (dj.out.trans (S':=[]) (.of_below ac) (by simp))
 have dr:=hid (Nat.le_trans dk.out ac.size)
 have dq:=hid (ak.off (S:=b::w.heap.size::T) (de.out _ ag.out.size))
 have c8:=hid (And.intro ak.le ak.cap)
 clear ak c7 ac CS
 refine sqr 14 fun K hK=>?_
 go_simp
 (go_at_call 150;refine (xZ (made:=true) (r:=some ⟨rb,0,none⟩) (t:=⟨#[]⟩) (m:=m) (u:=u) (ro:=ro) (o:=so) (g:=g) dm.out a3 ql.length c3).mono ?_;rintro e w4 ⟨rfl,c9,da⟩;have ae:=hid (And.intro c9 da);clear c9 da)
 try go_wp2_with fail
 refine hK.out _ _ ?_ (fun hHeld=>?_)
 ·exact (by have h:=dn.out.apart ae.out.2 (by simp only [List.mem_singleton];omega);exact ⟨h.cell 0 _ rfl,h.cell 1 _ rfl,h.cell 2 _ rfl,h.cell 3 _ rfl⟩)
 clear hK K
 try simp only [Act.put,sqp]
 refine sqt 15 ?_
 refine wpAnyH_done (by kernel_rfl) ?_ _
 have hba:=dp.out.trans ae.out.2 (fun x hx=>.inl hx)
 go_wp2
 go_ret
 exact ⟨⟨t,⟨a3,ql,c3⟩,u,ro,so,g⟩,rb,p,L,rfl,⟨ae.out.1,H.out.rope.apart H.out.blk rfl hba,⟨(dq.out.wide (fun i hi=>.inl (by simp only [List.mem_cons] at hi ⊢;rcases hi with h|h <;> simp [h]))).apart (ae.out.2.more (by simp)),(an.out.u.wide (fun i hi=>.inl (by simp only [List.mem_cons] at hi ⊢;rcases hi with h|h <;> simp [h]))).apart (ae.out.2.more (by simp)),(an.out.r.wide (fun i hi=>.inl (by simp only [List.mem_cons] at hi ⊢;rcases hi with h|h <;> simp [h]))).apart (ae.out.2.more (by simp)),(an.out.g.wide (fun i hi=>.inl (by simp only [List.mem_cons] at hi ⊢;rcases hi with h|h <;> simp [h]))).apart (ae.out.2.more (by simp))⟩,c8.out.1,c8.out.2,gK H.out.inv am.out,fun i hi=>Nat.lt_of_lt_of_le (H.out.tlt i hi) (hba).size⟩,rfl,hba⟩
set_option maxHeartbeats 3200000 in
theorem rT {m:KPc} {u ro:SPc} {g:EPc} (h:IsEd T w b ⟨t,m,u,ro,so,g⟩ rb p L) (k i n:Int) (x:ByteArray) (h5:(drpM m.l x).2≠0):Calls prog 121 #[.pointer (some ⟨b,0,none⟩),(.agg #[.int .i64 k,.int .i64 i,.int .i64 n,.string x])] w (RetEd T w b ((Sta.d ⟨t,m,u,ro,so,g⟩),(drpM m.l x).2)):=by
 have hbl:b<w.heap.size:=h.lt
 obtain ⟨wX,hwX,kE,ab,hz⟩:=box1 w #[.int .i64 k,.int .i64 i,.int .i64 n,.string x] 50
 have ad:=hid (show Blk wX b #[.bool true,.pointer (some ⟨rb,0,none⟩),.string ⟨#[]⟩,.slice m.a m.l.length m.c,.slice u.a u.l.length u.c,.slice ro.a ro.l.length ro.c,.bool so,.slice g.a g.l.length g.c] 100 from h.blk.onto ab)
 have ac:=hid (kE)
 have ba:=hid ((h.rows.wide (S':=b::w.heap.size::T) (wide2 (Nat.le_refl _))).later ab)
 have bb:=hid ((Apart.of_below ab:Apart [b] w wX))
 have bc:=hid (Nat.le_refl wX.heap.size)
 have ag:∀ W:World,wX.heap.size≤W.heap.size→∀ i∈b::w.heap.size::T,i<W.heap.size:=fun W hWz i hi=>by simp only [List.mem_cons] at hi;rcases hi with rfl|rfl|hi;all_goals first|omega|(have:=h.tlt i hi;omega)
 have bd:=hid ag;have H:=hid h;have HB:=hid ab
 clear ag kE
 obtain ⟨ai,aj,ak,ae,al,am,an,ao,aq,ar,au,av,aw,ax,ay,az⟩:=ad.out.all8
 obtain ⟨a0,a1,a2,a4,a5,a6,a7,a8⟩:=ac.out.all4
 have hfs:∀ W,Below wX.heap.size wX W→(W.cell? ⟨b,1,none⟩=some (.pointer (some ⟨rb,0,none⟩))∧W.cell? ⟨b,3,none⟩=some (.slice m.a m.l.length m.c))∧W.cell? ⟨w.heap.size,0,none⟩=some (.int .i64 k)∧W.cell? ⟨w.heap.size,1,none⟩=some (.int .i64 i)∧W.cell? ⟨w.heap.size,2,none⟩=some (.int .i64 n)∧W.cell? ⟨w.heap.size,3,none⟩=some (.string x):=fun W h=>⟨⟨(ad.out.onto h).cell 1 _ rfl,(ad.out.onto h).cell 3 _ rfl⟩,(ac.out.onto h).cell 0 _ rfl,(ac.out.onto h).cell 1 _ rfl,(ac.out.onto h).cell 2 _ rfl,(ac.out.onto h).cell 3 _ rfl⟩
 have FS:=hid hfs
 clear hfs
 have cs:=fun W (hW:Below wX.heap.size wX W)=>nY m.a m.l m.c x W (KPo.pcs ((h.rows.m.later ab).later hW)) h.ml h.mc (Nat.le_trans h.inv.ml (by decide)) ((aW _ _).1 h.inv.m).2.2
 skip
 obtain ⟨q,hq⟩:∃ q,drpM m.l x=q:=⟨_,rfl⟩
 rw [hq] at cs h5 ⊢
 obtain ⟨ql,qe⟩:=q
 have CS:=hid cs
 have h5':qe≠0:=h5
 clear h ab hz cs hq h5
 go_enter func121,ntmps121
 have q3:wX.drew.cell? ⟨b,3,none⟩=some (.slice m.a m.l.length m.c):=ae
 go_wp2_with fail
 clear ai aj ak ae al am an ao aq ar au av aw ax ay az a0 a1 a2 a4 a5 a6 a7 a8
 clear hwX
 refine wp_region_held_drew (S:=(fun W:World=>W.cell? ⟨w.heap.size,0,none⟩=some (.int .i64 k)∧W.cell? ⟨w.heap.size,1,none⟩=some (.int .i64 i)∧W.cell? ⟨w.heap.size,2,none⟩=some (.int .i64 n)∧W.cell? ⟨w.heap.size,3,none⟩=some (.string x))) (by kernel_rfl) (FS.out _ (Below.refl _ _).drew).2 (fun hHeld=>?_)
 refine sqt 0 ?_
 refine sqt 1 ?_
 refine sqt 2 ?_
 refine sqt 3 ?_
 refine sqt 4 ?_
 refine sqt 6 ?_
 refine sqt 7 ?_
 refine sqr 5 fun K hK=>?_
 go_simp
 skip
 try go_wp2_with fail
 refine hK.out _ _ ?_ (fun hHeld=>?_)
 ·exact hHeld
 clear hK K
 try simp only [Act.put,sqp]
 refine sqr 8 fun K hK=>?_
 go_simp
 (go_at_call 152;refine (CS.out _ (Below.refl _ _).drew).mono ?_;rintro e w3 ⟨a3,c3,rfl,af,a9⟩;have aa:Below wX.heap.size wX w3:=(Below.refl _ _).drew.trans a9)
 try go_wp2_with fail
 refine hK.out _ _ ?_ (fun hHeld=>?_)
 ·exact (FS.out _ aa).2
 clear hK K
 try simp only [Act.put,sqp]
 clear q3
 refine sqt 9 ?_
 refine sqt 10 ?_
 have be:=hid (ad.out.onto aa)
 have bg:=hid (ac.out.onto aa)
 have bf:=hid (ba.out.later aa)
 have ah:=hid (bb.out.trans (S':=[]) (.of_below aa) (by simp))
 have bh:=hid (Nat.le_trans bc.out aa.size)
 have bi:=hid (af.off (S:=b::w.heap.size::T) (bd.out _ (Nat.le_refl _)))
 have bj:=hid (And.intro af.le af.cap)
 clear af a9 aa CS
 refine sqr 11 fun K hK=>?_
 go_simp
 (go_at_call 150;refine (oE _ _ _ _ h5').mono ?_;rintro e w4 ⟨rfl,rfl⟩)
 try go_wp2_with fail
 refine hK.out _ _ ?_ (fun hHeld=>?_)
 ·exact hHeld
 clear hK K
 try simp only [Act.put,sqp]
 refine sqt 12 ?_
 refine wpAnyH_done (by kernel_rfl) ?_ _
 go_wp2
 go_ret
 exact ⟨⟨t,m,u,ro,so,g⟩,rb,p,L,rfl,⟨be.out,H.out.rope.apart H.out.blk rfl ah.out,bf.out.wide (fun i hi=>.inl (by simp only [List.mem_cons] at hi ⊢;rcases hi with h|h <;> simp [h])),H.out.ml,H.out.mc,H.out.inv,fun i hi=>Nat.lt_of_lt_of_le (H.out.tlt i hi) (ah.out).size⟩,rfl,ah.out⟩
set_option maxHeartbeats 3200000 in
theorem sD {m:KPc} {u ro:SPc} {g:EPc} (h:IsEd T w b ⟨t,m,u,ro,so,g⟩ rb p L) (k i n:Int) (x:ByteArray) (h5:(drpM m.l x).2=0):Calls prog 121 #[.pointer (some ⟨b,0,none⟩),(.agg #[.int .i64 k,.int .i64 i,.int .i64 n,.string x])] w (RetEd T w b (⟨t,(drpM m.l x).1,lsP u.l,lsP ro.l,so,g.l⟩,0)):=by
 have hbl:b<w.heap.size:=h.lt
 obtain ⟨wX,hwX,kE,ac,hz⟩:=box1 w #[.int .i64 k,.int .i64 i,.int .i64 n,.string x] 50
 have ae:=hid (show Blk wX b #[.bool true,.pointer (some ⟨rb,0,none⟩),.string ⟨#[]⟩,.slice m.a m.l.length m.c,.slice u.a u.l.length u.c,.slice ro.a ro.l.length ro.c,.bool so,.slice g.a g.l.length g.c] 100 from h.blk.onto ac)
 have ad:=hid (kE)
 have bf:=hid ((h.rows.wide (S':=b::w.heap.size::T) (wide2 (Nat.le_refl _))).later ac)
 have bg:=hid ((Apart.of_below ac:Apart [b] w wX))
 have bh:=hid (Nat.le_refl wX.heap.size)
 have ah:∀ W:World,wX.heap.size≤W.heap.size→∀ i∈b::w.heap.size::T,i<W.heap.size:=fun W hWz i hi=>by simp only [List.mem_cons] at hi;rcases hi with rfl|rfl|hi;all_goals first|omega|(have:=h.tlt i hi;omega)
 have bi:=hid ah;have H:=hid h;have HB:=hid ac
 clear ah kE
 obtain ⟨ak,al,am,af,an,ao,aq,ar,au,av,aw,ax,ay,az,a0,a1⟩:=ae.out.all8
 obtain ⟨a2,a4,a5,a6,a7,a8,a9,ba⟩:=ad.out.all4
 have hfs:∀ W,Below wX.heap.size wX W→(W.cell? ⟨b,1,none⟩=some (.pointer (some ⟨rb,0,none⟩))∧W.cell? ⟨b,3,none⟩=some (.slice m.a m.l.length m.c))∧W.cell? ⟨w.heap.size,0,none⟩=some (.int .i64 k)∧W.cell? ⟨w.heap.size,1,none⟩=some (.int .i64 i)∧W.cell? ⟨w.heap.size,2,none⟩=some (.int .i64 n)∧W.cell? ⟨w.heap.size,3,none⟩=some (.string x):=fun W h=>⟨⟨(ae.out.onto h).cell 1 _ rfl,(ae.out.onto h).cell 3 _ rfl⟩,(ad.out.onto h).cell 0 _ rfl,(ad.out.onto h).cell 1 _ rfl,(ad.out.onto h).cell 2 _ rfl,(ad.out.onto h).cell 3 _ rfl⟩
 have FS:=hid hfs
 clear hfs
 have cs:=fun W (hW:Below wX.heap.size wX W)=>nY m.a m.l m.c x W (KPo.pcs ((h.rows.m.later ac).later hW)) h.ml h.mc (Nat.le_trans h.inv.ml (by decide)) ((aW _ _).1 h.inv.m).2.2
 have hri:=pX h.inv.m x h5
 have ai:=hid hri
 clear hri
 obtain ⟨q,hq⟩:∃ q,drpM m.l x=q:=⟨_,rfl⟩
 rw [hq] at cs h5 ⊢
 obtain ⟨ql,qe⟩:=q
 have CS:=hid cs
 replace ai:=hid (show rightM ql t=true by have e:=ai.out;rw [show (drpM (Sta.d ⟨t,m,u,ro,so,g⟩).m x)=(ql,qe) from hq] at e;exact e)
 have h5':qe=0:=h5
 clear h ac hz cs hq h5
 subst h5'
 go_enter func121,ntmps121
 have q3:wX.drew.cell? ⟨b,3,none⟩=some (.slice m.a m.l.length m.c):=af
 go_wp2_with fail
 clear ak al am af an ao aq ar au av aw ax ay az a0 a1 a2 a4 a5 a6 a7 a8 a9 ba
 clear hwX
 refine wp_region_held_drew (S:=(fun W:World=>W.cell? ⟨w.heap.size,0,none⟩=some (.int .i64 k)∧W.cell? ⟨w.heap.size,1,none⟩=some (.int .i64 i)∧W.cell? ⟨w.heap.size,2,none⟩=some (.int .i64 n)∧W.cell? ⟨w.heap.size,3,none⟩=some (.string x))) (by kernel_rfl) (FS.out _ (Below.refl _ _).drew).2 (fun hHeld=>?_)
 refine sqt 0 ?_
 refine sqt 1 ?_
 refine sqt 2 ?_
 refine sqt 3 ?_
 refine sqt 4 ?_
 refine sqt 6 ?_
 refine sqt 7 ?_
 refine sqr 5 fun K hK=>?_
 go_simp
 skip
 try go_wp2_with fail
 refine hK.out _ _ ?_ (fun hHeld=>?_)
 ·exact hHeld
 clear hK K
 try simp only [Act.put,sqp]
 refine sqr 8 fun K hK=>?_
 go_simp
 (go_at_call 152;refine (CS.out _ (Below.refl _ _).drew).mono ?_;rintro e w3 ⟨a3,c3,rfl,ag,bb⟩;have aa:Below wX.heap.size wX w3:=(Below.refl _ _).drew.trans bb)
 try go_wp2_with fail
 refine hK.out _ _ ?_ (fun hHeld=>?_)
 ·exact (FS.out _ aa).2
 clear hK K
 try simp only [Act.put,sqp]
 clear q3
 refine sqt 9 ?_
 refine sqt 10 ?_
 have bj:=hid (ae.out.onto aa)
 have bk:=hid (ad.out.onto aa)
 have aj:=hid (bf.out.later aa)
 have bl:=hid (bg.out.trans (S':=[]) (.of_below aa) (by simp))
 have bn:=hid (Nat.le_trans bh.out aa.size)
 have bm:=hid (ag.off (S:=b::w.heap.size::T) (bi.out _ (Nat.le_refl _)))
 have bc:=hid (And.intro ag.le ag.cap)
 clear ag bb aa CS
 refine sqr 11 fun K hK=>?_
 go_simp
 (go_at_call 150;refine (xZ (made:=true) (r:=some ⟨rb,0,none⟩) (t:=⟨#[]⟩) (m:=m) (u:=u) (ro:=ro) (o:=so) (g:=g) bj.out a3 ql.length c3).mono ?_;rintro e w4 ⟨rfl,bd,be⟩;have ab:=hid (And.intro bd be);clear bd be)
 try go_wp2_with fail
 refine hK.out _ _ ?_ (fun hHeld=>?_)
 ·exact (by have h:=bk.out.apart ab.out.2 (by simp only [List.mem_singleton];omega);exact ⟨h.cell 0 _ rfl,h.cell 1 _ rfl,h.cell 2 _ rfl,h.cell 3 _ rfl⟩)
 clear hK K
 try simp only [Act.put,sqp]
 refine sqt 12 ?_
 refine wpAnyH_done (by kernel_rfl) ?_ _
 have hba:=bl.out.trans ab.out.2 (fun x hx=>.inl hx)
 go_wp2
 go_ret
 exact ⟨⟨t,⟨a3,ql,c3⟩,u,ro,so,g⟩,rb,p,L,rfl,⟨ab.out.1,H.out.rope.apart H.out.blk rfl hba,⟨(bm.out.wide (fun i hi=>.inl (by simp only [List.mem_cons] at hi ⊢;rcases hi with h|h <;> simp [h]))).apart (ab.out.2.more (by simp)),(aj.out.u.wide (fun i hi=>.inl (by simp only [List.mem_cons] at hi ⊢;rcases hi with h|h <;> simp [h]))).apart (ab.out.2.more (by simp)),(aj.out.r.wide (fun i hi=>.inl (by simp only [List.mem_cons] at hi ⊢;rcases hi with h|h <;> simp [h]))).apart (ab.out.2.more (by simp)),(aj.out.g.wide (fun i hi=>.inl (by simp only [List.mem_cons] at hi ⊢;rcases hi with h|h <;> simp [h]))).apart (ab.out.2.more (by simp))⟩,bc.out.1,bc.out.2,gK H.out.inv ai.out,fun i hi=>Nat.lt_of_lt_of_le (H.out.tlt i hi) (hba).size⟩,rfl,hba⟩
def edtD (s:StaD) (x:Int) (eo en:ByteArray):StaD×Int:=if 512<eo.size+en.size then (s,6) else if eo.size+en.size=0 then (s,0) else editD s ⟨x,eo,en⟩
theorem mH {s:Sta} (h:IsEd T w b s rb p L) (x:Int) (eo en:ByteArray) (ho:eo.size≤140737488355328) (hn:en.size≤140737488355328) {rb':Nat} {p':Option Addr} {L':List ByteArray} (hap:appE s.t x eo en=(t',0)) (hr:RopeW w (some ⟨rb',0,none⟩) p' L' t') :
 Calls prog 146 #[.pointer (some ⟨b,0,none⟩),.pointer (some ⟨rb',0,none⟩),edV x eo en] w (RetEd T w b (edtD s.d x eo en)):=by
 obtain ⟨t,m,u,ro,so,g⟩:=s
 unfold edtD
 by_cases h1:512<eo.size+en.size
 ·rw [if_pos h1];exact sU h _ x eo en ho hn h1
 rw [if_neg h1]
 by_cases h2:eo.size+en.size=0
 ·rw [if_pos h2];exact tI h _ x eo en ho hn h2
 rw [if_neg h2]
 cases so with
 | true =>
  by_cases h3:32≤g.l.length
  ·have e:editD (Sta.d ⟨t,m,u,ro,true,g⟩) ⟨x,eo,en⟩=(Sta.d ⟨t,m,u,ro,true,g⟩,9):=by unfold editD;rw [if_pos ⟨rfl,h3⟩]
   rw [e]
   exact sL h _ x eo en ho hn (by omega) (by omega) h3
  ·exact tC h x eo en ho hn (by omega) (by omega) hap hr (by omega)
 | false=>exact oX h x eo en ho hn (by omega) (by omega) hap hr
theorem JK {s:StaD} (h:insE s.t i x=0):edtD s i ⟨#[]⟩ x=insD s i x:=by
 unfold edtD insD insX
 rw [if_neg (show ¬ insE s.t i x≠0 from fun g=>g h),show (⟨#[]⟩:ByteArray).size=0 from rfl,Nat.zero_add]
theorem JR {s:StaD} (h:delE s.t i n=0) (hn:((delX s.t i n).o.size:Int)=n):edtD s i (delX s.t i n).o ⟨#[]⟩=delD s i n:=by
 unfold edtD delD
 rw [if_neg (show ¬ delE s.t i n≠0 from fun g=>g h),show (⟨#[]⟩:ByteArray).size=0 from rfl,Nat.add_zero]
 by_cases h1:512<(delX s.t i n).o.size
 ·rw [if_pos h1,if_pos (show (512:Int)<n by omega)]
 rw [if_neg h1,if_neg (show ¬ (512:Int)<n by omega)]
 by_cases h2:(delX s.t i n).o.size=0
 ·rw [if_pos h2,if_pos (show n=0 by omega)]
 rw [if_neg h2,if_neg (show ¬ n=0 by omega)]
 rfl
set_option maxHeartbeats 1600000 in
theorem tT {m:KPc} {u ro:SPc} {g:EPc} (h:IsEd T w b ⟨t,m,u,ro,so,g⟩ rb p L) (k i n:Int) (x:ByteArray) (hx:x.size≤1000000) (hi:i64P i) (h1:insE t i x≠0):Calls prog 118 #[.pointer (some ⟨b,0,none⟩),(.agg #[.int .i64 k,.int .i64 i,.int .i64 n,.string x])] w (RetEd T w b ((Sta.d ⟨t,m,u,ro,so,g⟩),insE t i x)):=by
 have hbl:b<w.heap.size:=h.lt
 obtain ⟨wX,hwX,kE,ab,hz⟩:=box1 w #[.int .i64 k,.int .i64 i,.int .i64 n,.string x] 50
 have ad:=hid (show Blk wX b #[.bool true,.pointer (some ⟨rb,0,none⟩),.string ⟨#[]⟩,.slice m.a m.l.length m.c,.slice u.a u.l.length u.c,.slice ro.a ro.l.length ro.c,.bool so,.slice g.a g.l.length g.c] 100 from h.blk.onto ab)
 have ac:=hid (kE)
 have a9:=hid ((h.rows.wide (S':=b::w.heap.size::T) (wide2 (Nat.le_refl _))).later ab)
 have ba:=hid ((Apart.of_below ab:Apart [b] w wX))
 have bb:=hid (Nat.le_refl wX.heap.size)
 have ae:∀ W:World,wX.heap.size≤W.heap.size→∀ i∈b::w.heap.size::T,i<W.heap.size:=fun W hWz i hi=>by simp only [List.mem_cons] at hi;rcases hi with rfl|rfl|hi;all_goals first|omega|(have:=h.tlt i hi;omega)
 have b7:=hid ae;have H:=hid h;have HB:=hid ab
 clear ae kE
 obtain ⟨ag,ah,ai,aj,ak,al,am,an,ao,aq,ar,au,av,aw,ax,ay⟩:=ad.out.all8
 obtain ⟨az,a0,a1,a2,a3,a4,a5,a6⟩:=ac.out.all4
 have hfs:∀ W,Below wX.heap.size wX W→W.cell? ⟨b,1,none⟩=some (.pointer (some ⟨rb,0,none⟩))∧W.cell? ⟨w.heap.size,0,none⟩=some (.int .i64 k)∧W.cell? ⟨w.heap.size,1,none⟩=some (.int .i64 i)∧W.cell? ⟨w.heap.size,2,none⟩=some (.int .i64 n)∧W.cell? ⟨w.heap.size,3,none⟩=some (.string x):=fun W h=>⟨(ad.out.onto h).cell 1 _ rfl,(ac.out.onto h).cell 0 _ rfl,(ac.out.onto h).cell 1 _ rfl,(ac.out.onto h).cell 2 _ rfl,(ac.out.onto h).cell 3 _ rfl⟩
 have FS:=hid hfs
 clear hfs
 have cs:=fun W (hW:Below wX.heap.size wX W)=>(sY (x:=x) (i:=i) ((h.rope.later ab).later hW) (show t.size≤4096 from h.inv.z) (by unfold maxLen;omega) hi).mono fun e w' h=>h.no h1
 have h1e:(insE t i x == 0)=false:=beq_eq_false_iff_ne.2 h1
 obtain ⟨E,hE⟩:∃ E,insE t i x=E:=⟨_,rfl⟩
 rw [hE] at cs h1e ⊢
 have CS:=hid cs
 clear cs h ab hz h1 hi hx hE
 go_enter func118,ntmps118
 go_wp2_with fail
 clear ag ah ai aj ak al am an ao aq ar au av aw ax ay az a0 a1 a2 a3 a4 a5 a6
 clear hwX
 refine wp_region_held_drew (S:=(fun W:World=>W.cell? ⟨b,1,none⟩=some (.pointer (some ⟨rb,0,none⟩))∧W.cell? ⟨w.heap.size,0,none⟩=some (.int .i64 k)∧W.cell? ⟨w.heap.size,1,none⟩=some (.int .i64 i)∧W.cell? ⟨w.heap.size,2,none⟩=some (.int .i64 n)∧W.cell? ⟨w.heap.size,3,none⟩=some (.string x))) (by kernel_rfl) (FS.out _ (Below.refl _ _).drew) (fun hHeld=>?_)
 refine sqt 0 ?_
 refine sqt 1 ?_
 refine sqt 2 ?_
 refine sqt 3 ?_
 refine sqt 4 ?_
 refine sqt 5 ?_
 refine sqt 6 ?_
 refine sqt 7 ?_
 refine sqr 8 fun K hK=>?_
 go_simp
 (go_at_call 90;refine (CS.out _ (Below.refl _ _).drew).mono ?_;rintro e w1 ⟨rfl,a7⟩;have aa:Below wX.heap.size wX w1:=(Below.refl _ _).drew.trans a7)
 try go_wp2_with fail
 refine hK.out _ _ ?_ (fun hHeld=>?_)
 ·exact FS.out _ aa
 clear hK K
 try simp only [Act.put,sqp]
 refine sqt 9 ?_
 refine sqt 10 ?_
 refine sqt 11 ?_
 refine sqt 12 ?_
 refine sqt 13 ?_
 refine wpAnyH_done (by kernel_rfl) ?_ _
 have a8:=hid (ad.out.onto aa)
 have bc:=hid (ac.out.onto aa)
 have bd:=hid (a9.out.later aa)
 have af:=hid (ba.out.trans (S':=[]) (.of_below aa) (by simp))
 have b8:=hid (Nat.le_trans bb.out aa.size)
 have b9:=hid aa
 clear a7 aa CS
 obtain ⟨be,bf,bg,bh,bi,bj,bk,bl,bm,bn,bo,bp,bq,br,bs,bu⟩:=a8.out.all8
 obtain ⟨bv,bw,bx,bz,b3,b4,b5,b6⟩:=bc.out.all4
 go_wp2
 go_ret
 exact ⟨⟨t,m,u,ro,so,g⟩,rb,p,L,rfl,⟨a8.out,H.out.rope.apart H.out.blk rfl af.out,bd.out.wide (fun i hi=>.inl (by simp only [List.mem_cons] at hi ⊢;rcases hi with h|h <;> simp [h])),H.out.ml,H.out.mc,H.out.inv,fun i hi=>Nat.lt_of_lt_of_le (H.out.tlt i hi) (af.out).size⟩,rfl,af.out⟩
set_option maxHeartbeats 1600000 in
theorem sC {m:KPc} {u ro:SPc} {g:EPc} (h:IsEd T w b ⟨t,m,u,ro,so,g⟩ rb p L) (k i n:Int) (x:ByteArray) (hx:x.size≤1000000) (hi:i64P i) (h1:insE t i x=0):Calls prog 118 #[.pointer (some ⟨b,0,none⟩),(.agg #[.int .i64 k,.int .i64 i,.int .i64 n,.string x])] w (RetEd T w b (insD (Sta.d ⟨t,m,u,ro,so,g⟩) i x)):=by
 have hbl:b<w.heap.size:=h.lt
 obtain ⟨wX,hwX,kE,ab,hz⟩:=box1 w #[.int .i64 k,.int .i64 i,.int .i64 n,.string x] 50
 have ad:=hid (show Blk wX b #[.bool true,.pointer (some ⟨rb,0,none⟩),.string ⟨#[]⟩,.slice m.a m.l.length m.c,.slice u.a u.l.length u.c,.slice ro.a ro.l.length ro.c,.bool so,.slice g.a g.l.length g.c] 100 from h.blk.onto ab)
 have ac:=hid (kE)
 have b4:=hid ((h.rows.wide (S':=b::w.heap.size::T) (wide2 (Nat.le_refl _))).later ab)
 have b5:=hid ((Apart.of_below ab:Apart [b] w wX))
 have b6:=hid (Nat.le_refl wX.heap.size)
 have ae:∀ W:World,wX.heap.size≤W.heap.size→∀ i∈b::w.heap.size::T,i<W.heap.size:=fun W hWz i hi=>by simp only [List.mem_cons] at hi;rcases hi with rfl|rfl|hi;all_goals first|omega|(have:=h.tlt i hi;omega)
 have cc:=hid ae;have H:=hid h;have HB:=hid ab
 clear ae kE
 obtain ⟨af,ag,ah,ai,aj,ak,al,am,an,ao,aq,ar,au,av,aw,ax⟩:=ad.out.all8
 obtain ⟨ay,az,a0,a1,a2,a3,a4,a5⟩:=ac.out.all4
 have hfs:∀ W,Below wX.heap.size wX W→W.cell? ⟨b,1,none⟩=some (.pointer (some ⟨rb,0,none⟩))∧W.cell? ⟨w.heap.size,0,none⟩=some (.int .i64 k)∧W.cell? ⟨w.heap.size,1,none⟩=some (.int .i64 i)∧W.cell? ⟨w.heap.size,2,none⟩=some (.int .i64 n)∧W.cell? ⟨w.heap.size,3,none⟩=some (.string x):=fun W h=>⟨(ad.out.onto h).cell 1 _ rfl,(ac.out.onto h).cell 0 _ rfl,(ac.out.onto h).cell 1 _ rfl,(ac.out.onto h).cell 2 _ rfl,(ac.out.onto h).cell 3 _ rfl⟩
 have FS:=hid hfs
 clear hfs
 have cs:=fun W (hW:Below wX.heap.size wX W)=>(sY (x:=x) (i:=i) ((h.rope.later ab).later hW) (show t.size≤4096 from h.inv.z) (by unfold maxLen;omega) hi).mono fun e w' h=>h.yes h1
 have ce:=fun W (hW:Below wX.heap.size wX W) {rb':Nat} {p':Option Addr} {L':List ByteArray} (hR:RopeW W (some ⟨rb',0,none⟩) p' L' (insS t i x))=>mH ((h.later ab).later hW) i ⟨#[]⟩ x (Nat.zero_le _) (by omega) (xP h1) hR
 rw [JK (s:=Sta.d ⟨t,m,u,ro,so,g⟩) h1] at ce
 obtain ⟨R,hR⟩:∃ R,insD (Sta.d ⟨t,m,u,ro,so,g⟩) i x=R:=⟨_,rfl⟩
 rw [hR] at ce ⊢
 obtain ⟨Rs,Re⟩:=R
 have CE:=hid ce
 clear ce hR
 have CS:=hid cs
 clear cs h ab hz h1 hi hx
 go_enter func118,ntmps118
 go_wp2_with fail
 clear af ag ah ai aj ak al am an ao aq ar au av aw ax ay az a0 a1 a2 a3 a4 a5
 clear hwX
 refine wp_region_held_drew (S:=(fun W:World=>W.cell? ⟨b,1,none⟩=some (.pointer (some ⟨rb,0,none⟩))∧W.cell? ⟨w.heap.size,0,none⟩=some (.int .i64 k)∧W.cell? ⟨w.heap.size,1,none⟩=some (.int .i64 i)∧W.cell? ⟨w.heap.size,2,none⟩=some (.int .i64 n)∧W.cell? ⟨w.heap.size,3,none⟩=some (.string x))) (by kernel_rfl) (FS.out _ (Below.refl _ _).drew) (fun hHeld=>?_)
 refine sqt 0 ?_
 refine sqt 1 ?_
 refine sqt 2 ?_
 refine sqt 3 ?_
 refine sqt 4 ?_
 refine sqt 5 ?_
 refine sqt 6 ?_
 refine sqt 7 ?_
 refine sqr 8 fun K hK=>?_
 go_simp
 (go_at_call 90;refine (CS.out _ (Below.refl _ _).drew).mono ?_;rintro e w1 ⟨rb',p',L',rfl,bv,bw⟩;have aa:Below wX.heap.size wX w1:=(Below.refl _ _).drew.trans bw)
 try go_wp2_with fail
 refine hK.out _ _ ?_ (fun hHeld=>?_)
 ·exact FS.out _ aa
 clear hK K
 try simp only [Act.put,sqp]
 refine sqt 9 ?_
 refine sqt 10 ?_
 refine sqt 11 ?_
 refine sqt 12 ?_
 refine sqt 13 ?_
 refine wpAnyH_done (by kernel_rfl) ?_ _
 have b7:=hid (ad.out.onto aa)
 have b8:=hid (ac.out.onto aa)
 have cd:=hid (b4.out.later aa)
 have b9:=hid (b5.out.trans (S':=[]) (.of_below aa) (by simp))
 have cf:=hid (Nat.le_trans b6.out aa.size)
 have ca:=hid aa
 clear bw aa CS
 have cb:=hid bv
 clear bv
 obtain ⟨a6,a7,a8,a9,ba,bb,bc,bd,be,bf,bg,bh,bi,bj,bk,bl⟩:=b7.out.all8
 obtain ⟨bm,bn,bo,bp,bq,br,bs,bu⟩:=b8.out.all4
 go_wp2_with fail
 refine (CE.out _ ca.out cb.out).mono ?_;rintro e w2 ⟨s2,rb2,p2,L2,rfl,bx,bz,b3⟩
 have HQ:=hid (And.intro bx (And.intro bz b3))
 clear bx bz b3
 clear a6 a7 a8 a9 ba bb bc bd be bf bg bh bi bj bk bl bm bn bo bp bq br bs bu
 go_wp2
 go_ret
 exact ⟨s2,rb2,p2,L2,rfl,HQ.out.1,HQ.out.2.1,b9.out.trans HQ.out.2.2 (fun x hx=>.inl hx)⟩
set_option maxHeartbeats 1600000 in
theorem sM {m:KPc} {u ro:SPc} {g:EPc} (h:IsEd T w b ⟨t,m,u,ro,so,g⟩ rb p L) (k i n:Int) (x:ByteArray) (hi:i64P i) (h1:delE t i n≠0):Calls prog 119 #[.pointer (some ⟨b,0,none⟩),(.agg #[.int .i64 k,.int .i64 i,.int .i64 n,.string x])] w (RetEd T w b ((Sta.d ⟨t,m,u,ro,so,g⟩),delE t i n)):=by
 have hbl:b<w.heap.size:=h.lt
 obtain ⟨wX,hwX,kE,ab,hz⟩:=box1 w #[.int .i64 k,.int .i64 i,.int .i64 n,.string x] 50
 have ad:=hid (show Blk wX b #[.bool true,.pointer (some ⟨rb,0,none⟩),.string ⟨#[]⟩,.slice m.a m.l.length m.c,.slice u.a u.l.length u.c,.slice ro.a ro.l.length ro.c,.bool so,.slice g.a g.l.length g.c] 100 from h.blk.onto ab)
 have ac:=hid (kE)
 have a9:=hid ((h.rows.wide (S':=b::w.heap.size::T) (wide2 (Nat.le_refl _))).later ab)
 have ba:=hid ((Apart.of_below ab:Apart [b] w wX))
 have bb:=hid (Nat.le_refl wX.heap.size)
 have ae:∀ W:World,wX.heap.size≤W.heap.size→∀ i∈b::w.heap.size::T,i<W.heap.size:=fun W hWz i hi=>by simp only [List.mem_cons] at hi;rcases hi with rfl|rfl|hi;all_goals first|omega|(have:=h.tlt i hi;omega)
 have b7:=hid ae;have H:=hid h;have HB:=hid ab
 clear ae kE
 obtain ⟨ag,ah,ai,aj,ak,al,am,an,ao,aq,ar,au,av,aw,ax,ay⟩:=ad.out.all8
 obtain ⟨az,a0,a1,a2,a3,a4,a5,a6⟩:=ac.out.all4
 have hfs:∀ W,Below wX.heap.size wX W→W.cell? ⟨b,1,none⟩=some (.pointer (some ⟨rb,0,none⟩))∧W.cell? ⟨w.heap.size,0,none⟩=some (.int .i64 k)∧W.cell? ⟨w.heap.size,1,none⟩=some (.int .i64 i)∧W.cell? ⟨w.heap.size,2,none⟩=some (.int .i64 n)∧W.cell? ⟨w.heap.size,3,none⟩=some (.string x):=fun W h=>⟨(ad.out.onto h).cell 1 _ rfl,(ac.out.onto h).cell 0 _ rfl,(ac.out.onto h).cell 1 _ rfl,(ac.out.onto h).cell 2 _ rfl,(ac.out.onto h).cell 3 _ rfl⟩
 have FS:=hid hfs
 clear hfs
 have cs:=fun W (hW:Below wX.heap.size wX W)=>(EY (n:=n) (i:=i) ((h.rope.later ab).later hW) (show t.size≤4096 from h.inv.z) hi).mono fun e w' h=>h.no h1
 have h1e:(delE t i n == 0)=false:=beq_eq_false_iff_ne.2 h1
 obtain ⟨E,hE⟩:∃ E,delE t i n=E:=⟨_,rfl⟩
 rw [hE] at cs h1e ⊢
 have CS:=hid cs
 clear cs h ab hz h1 hi hE
 go_enter func119,ntmps119
 go_wp2_with fail
 clear ag ah ai aj ak al am an ao aq ar au av aw ax ay az a0 a1 a2 a3 a4 a5 a6
 clear hwX
 refine wp_region_held_drew (S:=(fun W:World=>W.cell? ⟨b,1,none⟩=some (.pointer (some ⟨rb,0,none⟩))∧W.cell? ⟨w.heap.size,0,none⟩=some (.int .i64 k)∧W.cell? ⟨w.heap.size,1,none⟩=some (.int .i64 i)∧W.cell? ⟨w.heap.size,2,none⟩=some (.int .i64 n)∧W.cell? ⟨w.heap.size,3,none⟩=some (.string x))) (by kernel_rfl) (FS.out _ (Below.refl _ _).drew) (fun hHeld=>?_)
 refine sqt 0 ?_
 refine sqt 1 ?_
 refine sqt 2 ?_
 refine sqt 3 ?_
 refine sqt 4 ?_
 refine sqt 5 ?_
 refine sqt 6 ?_
 refine sqt 7 ?_
 refine sqr 8 fun K hK=>?_
 go_simp
 (go_at_call 147;refine (CS.out _ (Below.refl _ _).drew).mono ?_;rintro e w1 ⟨rfl,a7⟩;have aa:Below wX.heap.size wX w1:=(Below.refl _ _).drew.trans a7)
 try go_wp2_with fail
 refine hK.out _ _ ?_ (fun hHeld=>?_)
 ·exact FS.out _ aa
 clear hK K
 try simp only [Act.put,sqp]
 refine sqt 9 ?_
 refine sqt 10 ?_
 refine sqt 11 ?_
 refine sqt 12 ?_
 refine sqt 13 ?_
 refine wpAnyH_done (by kernel_rfl) ?_ _
 have a8:=hid (ad.out.onto aa)
 have bc:=hid (ac.out.onto aa)
 have bd:=hid (a9.out.later aa)
 have af:=hid (ba.out.trans (S':=[]) (.of_below aa) (by simp))
 have b8:=hid (Nat.le_trans bb.out aa.size)
 have b9:=hid aa
 clear a7 aa CS
 obtain ⟨be,bf,bg,bh,bi,bj,bk,bl,bm,bn,bo,bp,bq,br,bs,bu⟩:=a8.out.all8
 obtain ⟨bv,bw,bx,bz,b3,b4,b5,b6⟩:=bc.out.all4
 go_wp2
 go_ret
 exact ⟨⟨t,m,u,ro,so,g⟩,rb,p,L,rfl,⟨a8.out,H.out.rope.apart H.out.blk rfl af.out,bd.out.wide (fun i hi=>.inl (by simp only [List.mem_cons] at hi ⊢;rcases hi with h|h <;> simp [h])),H.out.ml,H.out.mc,H.out.inv,fun i hi=>Nat.lt_of_lt_of_le (H.out.tlt i hi) (af.out).size⟩,rfl,af.out⟩
set_option maxHeartbeats 1600000 in
theorem sF {m:KPc} {u ro:SPc} {g:EPc} (h:IsEd T w b ⟨t,m,u,ro,so,g⟩ rb p L) (k i n:Int) (x:ByteArray) (hi:i64P i) (h1:delE t i n=0):Calls prog 119 #[.pointer (some ⟨b,0,none⟩),(.agg #[.int .i64 k,.int .i64 i,.int .i64 n,.string x])] w (RetEd T w b (delD (Sta.d ⟨t,m,u,ro,so,g⟩) i n)):=by
 have hbl:b<w.heap.size:=h.lt
 obtain ⟨wX,hwX,kE,ac,hz⟩:=box1 w #[.int .i64 k,.int .i64 i,.int .i64 n,.string x] 50
 have af:=hid (show Blk wX b #[.bool true,.pointer (some ⟨rb,0,none⟩),.string ⟨#[]⟩,.slice m.a m.l.length m.c,.slice u.a u.l.length u.c,.slice ro.a ro.l.length ro.c,.bool so,.slice g.a g.l.length g.c] 100 from h.blk.onto ac)
 have ad:=hid (kE)
 have c4:=hid ((h.rows.wide (S':=b::w.heap.size::T) (wide2 (Nat.le_refl _))).later ac)
 have c5:=hid ((Apart.of_below ac:Apart [b] w wX))
 have c6:=hid (Nat.le_refl wX.heap.size)
 have ag:∀ W:World,wX.heap.size≤W.heap.size→∀ i∈b::w.heap.size::T,i<W.heap.size:=fun W hWz i hi=>by simp only [List.mem_cons] at hi;rcases hi with rfl|rfl|hi;all_goals first|omega|(have:=h.tlt i hi;omega)
 have df:=hid ag;have H:=hid h;have HB:=hid ac
 clear ag kE
 obtain ⟨ah,ai,aj,ak,al,am,an,ao,aq,ar,au,av,aw,ax,ay,az⟩:=af.out.all8
 obtain ⟨a0,a1,a2,a3,a4,a5,a6,a7⟩:=ad.out.all4
 have hfs:∀ W,Below wX.heap.size wX W→W.cell? ⟨b,1,none⟩=some (.pointer (some ⟨rb,0,none⟩))∧W.cell? ⟨w.heap.size,0,none⟩=some (.int .i64 k)∧W.cell? ⟨w.heap.size,1,none⟩=some (.int .i64 i)∧W.cell? ⟨w.heap.size,2,none⟩=some (.int .i64 n)∧W.cell? ⟨w.heap.size,3,none⟩=some (.string x):=fun W h=>⟨(af.out.onto h).cell 1 _ rfl,(ad.out.onto h).cell 0 _ rfl,(ad.out.onto h).cell 1 _ rfl,(ad.out.onto h).cell 2 _ rfl,(ad.out.onto h).cell 3 _ rfl⟩
 have FS:=hid hfs
 clear hfs
 have cs:=fun W (hW:Below wX.heap.size wX W)=>(EY (n:=n) (i:=i) ((h.rope.later ac).later hW) (show t.size≤4096 from h.inv.z) hi).mono fun e w' h=>h.yes h1
 obtain ⟨da,dz⟩:=xH (i:=i) (n:=n) h.inv.v h.inv.z h1
 have hst:=dC.1 (kV h1).1
 obtain ⟨i',rfl⟩:=Int.eq_ofNat_of_zero_le hst.1
 obtain ⟨n',rfl⟩:=Int.eq_ofNat_of_zero_le hst.2.1
 have hle:i'+n'≤t.size:=by omega
 have hdx:(delX (Sta.d ⟨t,m,u,ro,so,g⟩).t (i':Int) (n':Int)).o=t.extract i' (i'+n'):=by show t.extract _ _=_;congr 1
 have c2:=fun W (hW:Below wX.heap.size wX W)=>KW ((h.rope.later ac).later hW) hle
 have ce:=fun W (hW:Below wX.heap.size wX W) {rb':Nat} {p':Option Addr} {L':List ByteArray} (hR:RopeW W (some ⟨rb',0,none⟩) p' L' (delS t i' n'))=>mH ((h.later ac).later hW) i' (delX (Sta.d ⟨t,m,u,ro,so,g⟩).t i' n').o ⟨#[]⟩ (by have:=h.inv.z;replace this:t.size≤4096:=this;omega) (Nat.zero_le _) da hR
 rw [JR (s:=Sta.d ⟨t,m,u,ro,so,g⟩) h1 dz,hdx] at ce
 obtain ⟨R,hR⟩:∃ R,delD (Sta.d ⟨t,m,u,ro,so,g⟩) (i':Int) (n':Int)=R:=⟨_,rfl⟩
 rw [hR] at ce ⊢
 obtain ⟨Rs,Re⟩:=R
 obtain ⟨old,hold⟩:∃ old,t.extract i' (i'+n')=old:=⟨_,rfl⟩
 rw [hold] at ce c2
 have CE:=hid ce
 have C2:=hid c2
 clear ce c2 hR hdx da dz hst hle hold
 have CS:=hid cs
 clear cs h ac hz h1 hi
 go_enter func119,ntmps119
 go_wp2_with fail
 clear ah ai aj ak al am an ao aq ar au av aw ax ay az a0 a1 a2 a3 a4 a5 a6 a7
 clear hwX
 refine wp_region_held_drew (S:=(fun W:World=>W.cell? ⟨b,1,none⟩=some (.pointer (some ⟨rb,0,none⟩))∧W.cell? ⟨w.heap.size,0,none⟩=some (.int .i64 k)∧W.cell? ⟨w.heap.size,1,none⟩=some (.int .i64 (i':Int))∧W.cell? ⟨w.heap.size,2,none⟩=some (.int .i64 (n':Int))∧W.cell? ⟨w.heap.size,3,none⟩=some (.string x))) (by kernel_rfl) (FS.out _ (Below.refl _ _).drew) (fun hHeld=>?_)
 refine sqt 0 ?_
 refine sqt 1 ?_
 refine sqt 2 ?_
 refine sqt 3 ?_
 refine sqt 4 ?_
 refine sqt 5 ?_
 refine sqt 6 ?_
 refine sqt 7 ?_
 refine sqr 8 fun K hK=>?_
 go_simp
 (go_at_call 147;refine (CS.out _ (Below.refl _ _).drew).mono ?_;rintro e w1 ⟨rb',p',L',rfl,cq,cr⟩;have aa:Below wX.heap.size wX w1:=(Below.refl _ _).drew.trans cr)
 try go_wp2_with fail
 refine hK.out _ _ ?_ (fun hHeld=>?_)
 ·exact FS.out _ aa
 clear hK K
 try simp only [Act.put,sqp]
 refine sqt 9 ?_
 refine sqt 10 ?_
 refine sqt 11 ?_
 refine sqt 12 ?_
 refine sqt 13 ?_
 refine wpAnyH_done (by kernel_rfl) ?_ _
 have ct:=hid (af.out.onto aa)
 have cu:=hid (ad.out.onto aa)
 have c7:=hid (c4.out.later aa)
 have c8:=hid (c5.out.trans (S':=[]) (.of_below aa) (by simp))
 have c9:=hid (Nat.le_trans c6.out aa.size)
 have ae:=hid aa
 clear cr aa CS
 have cv:=hid cq
 clear cq
 obtain ⟨a8,a9,ba,bb,bc,bd,be,bf,bg,bh,bi,bj,bk,bl,bm,bn⟩:=ct.out.all8
 obtain ⟨bo,bp,bq,br,bs,bu,bv,bw⟩:=cu.out.all4
 go_wp2_with fail
 clear a8 a9 ba bb bc bd be bf bg bh bi bj bk bl bm bn bo bp bq br bs bu bv bw
 refine wp_region_held_drew (S:=(fun W:World=>W.cell? ⟨b,1,none⟩=some (.pointer (some ⟨rb,0,none⟩))∧W.cell? ⟨w.heap.size,0,none⟩=some (.int .i64 k)∧W.cell? ⟨w.heap.size,1,none⟩=some (.int .i64 (i':Int))∧W.cell? ⟨w.heap.size,2,none⟩=some (.int .i64 (n':Int))∧W.cell? ⟨w.heap.size,3,none⟩=some (.string x))) (by kernel_rfl) (FS.out _ ae.out.drew) (fun hHeld=>?_)
 refine sqt 0 ?_
 refine sqt 1 ?_
 refine sqt 2 ?_
 refine sqt 3 ?_
 refine sqt 4 ?_
 refine sqt 5 ?_
 refine sqt 6 ?_
 refine sqt 7 ?_
 refine sqr 8 fun K hK=>?_
 go_simp
 (go_at_call 148;refine (C2.out _ ae.out.drew).mono ?_;rintro e w2 ⟨rfl,cw⟩;have ab:Below w1.heap.size w1 w2:=(Below.refl _ _).drew.trans cw;have cx:=hid (ae.out.trans (ab.mono ae.out.size)))
 try go_wp2_with fail
 refine hK.out _ _ ?_ (fun hHeld=>?_)
 ·exact FS.out _ cx.out
 clear hK K
 try simp only [Act.put,sqp]
 refine sqt 9 ?_
 refine sqt 10 ?_
 refine sqt 11 ?_
 refine sqt 12 ?_
 refine sqt 13 ?_
 refine wpAnyH_done (by kernel_rfl) ?_ _
 have db:=hid (ct.out.onto ab)
 have dc:=hid (cu.out.onto ab)
 have dg:=hid (c7.out.later ab)
 have dd:=hid (c8.out.trans (S':=[]) (.of_below ab) (by simp))
 have dh:=hid (Nat.le_trans c9.out ab.size)
 have de:=hid (cv.out.later ab)
 clear cw ab C2 cv
 obtain ⟨bx,bz,b3,b4,b5,b6,b7,b8,b9,ca,cb,cc,cd,cf,cg,ch⟩:=db.out.all8
 obtain ⟨ci,cj,ck,cl,cm,cn,co,cp⟩:=dc.out.all4
 go_wp2_with fail
 refine (CE.out _ cx.out de.out).mono ?_;rintro e w3 ⟨s2,rb2,p2,L2,rfl,cy,cz,c3⟩
 have HQ:=hid (And.intro cy (And.intro cz c3))
 clear cy cz c3
 clear bx bz b3 b4 b5 b6 b7 b8 b9 ca cb cc cd cf cg ch ci cj ck cl cm cn co cp
 go_wp2
 go_ret
 exact ⟨s2,rb2,p2,L2,rfl,HQ.out.1,HQ.out.2.1,dd.out.trans HQ.out.2.2 (fun x hx=>.inl hx)⟩
end Go.Proofs.YtbagenpobcgjnaaGreat
namespace Go.Proofs.YtbagenpobcgjnaaGreat
open Go.RowKit
set_option linter.unusedVariables false
set_option linter.unusedSimpArgs false
theorem InvS.bare {s:StaD} (h:InvS s) (ho:s.o=false):s.g=[]:=by
 rcases h.go with g|g
 ·exact g
 ·rw [ho] at g;cases g.1
theorem GN {s:StaD} (h:InvS s) (ho:s.o=false) (hk:s.u.length=k+1):∃ t',runE s.t (invL s.u[k]!)=(t',0)∧vldB t'.data.toList=true∧t'.size≤4096:=by
 have hu:=h.u
 rw [h.bare ho] at hu
 obtain ⟨hr,-⟩:=eK hk hu
 obtain ⟨t',e,hv,hz,-⟩:=h.runs hr
 exact ⟨t',e,hv,hz⟩
theorem KY {s:StaD} (h:InvS s) (hk:s.r.length=k+1):∃ t',runE s.t s.r[k]! = (t',0)∧vldB t'.data.toList=true∧t'.size≤4096:=by
 obtain ⟨hr,-⟩:=eK hk h.r
 obtain ⟨t',e,hv,hz,-⟩:=h.runs (st:=s.r[k]!) hr
 exact ⟨t',e,hv,hz⟩
theorem BT {s:StaD} (ho:s.o=false) (hk:s.u.length=k+1) (hr:runE s.t (invL s.u[k]!)=(t',0)):undoD s=(⟨t',shfL s.m (invL s.u[k]!),s.u.take k,pushL s.r s.u[k]!,false,s.g⟩,0):=by
 unfold undoD
 rw [if_neg (by rw [ho];decide),if_neg (by omega),show s.u.length - 1=k by omega,hr,ho]
theorem FY {s:StaD} (ho:s.o=false) (hk:s.r.length=k+1) (hr:runE s.t s.r[k]! = (t',0)):redoD s=(⟨t',shfL s.m s.r[k]!,pushL s.u s.r[k]!,s.r.take k,false,s.g⟩,0):=by
 unfold redoD
 rw [if_neg (by rw [ho];decide),if_neg (by omega),show s.r.length - 1=k by omega,hr,ho]
def RetRD (S:List Nat) (w:World) (r:StaD×Int) (e:Ending) (w':World):Prop:=∃ s':Sta,e=.returned (.tuple #[s'.v,.int .i64 r.2])∧s'.d=r.1∧StaO S w' s'∧Below w.heap.size w w'
open Go.Proofs.Tryz
abbrev Sub26 (s:Sta) (S:List Nat) (w:World) (R:StaD×Int) (f:FuncId) (v:Array Value):Prop:=∀ W,StaO (w.heap.size::(w.heap.size+1)::(w.heap.size+1+1)::S) W s→InS (w.heap.size::(w.heap.size+1)::(w.heap.size+1+1)::S) W→Calls prog f v W (RetRD (w.heap.size::(w.heap.size+1)::(w.heap.size+1+1)::S) W R)
end Go.Proofs.YtbagenpobcgjnaaGreat
