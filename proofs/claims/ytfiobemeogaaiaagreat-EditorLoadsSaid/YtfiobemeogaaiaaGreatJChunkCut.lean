/-
  Joined: ChunkCut, OpenStp, StepRef, StepDev.
-/
import Derived.Test.YtfiobemeogaaiaaGreatJChunkRef
import Derived.Laws.MakeOwn
import Derived.Test.YtfiobemeogaaiaaGreatJCommon
import Derived.Test.YtfiobemeogaaiaaGreatJMrk
import Derived.Test.YtfiobemeogaaiaaGreatJStepMath
import Derived.Test.YtfiobemeogaaiaaGreatJEditDev
namespace Go.Proofs.YtfiobemeogaaiaaGreat
open Go.RowKit
set_option linter.unusedVariables false
structure CutI (s:ByteArray) (w:World) (cur:ByteArray) (L:List ByteArray) (v:Value) (wr:World):Prop where
 own:wr.ownsRow w.heap.size 9 1 v L.length (strVs L)
 bel:Below w.heap.size w wr
 val:vld cur.data.toList
 len:L.length+cur.size≤s.size
 go:∀ L',Ctd cur L'→Ctd s (L++L')
 prev:∀ x∈L,x.size≤1000000
 two:L=[]∨∃ L0 p,L=L0++[p]∧16<p.size+cur.size∧0<cur.size
theorem CutI.start {s:ByteArray} {w wr:World} (hv:vld s.data.toList) (hb:Below w.heap.size w wr):CutI s w s [] (.slice none 0 0) wr:=
 ⟨World.ownsRow_nil _ _ _ _,hb,hv,by simp,fun L' h=>h,fun x h=>absurd h (by simp),.inl rfl⟩
theorem CutI.step {s cur:ByteArray} {w wr w2:World} {L:List ByteArray} {v v':Value} (h:CutI s w cur L v wr) (h16:16<cur.size)
 (hown:w2.ownsRow w.heap.size 9 1 v' (L.length+1) (strVs L++[.string (cur.extract 0 (cutN cur))])) (hb:Below w.heap.size w w2) :
 CutI s w (cur.extract (cutN cur) cur.size) (L++[cur.extract 0 (cutN cur)]) v' w2:=by
 have hn:=iH cur
 have aa:=lV cur h.val h16
 have hp:=lP cur (cutN cur) h.val (sM cur)
 have z1:=bF cur (cutN cur) (by omega)
 have z2:=cJ cur (cutN cur)
 have hl:=h.len
 refine ⟨?_,hb,hp.2,?_,fun L' h'=>?_,fun x hx=>?_,.inr ⟨L,_,rfl,by omega,by omega⟩⟩
 ·rw [lJ,List.length_append];exact hown
 ·simp only [List.length_append,List.length_cons,List.length_nil];omega
 ·rw [List.append_assoc];exact h.go _ (.more h16 h')
 ·rcases List.mem_append.1 hx with g|g
  ·exact h.prev x g
  ·simp only [List.mem_singleton] at g;subst g;omega
def RetCut (s:ByteArray) (w:World) (e:Ending) (w':World):Prop:=∃ L,CutP s L∧L.length≤s.size∧RetStrs w L e w'
theorem wS {w w':World} {v:Value} {L:List ByteArray} (h:w'.ownsRow w.heap.size 9 1 v L.length (strVs L)) (hb:Below w.heap.size w w'):RetStrs w L (.returned v) w':=by
 obtain ⟨a,c,rfl,hs⟩:=KR h
 exact ⟨a,c,rfl,hs.weak fun _ h=>h.2,hb⟩
theorem CutI.none {s cur:ByteArray} {w wr:World} {L:List ByteArray} {v:Value} (hs:vld s.data.toList) (h:CutI s w cur L v wr) (h0:cur.size=0):RetCut s w (.returned v) wr:=by
 have hg:=h.go [] (.none h0)
 rw [List.append_nil] at hg
 exact ⟨L,.inl ⟨hs,hg⟩,by have:=h.len;omega,wS h.own h.bel⟩
theorem CutI.last {s cur:ByteArray} {w wr w2:World} {L:List ByteArray} {v v':Value} (hs:vld s.data.toList) (h:CutI s w cur L v wr) (h0:0<cur.size) (h1:cur.size≤16)
 (hown:w2.ownsRow w.heap.size 9 1 v' (L.length+1) (strVs L++[.string cur])) (hb:Below w.heap.size w w2):RetCut s w (.returned v') w2:=by
 have hg:=h.go [cur] (.last h0 h1)
 refine ⟨L++[cur],.inl ⟨hs,hg⟩,by have:=h.len;simp only [List.length_append,List.length_cons,List.length_nil];omega,wS ?_ hb⟩
 rw [lJ,List.length_append];exact hown
theorem DZ {s:ByteArray} {w w':World} (h:¬ vld s.data.toList) (hb:Below w.heap.size w w'):RetCut s w (.returned (.slice none 0 0)) w':=
 ⟨[],.inr ⟨h,rfl⟩,Nat.zero_le _,pU hb⟩
end Go.Proofs.YtfiobemeogaaiaaGreat
namespace Go.Proofs.YtfiobemeogaaiaaGreat
open Go.Proofs.Tryz
open Go.RowKit Go.ChangeShapes Go.WideShapes Go.Deep
set_option linter.unusedVariables false
section
variable {H : Type} {enc : TypeId × Value → H} {P : Program} {w : World} {base : Nat} {spare : Nat → Bool} {held : Bool}
end
section
variable {H : Type} {enc : TypeId × Value → H} {w : World} {base : Nat} {spare : Nat → Bool} {held : Bool}
theorem rC:prog.cellsOf 69=1:=by kernel_rfl
end
end Go.Proofs.YtfiobemeogaaiaaGreat
namespace Go.Proofs.YtfiobemeogaaiaaGreat
open Go.Proofs.Tryz
open Lib (hid)
open Go.RowKit
set_option linter.unusedVariables false
abbrev stpV (a:Option Addr) (n c:Nat):Value:=.agg #[.slice a n c]
structure Stp (w:World) (a:Option Addr) (l:List Edt) (c:Nat) (wX:World):Prop where
 below:Below w.heap.size w wX
 size:w.heap.size<wX.heap.size
 cell:wX.cell? ⟨w.heap.size,0,none⟩=some (.slice a l.length c)
 row:Edts wX (·<wX.heap.size) a l
theorem Stp.new (w:World) (a:Option Addr) (l:List Edt) (c:Nat) (h:Edts w (·<w.heap.size) a l):Stp w a l c (w.alloc (.cells #[.slice a l.length c] 69)):=by
 have aa:Below w.heap.size w (w.alloc (.cells #[.slice a l.length c] 69)):=(Below.refl _ _).alloc (Nat.le_refl _) _
 exact ⟨aa,by simp,by simp [World.cell?_alloc_new],(h.below (fun _ h=>h) aa).more fun b hb=>Nat.lt_of_lt_of_le hb aa.size⟩
theorem Stp.on {w wX w2:World} {a:Option Addr} {l:List Edt} {c:Nat} (h:Stp w a l c wX) (hb:Below wX.heap.size wX w2):Stp w a l c w2:=
 ⟨h.below.trans (hb.mono h.below.size),Nat.lt_of_lt_of_le h.size hb.size,(hb.cell (p:=⟨w.heap.size,0,none⟩) h.size).trans h.cell,(h.row.below (fun _ h=>h) hb).more fun b aa=>Nat.lt_of_lt_of_le aa hb.size⟩
theorem Edts.at {w:World} {B:Nat→Prop} {a:Option Addr} {l:List Edt} (h:Edts w B a l) (k:Nat) (hk:k<l.length):∃ ad,a=some ad∧B ad.block∧w.cell? (ad.add (k * 3))=some (.int .i64 (l[k]!).p)∧w.cell? ⟨(ad.add (k * 3)).block,(ad.add (k * 3)).off+1,none⟩=some (.string (l[k]!).o)∧w.cell? ⟨(ad.add (k * 3)).block,(ad.add (k * 3)).off+2,none⟩=some (.string (l[k]!).n):=by
 rw [eget hk]
 exact h k hk
def Edtz (l:List Edt) (b:Nat):Prop:=∀ x∈l,x.o.size≤b∧x.n.size≤b
theorem Edtz.at {l:List Edt} {b:Nat} (h:Edtz l b) (k:Nat) (hk:k<l.length):(l[k]!).o.size≤b∧(l[k]!).n.size≤b:=by rw [eget hk];exact h _ (List.getElem_mem hk)
set_option maxRecDepth 100000 in
set_option maxHeartbeats 1600000 in
theorem fU (t:ByteArray) (a:Option Addr) (l:List Edt) (c:Nat) (w:World) (hr:Edts w (·<w.heap.size) a l) (ht:t.size≤140737488355328) (hl:l.length≤1000000) (hf:Edtz l 140737488355328) :
 Calls prog 49 #[.string t,stpV a l.length c] w fun e w'=>e=.returned (appV (runE t l))∧Below w.heap.size w w':=by
 have hst:=Stp.new w a l c hr
 obtain ⟨n,hn⟩:∃ n,l.length=n:=⟨_,rfl⟩
 obtain ⟨⟨rt,re⟩,hR⟩:∃ R,runE t l=R:=⟨_,rfl⟩
 rw [hR]
 obtain ⟨wX,hwX⟩:∃ wX,w.alloc (.cells #[.slice a l.length c] 69)=wX:=⟨_,rfl⟩
 rw [hwX] at hst
 have aa:=hid hst;have HN:=hid hn;have HF:=hid hf
 have x0:=hst.cell
 have ae:runE t (l.drop 0)=(rt,re):=hR
 rw [hn] at hl hwX x0 ⊢
 have HD:=hid ae
 clear hst hr hn hf hR ae
 go_enter func49,ntmps49
 go_wp2
 clear hwX
 go_loopw [0,6] (fun tv i wr=>∃ (k:Nat) (s:ByteArray),k≤n∧i=.int .i64 k∧tv=.string s∧s.size≤140737488355328∧runE s (l.drop k)=(rt,re)∧Below wX.heap.size wX wr) (fun _ i _=>n - (intOf i).toNat)
 case atStart=>exact ⟨0,t,Nat.zero_le _,rfl,rfl,ht,HD.out,Below.refl _ _⟩
 case round =>
  obtain ⟨k,s,hk,rfl,rfl,hs,hrun,hbel⟩:=hrel
  have y0:=(hbel.cell (p:=⟨w.heap.size,0,none⟩) aa.out.size).trans x0
  by_cases hlt:k<n
  ·have hkl:k<l.length:=by rw [HN.out];exact hlt
   obtain ⟨ad,rfl,hab,q0,q1,q2⟩:=(aa.out.row.below (fun _ h=>h) hbel).at k hkl
   obtain ⟨z1,z2⟩:=HF.out.at k hkl
   rw [edrop l k hkl] at hrun
   obtain ⟨x,hx⟩:∃ x,l[k]! = x:=⟨_,rfl⟩
   rw [hx] at q0 q1 q2 z1 z2 hrun
   obtain ⟨p,o,m⟩:=x
   simp only at q0 q1 q2 z1 z2
   have ca:=oL s o m hs z1 z2 p
   obtain ⟨⟨u,e⟩,hu⟩:∃ y,appE s p o m=y:=⟨_,rfl⟩
   rw [hu] at ca
   have CA:=hid ca;have HU:=hid hu;have ac:=hid hrun
   have b0:(0:Int)≤(k:Int):=by omega
   have b1:(k:Int)<(n:Int):=by omega
   clear ca hu hrun hx z1 z2 hab
   by_cases he:e=0
   ·subst he
    have af:=hid ((dU HU.out).symm.trans ac.out)
    have HZ:=hid (bT HU.out)
    go_wp2_with fail
    refine (CA.out _).mono ?_;rintro e w1 ⟨rfl,ab⟩
    have HB:=hid (hbel.trans (ab.mono hbel.size));clear ab hbel q0 q1 q2
    go_wp2
    go_roundw
    case rel=>exact ⟨k+1,u,by omega,by go_num,rfl,by have:=HZ.out;omega,af.out,HB.out⟩
    case measure=>simp [intOf];omega
   ·have hq:=(fW HU.out he).symm.trans ac.out
    obtain rfl:(⟨#[]⟩:ByteArray)=rt:=congrArg Prod.fst hq
    obtain rfl:e=re:=congrArg Prod.snd hq
    go_wp2_with fail
    refine (CA.out _).mono ?_;rintro e w1 ⟨rfl,ab⟩
    have HB:=hid (aa.out.below.trans ((hbel.trans (ab.mono hbel.size)).mono aa.out.below.size));clear ab hbel q0 q1 q2
    go_wp2
    go_ret2
    exact ⟨rfl,HB.out⟩
  ·obtain rfl:k=n:=by omega
   rw [List.drop_eq_nil_of_le (by rw [HN.out];exact Nat.le_refl _),dG] at hrun
   obtain rfl:s=rt:=congrArg Prod.fst hrun
   obtain rfl:0=re:=congrArg Prod.snd hrun
   have HB:=hid (aa.out.below.trans (hbel.mono aa.out.below.size))
   clear hrun hbel
   go_wp2
   go_ret2
   exact ⟨rfl,HB.out⟩
set_option maxRecDepth 100000 in
set_option maxHeartbeats 1600000 in
theorem gE (t:ByteArray) (a:Option Addr) (l:List Edt) (c:Nat) (w:World) (hr:Edts w (·<w.heap.size) a l) (ht:t.size≤140737488355328) (hl:l.length≤1000000) (hf:Edtz l 140737488355328) :
 Calls prog 48 #[.string t,stpV a l.length c] w fun e w'=>e=.returned (.bool (rightS t l))∧Below w.heap.size w w':=by
 have hst:=Stp.new w a l c hr
 have cr:=fU t a l c _ hst.row ht hl hf
 obtain ⟨wX,hwX⟩:∃ wX,w.alloc (.cells #[.slice a l.length c] 69)=wX:=⟨_,rfl⟩
 rw [hwX] at hst cr
 have x0:=hst.cell
 have hrs:rightS t l=(decide (1≤l.length) && decide (l.length≤32) && ((runE t l).2 == 0)):=rfl
 obtain ⟨⟨rt,re⟩,hR⟩:∃ R,runE t l=R:=⟨_,rfl⟩
 rw [hR] at cr hrs
 obtain ⟨n,hn⟩:∃ n,l.length=n:=⟨_,rfl⟩
 have aa:=hid hst;have ac:=hid hrs
 rw [hn] at hl hwX x0 cr hrs ⊢
 rw [hrs]
 have CR:=hid cr
 clear hst hr hn hf hR cr hrs ac
 go_enter func48,ntmps48
 rcases (show n<1∨(1≤n∧n≤32)∨32<n by omega) with h|⟨h,h2⟩|h
 all_goals
  go_wp2_with fail
  refine CR.out.mono ?_;rintro e w1 ⟨rfl,ab⟩
  have y0:=(ab.cell (p:=⟨w.heap.size,0,none⟩) aa.out.size).trans x0
  have HB:=hid (aa.out.below.trans (ab.mono aa.out.below.size));clear ab
  go_wp2
  go_ret
  refine ⟨aO ?_,HB.out⟩
 ·rw [decide_eq_false (by omega)];rfl
 ·rw [decide_eq_true h,decide_eq_true h2];rfl
 ·rw [decide_eq_false (p:=n≤32) (by omega),Bool.and_false];rfl
set_option maxRecDepth 100000 in
set_option maxHeartbeats 1600000 in
theorem mR (a b:Option Addr) (la lb:List Edt) (c d:Nat) (w:World) (ha:Edts w (·<w.heap.size) a la) (hb:Edts w (·<w.heap.size) b lb) (hl:la.length≤1000000) (hl2:lb.length≤1000000) :
 Calls prog 36 #[stpV a la.length c,stpV b lb.length d] w fun e w'=>e=.returned (.bool (decide (la=lb)))∧Below w.heap.size w w':=by
 have h1:=Stp.new w a la c ha
 have ab:Edts (w.alloc (.cells #[.slice a la.length c] 69)) (·<(w.alloc (.cells #[.slice a la.length c] 69)).heap.size) b lb:=(hb.below (fun _ h=>h) h1.below).more fun b hb=>Nat.lt_of_lt_of_le hb h1.below.size
 have h2:=Stp.new _ b lb d ab
 have h1:=h1.on h2.below
 obtain ⟨wX,hwX⟩:∃ wX,(w.alloc (.cells #[.slice a la.length c] 69)).alloc (.cells #[.slice b lb.length d] 69)=wX:=⟨_,rfl⟩
 have ez:(w.alloc (.cells #[.slice a la.length c] 69)).heap.size=w.heap.size+1:=by simp
 have h3:=h2.size
 have x1:=h2.cell
 rw [hwX] at h1 h3 x1
 rw [ez] at h3 x1
 have x0:=h1.cell
 have hrb:Edts wX (·<wX.heap.size) b lb:=by rw [← hwX];exact h2.row
 by_cases hne:la.length=lb.length
 case neg =>
  have h0:decide (la=lb)=false:=decide_eq_false fun e=>hne (by rw [e])
  rw [h0]
  obtain ⟨n,hn⟩:∃ n,la.length=n:=⟨_,rfl⟩
  obtain ⟨m,hm⟩:∃ n,lb.length=n:=⟨_,rfl⟩
  have HB:=hid h1.below
  rw [hn] at hl hne hwX x0 ⊢
  rw [hm] at hl2 hne hwX x1 ⊢
  clear hn hm ha hb h1 h2 ab hrb ez
  have ah:¬ (n:Int)=(m:Int):=by omega
  go_enter func36,ntmps36
  go_wp2
  go_ret
  exact ⟨rfl,HB.out⟩
 have HE:=hid hne;have aa:=hid h1;have af:=hid hrb;have ag:=hid h3
 rw [← hne] at hwX x1 ⊢
 obtain ⟨n,hn⟩:∃ n,la.length=n:=⟨_,rfl⟩
 have HN:=hid hn
 rw [hn] at hl hwX x0 x1 ⊢
 clear hn ha hb hl2 hne h1 h2 ab hrb ez h3
 obtain ⟨r,hfr⟩:∃ r,decide (la=lb)=r:=⟨_,rfl⟩
 rw [hfr]
 have HF:=hid hfr;clear hfr
 go_enter func36,ntmps36
 go_wp2
 clear hwX
 go_loopw [5] (fun i wr=>∃ k:Nat,k≤n∧i=.int .i64 k∧(∀ j,j<k→la[j]! = lb[j]!)∧Below wX.heap.size wX wr) (fun i _=>n - (intOf i).toNat)
 case atStart=>exact ⟨0,Nat.zero_le _,rfl,fun j hj=>absurd hj (Nat.not_lt_zero _),Below.refl _ _⟩
 case round =>
  obtain ⟨k,hk,rfl,hall,hbel⟩:=hrel
  have y0:=(hbel.cell (p:=⟨w.heap.size,0,none⟩) aa.out.size).trans x0
  have y1:=(hbel.cell (p:=⟨w.heap.size+1,0,none⟩) ag.out).trans x1
  by_cases hlt:k<n
  ·have hkl:k<la.length:=by rw [HN.out];exact hlt
   have ae:k<lb.length:=by rw [← HE.out];exact hkl
   obtain ⟨ad,rfl,hab,q0,q1,q2⟩:=(aa.out.row.below (fun _ h=>h) hbel).at k hkl
   obtain ⟨bd,rfl,hbb,r0,r1,r2⟩:=(af.out.below (fun _ h=>h) hbel).at k ae
   have hyes:=BD (a:=la) (b:=lb) hall
   have hno:¬ la[k]! = lb[k]! → decide (la=lb)=false:=fun h=>decide_eq_false fun e=>h (by rw [e])
   obtain ⟨x,hx⟩:∃ x,la[k]! = x:=⟨_,rfl⟩
   obtain ⟨y,hy⟩:∃ x,lb[k]! = x:=⟨_,rfl⟩
   rw [hx] at q0 q1 q2 hyes hno
   rw [hy] at r0 r1 r2 hyes hno
   have b0:(0:Int)≤(k:Int):=by omega
   have b1:(k:Int)<(n:Int):=by omega
   clear hall hx hy hab hbb
   by_cases he:x=y
   ·subst he
    have HY:=hid (hyes rfl)
    obtain ⟨p,o,m⟩:=x
    simp only at q0 q1 q2 r0 r1 r2
    clear hyes hno
    go_wp2_with fail
    go_quiet (fail)
    have ac:=aB hbel nq
    clear hbel q0 q1 q2 r0 r1 r2 y0 y1
    generalize wr.drewN nq=wx at ac ⊢
    go_wp2
    go_roundw
    case rel=>exact ⟨k+1,by omega,by go_num,HY.out,ac⟩
    case measure=>simp [intOf];omega
   ·have h0:=hno he
    rw [HF.out] at h0
    subst h0
    have hp:=QG he
    have HB:=hid (aa.out.below.trans (hbel.mono aa.out.below.size))
    obtain ⟨p,o,m⟩:=x
    obtain ⟨p2,o2,m2⟩:=y
    simp only at q0 q1 q2 r0 r1 r2 hp
    clear hyes hno he hbel
    rcases hp with g|⟨rfl,g⟩|⟨rfl,rfl,g⟩
    ·have g1:(p == p2)=false:=beq_eq_false_iff_ne.2 g
     go_wp2_with fail
     go_quiet (fail)
     go_wp2
     go_ret
     exact ⟨rfl,aB HB.out _⟩
    ·have g1:=dC g
     clear g
     go_wp2_with fail
     go_quiet (fail)
     go_wp2
     go_ret
     exact ⟨rfl,aB HB.out _⟩
    ·have g1:=dC g
     clear g
     go_wp2_with fail
     go_quiet (fail)
     go_wp2
     go_ret
     exact ⟨rfl,aB HB.out _⟩
  ·obtain rfl:k=n:=by omega
   have h0:r=true:=by
    rw [← HF.out]
    exact decide_eq_true (EX HE.out (by rw [HN.out];exact hall))
   subst h0
   have HB:=hid (aa.out.below.trans (hbel.mono aa.out.below.size))
   clear hall hbel
   go_wp2
   go_ret
   exact ⟨rfl,HB.out⟩
theorem zI {wX wr w1:World} {o:Obj} (h:Below wX.heap.size wX wr) (hb:Below (wr.alloc o).heap.size (wr.alloc o) w1):Below wX.heap.size wX w1:=(h.alloc h.size o).trans (hb.mono (by have:=h.size;simp;omega))
set_option maxRecDepth 100000 in
set_option maxHeartbeats 1600000 in
theorem gK (t:ByteArray) (a:Option Addr) (l:List Edt) (c:Nat) (w:World) (hr:Edts w (·<w.heap.size) a l) (ht:t.size≤140737488355328) (hl:l.length≤1000000) (hf:Edtz l 140737488355328) :
 Calls prog 90 #[.string t,stpV a l.length c] w fun e w'=>e=.returned (appV (runE t l))∧Below w.heap.size w w':=by
 have hst:=Stp.new w a l c hr
 obtain ⟨n,hn⟩:∃ n,l.length=n:=⟨_,rfl⟩
 obtain ⟨⟨rt,re⟩,hR⟩:∃ R,runE t l=R:=⟨_,rfl⟩
 rw [hR]
 obtain ⟨wX,hwX⟩:∃ wX,w.alloc (.cells #[.slice a l.length c] 69)=wX:=⟨_,rfl⟩
 rw [hwX] at hst
 have aa:=hid hst;have HN:=hid hn;have HF:=hid hf
 have x0:=hst.cell
 have ae:runE t (l.drop 0)=(rt,re):=hR
 rw [hn] at hl hwX x0 ⊢
 have HD:=hid ae
 clear hst hr hn hf hR ae
 go_enter func90,ntmps90
 go_wp2
 clear hwX
 go_loopw [0,13] (fun tv i wr=>∃ (k:Nat) (s:ByteArray),k≤n∧i=.int .i64 k∧tv=.string s∧s.size≤140737488355328∧runE s (l.drop k)=(rt,re)∧Below wX.heap.size wX wr) (fun _ i _=>n - (intOf i).toNat)
 case atStart=>exact ⟨0,t,Nat.zero_le _,rfl,rfl,ht,HD.out,Below.refl _ _⟩
 case round =>
  obtain ⟨k,s,hk,rfl,rfl,hs,hrun,hbel⟩:=hrel
  have y0:=(hbel.cell (p:=⟨w.heap.size,0,none⟩) aa.out.size).trans x0
  by_cases hlt:k<n
  ·have hkl:k<l.length:=by rw [HN.out];exact hlt
   obtain ⟨ad,rfl,hab,q0,q1,q2⟩:=(aa.out.row.below (fun _ h=>h) hbel).at k hkl
   obtain ⟨z1,z2⟩:=HF.out.at k hkl
   rw [edrop l k hkl] at hrun
   obtain ⟨x,hx⟩:∃ x,l[k]! = x:=⟨_,rfl⟩
   rw [hx] at q0 q1 q2 z1 z2 hrun
   obtain ⟨p,o,m⟩:=x
   simp only at q0 q1 q2 z1 z2
   have ca:=ES s o m hs z1 z2 p
   obtain ⟨⟨u,e⟩,hu⟩:∃ y,appE s p o m=y:=⟨_,rfl⟩
   rw [hu] at ca
   have CA:=hid ca;have HU:=hid hu;have ac:=hid hrun
   have bz:=Below.size hbel
   have b0:(0:Int)≤(k:Int):=by omega
   have b1:(k:Int)<(n:Int):=by omega
   clear ca hu hrun hx z1 z2 hab
   by_cases he:e=0
   ·subst he
    have af:=hid ((dU HU.out).symm.trans ac.out)
    have HZ:=hid (bT HU.out)
    go_wp2_with fail
    refine (CA.out _).mono ?_;rintro e w1 ⟨rfl,ab⟩
    have HB:=hid (zI hbel ab);clear ab hbel q0 q1 q2
    go_wp2
    go_roundw
    case rel=>exact ⟨k+1,u,by omega,by go_num,rfl,by have:=HZ.out;omega,af.out,HB.out⟩
    case measure=>simp [intOf];omega
   ·have hq:=(fW HU.out he).symm.trans ac.out
    obtain rfl:(⟨#[]⟩:ByteArray)=rt:=congrArg Prod.fst hq
    obtain rfl:e=re:=congrArg Prod.snd hq
    go_wp2_with fail
    refine (CA.out _).mono ?_;rintro e w1 ⟨rfl,ab⟩
    have HB:=hid (aa.out.below.trans ((zI hbel ab).mono aa.out.below.size));clear ab hbel q0 q1 q2
    go_wp2
    go_ret2
    exact ⟨rfl,HB.out⟩
  ·obtain rfl:k=n:=by omega
   rw [List.drop_eq_nil_of_le (by rw [HN.out];exact Nat.le_refl _),dG] at hrun
   obtain rfl:s=rt:=congrArg Prod.fst hrun
   obtain rfl:0=re:=congrArg Prod.snd hrun
   have HB:=hid (aa.out.below.trans (hbel.mono aa.out.below.size))
   clear hrun hbel
   go_wp2
   go_ret2
   exact ⟨rfl,HB.out⟩
set_option maxRecDepth 100000 in
set_option maxHeartbeats 1600000 in
theorem oU (t:ByteArray) (a:Option Addr) (l:List Edt) (c:Nat) (w:World) (hr:Edts w (·<w.heap.size) a l) (ht:t.size≤140737488355328) (hl:l.length≤1000000) (hf:Edtz l 140737488355328) :
 Calls prog 89 #[.string t,stpV a l.length c] w fun e w'=>e=.returned (.bool (rightS t l))∧Below w.heap.size w w':=by
 have hst:=Stp.new w a l c hr
 have cr:=gK t a l c _ hst.row ht hl hf
 obtain ⟨wX,hwX⟩:∃ wX,w.alloc (.cells #[.slice a l.length c] 69)=wX:=⟨_,rfl⟩
 rw [hwX] at hst cr
 have x0:=hst.cell
 have r1:=AQ (t:=t) (l:=l)
 have r2:=xJ (t:=t) (l:=l)
 have r3:=BQ (t:=t) (l:=l)
 obtain ⟨⟨rt,re⟩,hR⟩:∃ R,runE t l=R:=⟨_,rfl⟩
 rw [hR] at cr r3
 obtain ⟨r,hrr⟩:∃ r,rightS t l=r:=⟨_,rfl⟩
 rw [hrr] at r1 r2 r3 ⊢
 obtain ⟨n,hn⟩:∃ n,l.length=n:=⟨_,rfl⟩
 have aa:=hid hst
 rw [hn] at hl hwX x0 cr r1 r2 r3 ⊢
 have CR:=hid cr
 clear hst hr hn hf hR cr hrr
 rcases (show n<1∨(1≤n∧n≤32)∨32<n by omega) with h|⟨h,h2⟩|h
 ·obtain rfl:=r1 h
  clear r1 r2 r3
  go_enter func89,ntmps89
  go_wp2
  go_ret
  exact ⟨rfl,aa.out.below⟩
 ·obtain rfl:=r3 h h2
  clear r1 r2 r3
  go_enter func89,ntmps89
  go_wp2_with fail
  refine CR.out.mono ?_;rintro e w1 ⟨rfl,ab⟩
  have HB:=hid (aa.out.below.trans (ab.mono aa.out.below.size));clear ab
  go_wp2
  go_ret
  exact ⟨rfl,HB.out⟩
 ·obtain rfl:=r2 h
  clear r1 r2 r3
  go_enter func89,ntmps89
  go_wp2
  go_ret
  exact ⟨rfl,aa.out.below⟩
end Go.Proofs.YtfiobemeogaaiaaGreat
