/-
  Joined: StepRef, StepDev.
-/
import Derived.Test.YtbagenpobcgjnaaGreatJStepMath
import Derived.Test.YtbagenpobcgjnaaGreatJEditDev
namespace Go.Proofs.YtbagenpobcgjnaaGreat
open Go.Proofs.Tryz
set_option maxRecDepth 100000
open Lib (hid)
open Go.RowKit
set_option linter.unusedVariables false
abbrev stpV (a:Option Addr) (n c:Nat):Value:=.agg #[.slice a n c]
structure Stp (w:World) (a:Option Addr) (l:List Edt) (c:Nat) (wX:World):Prop where
 below:Below w.heap.size w wX
 size:w.heap.size<wX.heap.size
 cell:wX.cell? ⟨w.heap.size,0,none⟩=some (.slice a l.length c)
 row:Edts wX (·<wX.heap.size) a l
theorem Stp.new (w:World) (a:Option Addr) (l:List Edt) (c:Nat) (h:Edts w (·<w.heap.size) a l):Stp w a l c (w.alloc (.cells #[.slice a l.length c] 54)):=by
 have aa:Below w.heap.size w (w.alloc (.cells #[.slice a l.length c] 54)):=(Below.refl _ _).alloc (Nat.le_refl _) _
 exact ⟨aa,by simp,by simp [World.cell?_alloc_new],(h.below (fun _ h=>h) aa).more fun b hb=>Nat.lt_of_lt_of_le hb aa.size⟩
theorem Stp.on {w wX w2:World} {a:Option Addr} {l:List Edt} {c:Nat} (h:Stp w a l c wX) (hb:Below wX.heap.size wX w2):Stp w a l c w2:=
 ⟨h.below.trans (hb.mono h.below.size),Nat.lt_of_lt_of_le h.size hb.size,(hb.cell (p:=⟨w.heap.size,0,none⟩) h.size).trans h.cell,(h.row.below (fun _ h=>h) hb).more fun b aa=>Nat.lt_of_lt_of_le aa hb.size⟩
theorem Edts.at {w:World} {B:Nat→Prop} {a:Option Addr} {l:List Edt} (h:Edts w B a l) (k:Nat) (hk:k<l.length):∃ ad,a=some ad∧B ad.block∧w.cell? (ad.add (k * 3))=some (.int .i64 (l[k]!).p)∧w.cell? ⟨(ad.add (k * 3)).block,(ad.add (k * 3)).off+1,none⟩=some (.string (l[k]!).o)∧w.cell? ⟨(ad.add (k * 3)).block,(ad.add (k * 3)).off+2,none⟩=some (.string (l[k]!).n):=by
 rw [eget hk]
 exact h k hk
def Edtz (l:List Edt) (b:Nat):Prop:=∀ x∈l,x.o.size≤b∧x.n.size≤b
theorem Edtz.at {l:List Edt} {b:Nat} (h:Edtz l b) (k:Nat) (hk:k<l.length):(l[k]!).o.size≤b∧(l[k]!).n.size≤b:=by rw [eget hk];exact h _ (List.getElem_mem hk)
set_option maxHeartbeats 1600000 in
theorem mJ (a b:Option Addr) (la lb:List Edt) (c d:Nat) (w:World) (ha:Edts w (·<w.heap.size) a la) (hb:Edts w (·<w.heap.size) b lb) (hl:la.length≤1000000) (hl2:lb.length≤1000000) :
 Calls prog 25 #[stpV a la.length c,stpV b lb.length d] w fun e w'=>e=.returned (.bool (decide (la=lb)))∧Below w.heap.size w w':=by
 have h1:=Stp.new w a la c ha
 have ab:Edts (w.alloc (.cells #[.slice a la.length c] 54)) (·<(w.alloc (.cells #[.slice a la.length c] 54)).heap.size) b lb:=(hb.below (fun _ h=>h) h1.below).more fun b hb=>Nat.lt_of_lt_of_le hb h1.below.size
 have h2:=Stp.new _ b lb d ab
 have h1:=h1.on h2.below
 obtain ⟨wX,hwX⟩:∃ wX,(w.alloc (.cells #[.slice a la.length c] 54)).alloc (.cells #[.slice b lb.length d] 54)=wX:=⟨_,rfl⟩
 have ez:(w.alloc (.cells #[.slice a la.length c] 54)).heap.size=w.heap.size+1:=by simp
 have h3:=h2.size
 have x1:=h2.cell
 rw [hwX] at h1 h3 x1
 rw [ez] at h3 x1
 have x0:=h1.cell
 have hrb:Edts wX (·<wX.heap.size) b lb:=by rw [← hwX];exact h2.row
 by_cases hne:la.length=lb.length
 case neg =>
  have h0:decide (la=lb)=false:=decide_eq_false fun e=>hne (by rw [e])
  rw [h0]
  obtain ⟨n,hn⟩:∃ n,la.length=n:=⟨_,rfl⟩
  obtain ⟨m,hm⟩:∃ n,lb.length=n:=⟨_,rfl⟩
  have HB:=hid h1.below
  rw [hn] at hl hne hwX x0 ⊢
  rw [hm] at hl2 hne hwX x1 ⊢
  clear hn hm ha hb h1 h2 ab hrb ez
  have ah:¬ (n:Int)=(m:Int):=by omega
  go_enter func25,ntmps25
  go_wp2
  go_ret
  exact ⟨rfl,HB.out⟩
 have HE:=hid hne;have aa:=hid h1;have af:=hid hrb;have ag:=hid h3
 rw [← hne] at hwX x1 ⊢
 obtain ⟨n,hn⟩:∃ n,la.length=n:=⟨_,rfl⟩
 have HN:=hid hn
 rw [hn] at hl hwX x0 x1 ⊢
 clear hn ha hb hl2 hne h1 h2 ab hrb ez h3
 obtain ⟨r,hfr⟩:∃ r,decide (la=lb)=r:=⟨_,rfl⟩
 rw [hfr]
 have HF:=hid hfr;clear hfr
 go_enter func25,ntmps25
 go_wp2
 clear hwX
 go_loopw [5] (fun i wr=>∃ k:Nat,k≤n∧i=.int .i64 k∧(∀ j,j<k→la[j]! = lb[j]!)∧Below wX.heap.size wX wr) (fun i _=>n - (intOf i).toNat)
 case atStart=>exact ⟨0,Nat.zero_le _,rfl,fun j hj=>absurd hj (Nat.not_lt_zero _),Below.refl _ _⟩
 case round =>
  obtain ⟨k,hk,rfl,hall,hbel⟩:=hrel
  have y0:=(hbel.cell (p:=⟨w.heap.size,0,none⟩) aa.out.size).trans x0
  have y1:=(hbel.cell (p:=⟨w.heap.size+1,0,none⟩) ag.out).trans x1
  by_cases hlt:k<n
  ·have hkl:k<la.length:=by rw [HN.out];exact hlt
   have ae:k<lb.length:=by rw [← HE.out];exact hkl
   obtain ⟨ad,rfl,hab,q0,q1,q2⟩:=(aa.out.row.below (fun _ h=>h) hbel).at k hkl
   obtain ⟨bd,rfl,hbb,r0,r1,r2⟩:=(af.out.below (fun _ h=>h) hbel).at k ae
   have hyes:=zJ (a:=la) (b:=lb) hall
   have hno:¬ la[k]! = lb[k]! → decide (la=lb)=false:=fun h=>decide_eq_false fun e=>h (by rw [e])
   obtain ⟨x,hx⟩:∃ x,la[k]! = x:=⟨_,rfl⟩
   obtain ⟨y,hy⟩:∃ x,lb[k]! = x:=⟨_,rfl⟩
   rw [hx] at q0 q1 q2 hyes hno
   rw [hy] at r0 r1 r2 hyes hno
   have b0:(0:Int)≤(k:Int):=by omega
   have b1:(k:Int)<(n:Int):=by omega
   clear hall hx hy hab hbb
   by_cases he:x=y
   ·subst he
    have HY:=hid (hyes rfl)
    obtain ⟨p,o,m⟩:=x
    simp only at q0 q1 q2 r0 r1 r2
    clear hyes hno
    go_wp2_with fail
    go_quiet (fail)
    have ac:=aN hbel nq
    clear hbel q0 q1 q2 r0 r1 r2 y0 y1
    generalize wr.drewN nq=wx at ac ⊢
    go_wp2
    go_roundw
    case rel=>exact ⟨k+1,by omega,by go_num,HY.out,ac⟩
    case measure=>simp [intOf];omega
   ·have h0:=hno he
    rw [HF.out] at h0
    subst h0
    have hp:=ON he
    have HB:=hid (aa.out.below.trans (hbel.mono aa.out.below.size))
    obtain ⟨p,o,m⟩:=x
    obtain ⟨p2,o2,m2⟩:=y
    simp only at q0 q1 q2 r0 r1 r2 hp
    clear hyes hno he hbel
    rcases hp with g|⟨rfl,g⟩|⟨rfl,rfl,g⟩
    ·have g1:(p == p2)=false:=beq_eq_false_iff_ne.2 g
     go_wp2_with fail
     go_quiet (fail)
     go_wp2
     go_ret
     exact ⟨rfl,aN HB.out _⟩
    ·have g1:=eT g
     clear g
     go_wp2_with fail
     go_quiet (fail)
     go_wp2
     go_ret
     exact ⟨rfl,aN HB.out _⟩
    ·have g1:=eT g
     clear g
     go_wp2_with fail
     go_quiet (fail)
     go_wp2
     go_ret
     exact ⟨rfl,aN HB.out _⟩
  ·obtain rfl:k=n:=by omega
   have h0:r=true:=by
    rw [← HF.out]
    exact decide_eq_true (GK HE.out (by rw [HN.out];exact hall))
   subst h0
   have HB:=hid (aa.out.below.trans (hbel.mono aa.out.below.size))
   clear hall hbel
   go_wp2
   go_ret
   exact ⟨rfl,HB.out⟩
theorem xQ {wX wr w1:World} {o:Obj} (h:Below wX.heap.size wX wr) (hb:Below (wr.alloc o).heap.size (wr.alloc o) w1):Below wX.heap.size wX w1:=(h.alloc h.size o).trans (hb.mono (by have:=h.size;simp;omega))
set_option maxHeartbeats 1600000 in
theorem fW (t:ByteArray) (a:Option Addr) (l:List Edt) (c:Nat) (w:World) (hr:Edts w (·<w.heap.size) a l) (ht:t.size≤140737488355328) (hl:l.length≤1000000) (hf:Edtz l 140737488355328) :
 Calls prog 89 #[.string t,stpV a l.length c] w fun e w'=>e=.returned (appV (runE t l))∧Below w.heap.size w w':=by
 have hst:=Stp.new w a l c hr
 obtain ⟨n,hn⟩:∃ n,l.length=n:=⟨_,rfl⟩
 obtain ⟨⟨rt,re⟩,hR⟩:∃ R,runE t l=R:=⟨_,rfl⟩
 rw [hR]
 obtain ⟨wX,hwX⟩:∃ wX,w.alloc (.cells #[.slice a l.length c] 54)=wX:=⟨_,rfl⟩
 rw [hwX] at hst
 have aa:=hid hst;have HN:=hid hn;have HF:=hid hf
 have x0:=hst.cell
 have ae:runE t (l.drop 0)=(rt,re):=hR
 rw [hn] at hl hwX x0 ⊢
 have HD:=hid ae
 clear hst hr hn hf hR ae
 go_enter func89,ntmps89
 go_wp2
 clear hwX
 go_loopw [0,13] (fun tv i wr=>∃ (k:Nat) (s:ByteArray),k≤n∧i=.int .i64 k∧tv=.string s∧s.size≤140737488355328∧runE s (l.drop k)=(rt,re)∧Below wX.heap.size wX wr) (fun _ i _=>n - (intOf i).toNat)
 case atStart=>exact ⟨0,t,Nat.zero_le _,rfl,rfl,ht,HD.out,Below.refl _ _⟩
 case round =>
  obtain ⟨k,s,hk,rfl,rfl,hs,hrun,hbel⟩:=hrel
  have y0:=(hbel.cell (p:=⟨w.heap.size,0,none⟩) aa.out.size).trans x0
  by_cases hlt:k<n
  ·have hkl:k<l.length:=by rw [HN.out];exact hlt
   obtain ⟨ad,rfl,hab,q0,q1,q2⟩:=(aa.out.row.below (fun _ h=>h) hbel).at k hkl
   obtain ⟨z1,z2⟩:=HF.out.at k hkl
   rw [edrop l k hkl] at hrun
   obtain ⟨x,hx⟩:∃ x,l[k]! = x:=⟨_,rfl⟩
   rw [hx] at q0 q1 q2 z1 z2 hrun
   obtain ⟨p,o,m⟩:=x
   simp only at q0 q1 q2 z1 z2
   have ca:=DJ s o m hs z1 z2 p
   obtain ⟨⟨u,e⟩,hu⟩:∃ y,appE s p o m=y:=⟨_,rfl⟩
   rw [hu] at ca
   have CA:=hid ca;have HU:=hid hu;have ac:=hid hrun
   have bz:=Below.size hbel
   have b0:(0:Int)≤(k:Int):=by omega
   have b1:(k:Int)<(n:Int):=by omega
   clear ca hu hrun hx z1 z2 hab
   by_cases he:e=0
   ·subst he
    have af:=hid ((dX HU.out).symm.trans ac.out)
    have HZ:=hid (cE HU.out)
    go_wp2_with fail
    refine (CA.out _).mono ?_;rintro e w1 ⟨rfl,ab⟩
    have HB:=hid (xQ hbel ab);clear ab hbel q0 q1 q2
    go_wp2
    go_roundw
    case rel=>exact ⟨k+1,u,by omega,by go_num,rfl,by have:=HZ.out;omega,af.out,HB.out⟩
    case measure=>simp [intOf];omega
   ·have hq:=(hG HU.out he).symm.trans ac.out
    obtain rfl:(⟨#[]⟩:ByteArray)=rt:=congrArg Prod.fst hq
    obtain rfl:e=re:=congrArg Prod.snd hq
    go_wp2_with fail
    refine (CA.out _).mono ?_;rintro e w1 ⟨rfl,ab⟩
    have HB:=hid (aa.out.below.trans ((xQ hbel ab).mono aa.out.below.size));clear ab hbel q0 q1 q2
    go_wp2
    go_ret2
    exact ⟨rfl,HB.out⟩
  ·obtain rfl:k=n:=by omega
   rw [List.drop_eq_nil_of_le (by rw [HN.out];exact Nat.le_refl _),dJ] at hrun
   obtain rfl:s=rt:=congrArg Prod.fst hrun
   obtain rfl:0=re:=congrArg Prod.snd hrun
   have HB:=hid (aa.out.below.trans (hbel.mono aa.out.below.size))
   clear hrun hbel
   go_wp2
   go_ret2
   exact ⟨rfl,HB.out⟩
set_option maxHeartbeats 1600000 in
theorem nU (t:ByteArray) (a:Option Addr) (l:List Edt) (c:Nat) (w:World) (hr:Edts w (·<w.heap.size) a l) (ht:t.size≤140737488355328) (hl:l.length≤1000000) (hf:Edtz l 140737488355328) :
 Calls prog 88 #[.string t,stpV a l.length c] w fun e w'=>e=.returned (.bool (rightS t l))∧Below w.heap.size w w':=by
 have hst:=Stp.new w a l c hr
 have cr:=fW t a l c _ hst.row ht hl hf
 obtain ⟨wX,hwX⟩:∃ wX,w.alloc (.cells #[.slice a l.length c] 54)=wX:=⟨_,rfl⟩
 rw [hwX] at hst cr
 have x0:=hst.cell
 have r1:=BE (t:=t) (l:=l)
 have r2:=vS (t:=t) (l:=l)
 have r3:=AU (t:=t) (l:=l)
 obtain ⟨⟨rt,re⟩,hR⟩:∃ R,runE t l=R:=⟨_,rfl⟩
 rw [hR] at cr r3
 obtain ⟨r,hrr⟩:∃ r,rightS t l=r:=⟨_,rfl⟩
 rw [hrr] at r1 r2 r3 ⊢
 obtain ⟨n,hn⟩:∃ n,l.length=n:=⟨_,rfl⟩
 have aa:=hid hst
 rw [hn] at hl hwX x0 cr r1 r2 r3 ⊢
 have CR:=hid cr
 clear hst hr hn hf hR cr hrr
 rcases (show n<1∨(1≤n∧n≤32)∨32<n by omega) with h|⟨h,h2⟩|h
 ·obtain rfl:=r1 h
  clear r1 r2 r3
  go_enter func88,ntmps88
  go_wp2
  go_ret
  exact ⟨rfl,aa.out.below⟩
 ·obtain rfl:=r3 h h2
  clear r1 r2 r3
  go_enter func88,ntmps88
  go_wp2_with fail
  refine CR.out.mono ?_;rintro e w1 ⟨rfl,ab⟩
  have HB:=hid (aa.out.below.trans (ab.mono aa.out.below.size));clear ab
  go_wp2
  go_ret
  exact ⟨rfl,HB.out⟩
 ·obtain rfl:=r2 h
  clear r1 r2 r3
  go_enter func88,ntmps88
  go_wp2
  go_ret
  exact ⟨rfl,aa.out.below⟩
end Go.Proofs.YtbagenpobcgjnaaGreat
