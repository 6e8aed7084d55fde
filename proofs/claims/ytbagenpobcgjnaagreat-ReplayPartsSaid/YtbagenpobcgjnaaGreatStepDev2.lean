/-
  StepDev2
-/
import Derived.Test.YtbagenpobcgjnaaGreatJStepRef
import Derived.Test.YtbagenpobcgjnaaGreatJEditDev
import Derived.Test.YtbagenpobcgjnaaGreatJStepMath
namespace Go.Proofs.YtbagenpobcgjnaaGreat
open Go.Proofs.Tryz
set_option maxRecDepth 100000
open Lib (hid)
open Go.RowKit
set_option linter.unusedVariables false
def RetStp (w:World) (l:List Edt) (e:Ending) (w':World):Prop:=∃ a c,e=.returned (stpV a l.length c)∧ERow w' w.heap.size ⟨a,l,c⟩∧Below w.heap.size w w'
def RetAdd (w:World) (r:List Edt×Int) (e:Ending) (w':World):Prop:=∃ a c,e=.returned (.tuple #[stpV a r.1.length c,.int .i64 r.2])∧ERow w' w.heap.size ⟨a,r.1,c⟩∧Below w.heap.size w w'
theorem ERow.empty (w:World) (base:Nat):ERow w base ⟨none,[],0⟩:=⟨fun k hk=>absurd hk (by simp),fun _=>rfl,Nat.le_refl _,Nat.zero_le _⟩
theorem ERow.set {w:World} {base:Nat} {x:EPc} (h:ERow w base x) {p:Addr} (hp:p.block<base) (u:Value):ERow (w.setCell p u) base x:=
 ⟨(h.row.keep fun q hq=>World.cell?_setCell_other _ _ _ _ (fun e=>by rw [← e] at hq;have:=hq.1;omega)).more fun b hb=>by simpa using hb,h.nil,h.le,h.cap⟩
theorem cK {w w':World} {base:Nat} {e:TypeId} {size:Nat} {v:Value} {n:Nat} {xs:List Value} (h:w.ownsRow base e size v n xs) (hb:Below w.heap.size w w'):w'.ownsRow base e size v n xs:=by
 refine ⟨h.1,?_⟩
 rcases h.2 with h2|⟨g,cap,cur,hv,aa,hg,hr⟩
 ·exact .inl h2
 ·exact .inr ⟨g,cap,cur,hv,aa,(hb.block g (by rcases Nat.lt_or_ge g w.heap.size with h' | h';exact h';rw [Array.getElem?_eq_none h'] at hg;cases hg)).trans hg,hr⟩
set_option maxHeartbeats 1600000 in
theorem mT (a:Option Addr) (l:List Edt) (c:Nat) (x:Edt) (w:World) (hp:EPcs w ⟨a,l,c⟩) (hl:l.length≤100000) :
 Calls prog 176 #[stpV a l.length c,x.v] w (RetAdd w (addS l x)):=by
 obtain ⟨p,o,m⟩:=x
 obtain ⟨W1,aa⟩:∃ W1,w.alloc (.cells #[.slice a l.length c] 54)=W1:=⟨_,rfl⟩
 obtain ⟨W2,ad⟩:∃ W2,W1.alloc (.cells #[.int .i64 p,.string o,.string m] 92)=W2:=⟨_,rfl⟩
 obtain ⟨wX,hwX⟩:∃ wX,W2.alloc (.cells #[.slice none 0 0] 54)=wX:=⟨_,rfl⟩
 have b1:Below w.heap.size w W1:=by rw [← aa];exact (Below.refl _ _).alloc (Nat.le_refl _) _
 have z1:W1.heap.size=w.heap.size+1:=by rw [← aa];simp
 have z2:W2.heap.size=w.heap.size+2:=by rw [← ad];simp [z1]
 have z3:wX.heap.size=w.heap.size+3:=by rw [← hwX];simp [z2]
 have c2:Below W1.heap.size W1 W2:=by rw [← ad];exact (Below.refl _ _).alloc (Nat.le_refl _) _
 have c3:Below W2.heap.size W2 wX:=by rw [← hwX];exact (Below.refl _ _).alloc (Nat.le_refl _) _
 have B1:Blk W1 w.heap.size #[.slice a l.length c] 54:=by rw [← aa];exact Blk.new _ _ _
 have B2:Blk W2 W1.heap.size #[.int .i64 p,.string o,.string m] 92:=by rw [← ad];exact Blk.new _ _ _
 have B3:Blk wX W2.heap.size #[.slice none 0 0] 54:=by rw [← hwX];exact Blk.new _ _ _
 have B1:Blk wX w.heap.size #[.slice a l.length c] 54:=(B1.onto c2).onto c3
 have B2:Blk wX W1.heap.size #[.int .i64 p,.string o,.string m] 92:=B2.onto c3
 have ab:Below w.heap.size w wX:=b1.trans ((c2.mono (by omega)).trans (c3.mono (by omega)))
 have x0:=B1.cell 0 _ rfl
 have x1:=B2.cell 0 _ rfl
 have x2:=B2.cell 1 _ rfl
 have x3:=B2.cell 2 _ rfl
 have x4:=B3.cell 0 _ rfl
 have x5:=B3.free 0
 have hpX:EPcs wX ⟨a,l,c⟩:=hp.later ab
 by_cases hm:32≤l.length
 ·have e:addS l ⟨p,o,m⟩=([],9):=by unfold addS;rw [if_pos hm]
  rw [e]
  obtain ⟨n,hn⟩:∃ n,l.length=n:=⟨_,rfl⟩
  rw [hn] at hm x0 aa ⊢
  have HB:=hid (ab.setCell (p:=⟨W2.heap.size,0,none⟩) (by show w.heap.size≤W2.heap.size;omega) (.slice none 0 0))
  have ai:(32:Int)≤(n:Int):=by omega
  clear hn hp hpX ab B1 B2 B3 c2 c3 b1 e hl z1 z2 z3
  show Calls prog 176 #[.agg #[.slice a n c],.agg #[.int .i64 p,.string o,.string m]] w _
  go_enter func176,ntmps176
  go_wp2
  refine bodyPost_ret (v:=.tuple #[stpV none 0 0,.int .i64 9]) (by simp [results,results176,go_sem,x4]) rfl ?_
  exact ⟨none,0,rfl,ERow.empty _ _,HB.out⟩
 ·have e:addS l ⟨p,o,m⟩=(l++[⟨p,o,m⟩],0):=by unfold addS;rw [if_neg hm]
  rw [e]
  obtain ⟨W,hW⟩:∃ W,wX.alloc (.cells #[.int .i64 p,.string o,.string m] 92)=W:=⟨_,rfl⟩
  have z4:W.heap.size=wX.heap.size+1:=by rw [← hW];simp
  have c4:Below wX.heap.size wX W:=by rw [← hW];exact (Below.refl _ _).alloc (Nat.le_refl _) _
  have B4:Blk W wX.heap.size #[.int .i64 p,.string o,.string m] 92:=by rw [← hW];exact Blk.new _ _ _
  have hq:EPcs W ⟨some ⟨wX.heap.size,0,none⟩,[⟨p,o,m⟩],1⟩:=⟨fun k hk=>by
   match k,hk with
   | 0,_=>exact ⟨_,rfl,by show wX.heap.size<W.heap.size;omega,B4.cell 0 _ rfl,B4.cell 1 _ rfl,B4.cell 2 _ rfl⟩,fun e=>by cases e⟩
  obtain ⟨n,hn⟩:∃ n,l.length=n:=⟨_,rfl⟩
  have hlen:(l++[(⟨p,o,m⟩:Edt)]).length=n+1:=by rw [List.length_append,hn];rfl
  have cc:=ecat2 n 1 (hpX.later c4) hq hn rfl (by omega) 24
  simp only at cc
  obtain ⟨L,hL⟩:∃ L,l++[(⟨p,o,m⟩:Edt)]=L:=⟨_,rfl⟩
  rw [hL] at cc hlen ⊢
  have hd:∀ w',Below (W.alloc (.cells #[.slice a n c,.slice (some ⟨wX.heap.size,0,none⟩) 1 1] 24)).heap.size (W.alloc (.cells #[.slice a n c,.slice (some ⟨wX.heap.size,0,none⟩) 1 1] 24)) w'→Below wX.heap.size wX w':=fun w' h=>(c4.alloc (by omega) _).trans (h.mono (by simp;omega))
  rw [hn] at hm x0 aa ⊢
  have ak:=hid hlen;have CC:=hid cc;have ae:=hid ab;have al:=hid B3;have HD:=hid hd;have af:=hid (show W2.heap.size<wX.heap.size by omega);have aj:=hid (show w.heap.size≤W2.heap.size by omega);have Z4:=hid z4
  have ai:(n:Int)<32:=by omega
  clear hn hp hpX ab B1 B2 B3 B4 c2 c3 c4 b1 e hl hlen cc hq hd z1 z2 z3 z4 hL
  show Calls prog 176 #[.agg #[.slice a n c],.agg #[.int .i64 p,.string o,.string m]] w _
  go_enter func176,ntmps176
  go_wp2_with fail
  refine CC.out.mono ?_
  rintro e w4 ⟨a4,c4,rfl,hrow,hbel⟩
  have ac:=HD.out _ hbel
  have q0:=(ac.cell (p:=⟨W2.heap.size,0,none⟩) af.out).trans x4
  have q1:=(ac.frozen (p:=⟨W2.heap.size,0,none⟩) af.out).trans x5
  have ag:=hid ((ae.out.trans (ac.mono ae.out.size)).setCell (p:=⟨W2.heap.size,0,none⟩) aj.out (.slice a4 L.length c4))
  have ah:=hid ((hrow.set (p:=⟨W2.heap.size,0,none⟩) (by have:=af.out;have:=Z4.out;show W2.heap.size<_;simp;omega) (.slice a4 L.length c4)).mono (b2:=w.heap.size) (by have:=ae.out.size;have:=Z4.out;simp;omega))
  clear hbel ac hrow
  go_wp2
  refine bodyPost_ret (v:=.tuple #[stpV a4 L.length c4,.int .i64 0]) (by simp [results,results176,go_sem,q0]) rfl ?_
  exact ⟨a4,c4,rfl,ah.out,ag.out⟩
set_option maxHeartbeats 1600000 in
theorem mX (a:Option Addr) (l:List Edt) (c:Nat) (w:World) (hr:Edts w (·<w.heap.size) a l) (hl:l.length≤100000) :
 Calls prog 87 #[stpV a l.length c] w (RetStp w (invL l)):=by
 obtain ⟨i0,hi,ag,ah,ai⟩:=info_parts jA
 obtain ⟨W1,ab⟩:∃ W1,w.alloc (.cells #[.slice a l.length c] 54)=W1:=⟨_,rfl⟩
 obtain ⟨wX,hwX⟩:∃ wX,W1.alloc (.cells #[.slice none 0 0] 54)=wX:=⟨_,rfl⟩
 have hst:=Stp.new w a l c hr
 rw [ab] at hst
 have c2:Below W1.heap.size W1 wX:=by rw [← hwX];exact (Below.refl _ _).alloc (Nat.le_refl _) _
 have z1:W1.heap.size=w.heap.size+1:=by rw [← ab];simp
 have z2:wX.heap.size=w.heap.size+2:=by rw [← hwX];simp [z1]
 have B3:Blk wX W1.heap.size #[.slice none 0 0] 54:=by rw [← hwX];exact Blk.new _ _ _
 have hst:=hst.on c2
 have x0:=hst.cell
 have x4:=B3.cell 0 _ rfl
 have x5:=B3.free 0
 obtain ⟨n,hn⟩:∃ n,l.length=n:=⟨_,rfl⟩
 obtain ⟨wM,hrun,hown,hgrow⟩:=run_make_full (P:=prog) wX wX.heap.size 24 92 i0 _ 3 underlying24 hi ag ah .i64 .i64 n (by rw [ai];omega) (by unfold maxLen;omega) (Nat.le_refl _)
 have hbM:Below wX.heap.size wX wM:=(Below.refl _ _).grown hgrow (Nat.le_refl _) (fun k hk=>by cases hk)
 have hown:wM.ownsRow wX.heap.size 92 3 (.slice (some ⟨wX.heap.size,0,none⟩) n n) n (Edt.flat (mixE l 0)):=by
  have e:mixE l 0=List.replicate n nilE:=by unfold mixE;rw [List.take_zero,List.nil_append,hn,Nat.sub_zero]
  rw [e,← emade]
  exact hown
 obtain ⟨g,hg⟩:∃ g,wX.heap.size=g:=⟨_,rfl⟩
 rw [hn] at hl ab x0 ⊢
 have HG:=hid hg;have ac:=hid hst;have HN:=hid hn;have ak:=hid hown;have ao:=hid hbM
 have ae:=hid (show W1.heap.size<wX.heap.size by omega);have aj:=hid (show w.heap.size≤W1.heap.size by omega)
 rw [hg] at hrun
 clear hst c2 z1 z2 B3 hr hn hown hgrow hbM hg hi ag ah ai
 go_enter func87,ntmps87
 go_wp2
 clear ab hwX hrun
 go_loopw [12] (fun i wr=>∃ k:Nat,k≤n∧i=.int .i64 k∧wr.ownsRow wX.heap.size 92 3 (.slice (some ⟨g,0,none⟩) n n) n (Edt.flat (mixE l k))∧Below wX.heap.size wX wr) (fun i _=>n - (intOf i).toNat)
 case atStart=>exact ⟨0,Nat.zero_le _,rfl,by rw [← HG.out];exact ak.out,ao.out⟩
 case round =>
  obtain ⟨k,hk,rfl,hown,hbel⟩:=hrel
  have y0:=(hbel.cell (p:=⟨w.heap.size,0,none⟩) ac.out.size).trans x0
  by_cases hlt:k<n
  ·have hkl:k<l.length:=by rw [HN.out];exact hlt
   obtain ⟨j,hj⟩:∃ j,n - 1 - k=j:=⟨_,rfl⟩
   have hjl:j<l.length:=by rw [HN.out];omega
   have hs:=DP l k hkl
   rw [HN.out,hj] at hs
   obtain ⟨ad,rfl,hab,q0,q1,q2⟩:=(ac.out.row.below (fun _ h=>h) hbel).at j hjl
   have hml:=JS l k (Nat.le_of_lt hkl)
   have hset:=CZ (mixE l k) k (l[j]!).back (by rw [hml];exact hkl)
   rw [← hs] at hset
   obtain ⟨x,hx⟩:∃ x,l[j]! = x:=⟨_,rfl⟩
   rw [hx] at q0 q1 q2 hset
   obtain ⟨p,o,m⟩:=x
   simp only [Edt.back] at q0 q1 q2 hset
   have ci:=vY p o m
   have HS:=hid hset;have CI:=hid ci;have aq:=hid hml;have HO:=hid hown
   have b0:(0:Int)≤(k:Int):=by omega
   have b1:(k:Int)<(n:Int):=by omega
   have b2:(n:Int) - 1 - (k:Int)=(j:Int):=by omega
   have b3:(j:Int)<(n:Int):=by omega
   have b4:(0:Int)≤(j:Int):=by omega
   clear hset ci hml hs hx hab hj hown
   go_wp2_with fail
   refine (CI.out _).mono ?_;rintro e w3 ⟨rfl,af⟩
   have aa:=hid (cK HO.out af)
   have ar:=hid (hbel.trans (af.mono hbel.size))
   have f0:=aa.out.frozenAt (k * 3)
   have f1:=aa.out.frozenAt (k * 3+1)
   have f2:=aa.out.frozenAt (k * 3+2)
   obtain ⟨g0,g1,g2⟩:=Edt.flat_get (mixE l k) k (by rw [aq.out];exact hkl)
   have q3:=(aa.out.cellAt (k * 3) (by omega)).trans g0
   have q4:=(aa.out.cellAt (k * 3+1) (by omega)).trans g1
   have q5:=(aa.out.cellAt (k * 3+2) (by omega)).trans g2
   clear g0 g1 g2 af hbel q0 q1 q2 y0
   have au:=hid (((aa.out.stored (k * 3) (.int .i64 p)).1.stored (k * 3+1) (.string m)).1.stored (k * 3+2) (.string o)).1
   have av:=hid (((ar.out.setCell (p:=⟨g,k * 3,none⟩) (Nat.le_of_eq HG.out) (.int .i64 p)).setCell (p:=⟨g,k * 3+1,none⟩) (Nat.le_of_eq HG.out) (.string m)).setCell (p:=⟨g,k * 3+2,none⟩) (Nat.le_of_eq HG.out) (.string o))
   go_wp2
   go_roundw
   case rel=>exact ⟨k+1,by omega,by go_num,by rw [← HS.out];exact au.out,av.out⟩
   case measure=>simp [intOf];omega
  ·obtain rfl:k=n:=by omega
   have hlen:(invL l).length=k:=by rw [aF,HN.out]
   have e:mixE l k=invL l:=by rw [← HN.out];exact IJ l
   rw [e] at hown
   rw [← hlen] at hown
   obtain ⟨a4,c4,ev,hrow⟩:=eG hown
   rw [hlen] at ev
   injection ev with e1 e2 e3
   subst e1
   subst e3
   have x4:=(hbel.cell (p:=⟨W1.heap.size,0,none⟩) ae.out).trans x4
   have x5:=(hbel.frozen (p:=⟨W1.heap.size,0,none⟩) ae.out).trans x5
   have al:=hid ((ac.out.below.trans (hbel.mono ac.out.below.size)).setCell (p:=⟨W1.heap.size,0,none⟩) aj.out (.slice (some ⟨g,0,none⟩) k k))
   have am:=hid ((hrow.set (p:=⟨W1.heap.size,0,none⟩) ae.out (.slice (some ⟨g,0,none⟩) k k)).mono (b2:=w.heap.size) (Nat.le_trans aj.out (Nat.le_of_lt ae.out)))
   have an:=hid hlen
   clear hrow hown hbel hlen e
   go_wp2
   refine bodyPost_ret (v:=stpV (some ⟨g,0,none⟩) k k) (by simp [results,results87,go_sem,x4]) rfl ?_
   exact ⟨_,k,by rw [an.out],am.out,al.out⟩
end Go.Proofs.YtbagenpobcgjnaaGreat
