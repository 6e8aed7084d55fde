/-
  Joined: StkRow, StkMath, StepDev2.
-/
import Derived.Test.YtbagenpobcgjnaaGreatJChunkRef
import Derived.Test.YtbagenpobcgjnaaGreatJStepRef
open Go renaming Addr->zr,Value->zv,World->zn,bodyPost_ret->Ad,maxLen->zy,results->Ae
open Go.RowKit renaming Below->zo
open Go.RowKit.Below renaming refl->zx
open Go.Value renaming int->zt,slice->zm,string->zp
open List renaming length_append->Aq,length_drop->Aa,length_take->Ai,map_append->Ao,mem_map->Ag,sum_append->Ap,take_succ_eq_append_getElem->An
open Nat renaming le_of_eq->Af,le_of_lt->Ar,le_refl->zu,le_trans->Al,lt_of_lt_of_le->Ak,lt_or_ge->Aj,zero_le->zz
variable {base c:Nat} {B:Nat→Prop} {a:Option Go.Addr} {w:Go.World}
namespace Go.Proofs.YtbagenpobcgjnaaGreat
open Go.Proofs.Tryz
open Go.RowKit
set_option linter.unusedVariables false
def nb (l:List mo):List zv:=l.map mo.v
theorem eN (l:List mo):(nb l).length=l.length * 1:=by simp [nb]
theorem lV (a b:List mo):nb (a++b)=nb a++nb b:=by simp [nb]
theorem fZ (l:List mo) (k:Nat) (h:k<l.length):(nb l)[k]? = some (l[k]!).v:=by
 unfold nb;rw [List.getElem?_map,List.getElem?_eq_getElem h,og h];rfl
theorem iZ (l:List mo):∀ u∈nb l,u.oneCell'=true:=fun u hu=>by
 obtain ⟨x,-,rfl⟩:=Ag.1 hu;rfl
theorem aX (a:zr) (k:Nat):(a.add k).block=a.block:=by unfold Addr.add;split <;> rfl
theorem RI (ad:zr) (n k:Nat):(ad.add n).add k=ad.add (n+k):=by
 unfold Addr.add;by_cases hk:k=0
 ·subst hk;simp
 ·by_cases hn:n=0
  ·subst hn;simp [hk]
  ·simp [hk,hn];omega
theorem dL:(prog.info? 54).map (fun i=>(i.zero,i.size,i.bytes))=some (some (.agg #[zm none 0 0]),1,24):=lh
def vj (w:zn) (B:Nat→Prop) (a:Option zr) (l:List mo):Prop:=∀ k,k<l.length→∃ ad,a=some ad∧B ad.block∧w (ad.add k)=some (l[k]!).v
theorem vj.keep {w':zn} {l:List mo} (h:vj w B a l) (hk:∀ p:zr,B p.block→w' p=w p):vj w' B a l:=fun k hl=>by
 obtain ⟨ad,e,hb,q⟩:=h k hl;exact ⟨ad,e,hb,(hk _ (by rw [aX];exact hb)).trans q⟩
theorem vj.below {w':zn} {N:Nat} {l:List mo} (h:vj w B a l) (hN:∀ b,B b→b<N) (hb:zo N w w'):vj w' B a l:=h.keep fun _ hp=>hb.cell (hN _ hp)
theorem vj.more {w:zn} {B B':Nat→Prop} {a:Option zr} {l:List mo} (h:vj w B a l) (hB:∀ b,B b→B' b):vj w B' a l:=fun k hl=>by
 obtain ⟨ad,e,hb,q⟩:=h k hl;exact ⟨ad,e,hB _ hb,q⟩
theorem vj.take {l:List mo} (h:vj w B a l) (n:Nat):vj w B a (l.take n):=fun k hk=>by
 have hk2:k<l.length:=by rw [Ai] at hk;omega
 obtain ⟨ad,e,hb,q⟩:=h k hk2;refine ⟨ad,e,hb,?_⟩;rw [og hk,List.getElem_take,← og hk2];exact q
theorem vj.drop {ad:zr} {l:List mo} (h:vj w B (some ad) l) (n:Nat):vj w B (some (ad.add n)) (l.drop n):=fun k hk=>by
 have hk2:n+k<l.length:=by rw [Aa] at hk;omega
 obtain ⟨ad',e,hb,q⟩:=h (n+k) hk2;obtain rfl:ad=ad':=by injection e
 refine ⟨_,rfl,by rw [aX];exact hb,?_⟩;rw [RI,og hk,List.getElem_drop,← og hk2];exact q
theorem kN {ad:zr} {l:List mo} (h:vj w B (some ad) l):∀ j u,(nb l)[j]? = some u→w (ad.add j)=some u:=fun j u hj=>by
 have hlt:j<l.length:=by
  rcases Aj j l.length with g|g
  ·exact g
  ·rw [List.getElem?_eq_none (by rw [eN];omega)] at hj;cases hj
 obtain ⟨ad',e,-,q⟩:=h j hlt;obtain rfl:ad=ad':=by injection e
 rw [fZ l j hlt] at hj;rw [q];exact hj
def ws (w:zn) (l:List mo):Prop:=∀ x∈l,o0 w x
theorem ws.later {W:zn} {l:List mo} (h:ws w l) (hb:zo w w W):ws W l:=fun x hx=>(h x hx).later hb
theorem ws.at {l:List mo} (h:ws w l) (k:Nat) (hk:k<l.length):o0 w (l[k]!):=by rw [og hk];exact h _ (List.getElem_mem hk)
structure o7 where
 a:Option zr
 l:List mo
 c:Nat
instance :Inhabited o7:=⟨⟨none,[],0⟩⟩
def o7.v (x:o7):zv:=zm x.a x.l.length x.c
structure nz (w:zn) (x:o7):Prop where
 row:vj w (·<w) x.a x.l
 all:ws w x.l
 nil:x.a=none→x.c=0
 le:x.l.length≤x.c
 cap:x.c≤zy
theorem nz.len {x:o7} (h:nz w x) (hn:x.a=none):x.l=[]:=by
 cases hl:x.l with
 | nil=>rfl
 | cons y r =>
  obtain ⟨ad,e,-⟩:=h.row 0 (by rw [hl];simp);rw [hn] at e;cases e
theorem nz.later {W:zn} {x:o7} (h:nz w x) (hb:zo w w W):nz W x:=⟨(h.row.below (fun _ h=>h) hb).more fun b hb2=>Ak hb2 hb.size,h.all.later hb,h.nil,h.le,h.cap⟩
theorem nz.empty (w:zn):nz w ⟨none,[],0⟩:=⟨fun k hk=>absurd hk li,fun x hx=>absurd hx li,fun _=>rfl,zu _,zz _⟩
theorem nz.take {l:List mo} (h:nz w ⟨a,l,c⟩) (n:Nat):nz w ⟨a,l.take n,c⟩:=
 ⟨vj.take h.row n,fun x hx=>h.all x (List.mem_of_mem_take hx),h.nil,by have:=h.le;show (l.take n).length≤c;rw [Ai];have h2:l.length≤c:=this;omega,h.cap⟩
theorem nz.drop {ad:zr} {l:List mo} (h:nz w ⟨some ad,l,c⟩) (n:Nat):nz w ⟨some (ad.add n),l.drop n,c - n⟩:=
 ⟨vj.drop h.row n,fun x hx=>h.all x (List.mem_of_mem_drop hx),fun e=>(by cases e),by have h2:l.length≤c:=h.le;show (l.drop n).length≤c - n;rw [Aa];omega,by have h2:c≤zy:=h.cap;show c - n≤zy;omega⟩
structure sg (w:zn) (base:Nat) (x:o7):Prop where
 row:vj w (fun b=>base≤b∧b<w) x.a x.l
 all:ws w x.l
 nil:x.a=none→x.c=0
 le:x.l.length≤x.c
 cap:x.c≤zy
theorem eG {t:TypeId} {v:zv} {l:List mo} (h:w.ownsRow base t 1 v l.length (nb l)) (ha:ws w l):∃ a c,v=zm a l.length c∧sg w base ⟨a,l,c⟩:=by
 have h2:=h.2;rcases h.2 with ⟨rfl,h0⟩|⟨g,cap,cur,rfl,hgb,hg,hnc,hcm,_⟩
 ·exact ⟨none,0,by rw [h0],fun k hk=>absurd hk (by show ¬ k<l.length;omega),ha,fun _=>rfl,by show l.length≤0;omega,zz _⟩
 ·refine ⟨_,_,rfl,fun k hk=>⟨_,rfl,⟨hgb,(h.lt g rfl).2⟩,?_⟩,ha,fun e=>(by cases e),?_,?_⟩
  ·exact h.cells (g:=g) rfl k _ (fZ l k hk)
  ·show l.length≤cap;omega
  ·show cap≤zy;omega
theorem sg.in {x:o7} (h:sg w base x):nz w x:=⟨h.row.more fun _ hb=>hb.2,h.all,h.nil,h.le,h.cap⟩
theorem sg.below {W:zn} {x:o7} (h:sg w base x) (hb:zo w w W):sg W base x:=
 ⟨(h.row.below (fun _ h=>h.2) hb).more fun _ aa=>⟨aa.1,Ak aa.2 hb.size⟩,h.all.later hb,h.nil,h.le,h.cap⟩
theorem sg.mono {b2:Nat} {x:o7} (h:sg w base x) (hb:b2≤base):sg w b2 x:=⟨h.row.more fun _ hb2=>⟨Al hb hb2.1,hb2.2⟩,h.all,h.nil,h.le,h.cap⟩
theorem o0.set {x:mo} (h:o0 w x) {p:zr} {n:Nat} (hc:w p=some (zm a n c)) (u:zv):o0 (w.setCell p u) x:=
 ⟨(h.row.set hc u).more fun b hb=>by simpa using hb,h.nil⟩
theorem sg.set {x:o7} (h:sg w base x) {p:zr} (hp:p.block<base) {n:Nat} (hc:w p=some (zm a n c)) (u:zv):sg (w.setCell p u) base x:=
 ⟨(h.row.keep fun q hq=>World.cell?_setCell_other _ _ _ _ (fun e=>by rw [← e] at hq;have:=hq.1;omega)).more fun b hb=>by simpa using hb,fun y hy=>(h.all y hy).set hc u,h.nil,h.le,h.cap⟩
def pw (w:zn) (l:List mo) (e:Ending) (w':zn):Prop:=∃ a c,e=.returned (zm a l.length c)∧sg w' w ⟨a,l,c⟩∧zo w w w'
def qd (ps:List o7):Nat:=(ps.map fun x=>x.l.length).sum
def qj (ps:List o7):List mo:=ps.flatMap fun x=>x.l
theorem spget {ps:List o7} {k:Nat} (h:k<ps.length):ps[k]! = ps[k]:=getElem!_pos ps k h
theorem sptake (ps:List o7) (k:Nat) (h:k<ps.length):ps.take (k+1)=ps.take k++[ps[k]!]:=by
 rw [An h,spget h]
theorem gL (ps:List o7) (k:Nat) (h:k<ps.length):qd (ps.take (k+1))=qd (ps.take k)+(ps[k]!).l.length:=by
 unfold qd;rw [sptake ps k h,Ao,Ap];simp
theorem qB (ps:List o7) (k:Nat) (h:k<ps.length):qj (ps.take (k+1))=qj (ps.take k)++(ps[k]!).l:=by
 unfold qj;rw [sptake ps k h,List.flatMap_append];simp
theorem tZ (ps:List o7):(qj ps).length=qd ps:=by
 unfold qj qd;rw [List.length_flatMap]
theorem dS (ps:List o7) (k:Nat):qd (ps.take k)≤qd ps:=by
 have e:=congrArg qd (List.take_append_drop k ps);unfold qd at e ⊢;rw [Ao,Ap] at e;omega
theorem tH {ps:List o7} (h:∀ k,k<ps.length→nz w ps[k]!):ws w (qj ps):=fun x hx=>by
 obtain ⟨p,hp,hx⟩:=List.mem_flatMap.1 hx;obtain ⟨k,hk,rfl⟩:=List.mem_iff_getElem.1 hp;have:=(h k hk).all;rw [spget hk] at this;exact this x hx
def mf (l:List mo):List (List l8):=l.map mo.l
theorem aD (l:List mo):(mf l).length=l.length:=by simp [mf]
theorem fK (a b:List mo):mf (a++b)=mf a++mf b:=by simp [mf]
theorem cO (l:List mo) (k:Nat) (h:k<l.length):(mf l)[k]! = (l[k]!).l:=by
 rw [getElem!_pos (mf l) k (by rw [aD];exact h),og h];simp [mf]
theorem pS (l:List mo) (k:Nat):mf (l.take k)=(mf l).take k:=by simp [mf,List.map_take]
theorem iA (l:List mo) (k:Nat):mf (l.drop k)=(mf l).drop k:=by simp [mf,List.map_drop]
theorem ltake {L:List (List l8)} {k:Nat} (h:k<L.length):L.take (k+1)=L.take k++[L[k]!]:=by
 rw [An h,getElem!_pos L k h]
def np (L:List (List l8)) (s:List l8):List (List l8):=(L++[s]).drop (L.length+1 - 16)
theorem MD (L:List (List l8)) (s:List l8):(np L s).length=min (L.length+1) 16:=by
 unfold np;rw [Aa,Aq];simp;omega
def qi (f:List l8→List l8) (t:ByteArray):List (List l8)→Bool
 | []=>true
 | x::r=>if m9 t (f x)=true then qi f (ms t (f x)).1 r else false
theorem fH {f:List l8→List l8} {t:ByteArray} {x:List l8} {r:List (List l8)} (h:m9 t (f x)=false):qi f t (x::r)=false:=by
 show (if m9 t (f x)=true then _ else _)=_;rw [if_neg (by rw [h];decide)]
theorem eF {f:List l8→List l8} {t:ByteArray} {x:List l8} {r:List (List l8)} (h:m9 t (f x)=true):qi f t (x::r)=qi f (ms t (f x)).1 r:=by
 show (if m9 t (f x)=true then _ else _)=_;rw [if_pos h]
theorem eE {t:ByteArray} {l:List l8} (h:m9 t l=true):(ms t l).1.size≤max t.size 4096:=by
 unfold m9 at h;simp only [Bool.and_eq_true,decide_eq_true_eq,beq_iff_eq] at h;exact KO (s:=(ms t l).1) (by rw [← h.2])
def mq (f:List l8→List l8) (t:ByteArray) (L:List (List l8)):Bool:=qi f t L.reverse && decide (L.length≤16)
theorem lB (L:List (List l8)) (k:Nat) (h:k<L.length):(L.take (k+1)).reverse=L[k]! :: (L.take k).reverse:=by
 rw [ltake h,List.reverse_append];rfl
theorem sh.inv {l:List l8} {b:Nat} (h:sh l b):sh (md l) b:=fun x hx=>by
 unfold md at hx;obtain ⟨y,hy,rfl⟩:=Ag.1 (List.mem_reverse.1 hx);exact ⟨(h y hy).2,(h y hy).1⟩
set_option maxRecDepth 100000
open Lib (hid)
def ym (w:zn) (l:List l8) (e:Ending) (w':zn):Prop:=∃ a c,e=.returned (oy a l.length c)∧rp w' w ⟨a,l,c⟩∧zo w w w'
def RetAdd (w:zn) (r:List l8×Int) (e:Ending) (w':zn):Prop:=∃ a c,e=.returned (.tuple #[oy a r.1.length c,zt .i64 r.2])∧rp w' w ⟨a,r.1,c⟩∧zo w w w'
theorem rp.empty (w:zn) (base:Nat):rp w base ⟨none,[],0⟩:=⟨fun k hk=>absurd hk li,fun _=>rfl,zu _,zz _⟩
theorem rp.set {x:mo} (h:rp w base x) {p:zr} (hp:p.block<base) (u:zv):rp (w.setCell p u) base x:=
 ⟨(h.row.keep fun q hq=>World.cell?_setCell_other _ _ _ _ (fun e=>by rw [← e] at hq;have:=hq.1;omega)).more fun b hb=>by simpa using hb,h.nil,h.le,h.cap⟩
theorem bN {w':zn} {e:TypeId} {size:Nat} {v:zv} {n:Nat} {xs:List zv} (h:w.ownsRow base e size v n xs) (hb:zo w w w'):w'.ownsRow base e size v n xs:=by
 refine ⟨h.1,?_⟩;rcases h.2 with h2|⟨g,cap,cur,hv,aa,hg,hr⟩
 ·exact .inl h2
 ·exact .inr ⟨g,cap,cur,hv,aa,(hb.block g (by rcases Aj g w.heap.size with h' | h';exact h';rw [Array.getElem?_eq_none h'] at hg;cases hg)).trans hg,hr⟩
set_option maxHeartbeats 1600000 in
theorem oO (a:Option zr) (l:List l8) (c:Nat) (x:l8) (w:zn) (hp:o0 w ⟨a,l,c⟩) (hl:l.length≤100000) :
 Calls prog 176 #[oy a l.length c,x.v] w (RetAdd w (wb l x)):=by
 obtain ⟨p,o,m⟩:=x;obtain ⟨W1,aa⟩:∃ W1,w.alloc (.cells #[zm a l.length c] 54)=W1:=⟨_,rfl⟩;obtain ⟨W2,ad⟩:∃ W2,W1.alloc (.cells #[zt .i64 p,zp o,zp m] 92)=W2:=⟨_,rfl⟩;obtain ⟨wX,hwX⟩:∃ wX,W2.alloc (.cells #[zm none 0 0] 54)=wX:=⟨_,rfl⟩;have b1:zo w w W1:=by rw [← aa];exact (zx _ _).alloc (zu _) _
 have z1:W1.heap.size=w+1:=by rw [← aa];simp
 have z2:W2.heap.size=w+2:=by rw [← ad];simp [z1]
 have z3:wX.heap.size=w+3:=by rw [← hwX];simp [z2]
 have c2:zo W1 W1 W2:=by rw [← ad];exact (zx _ _).alloc (zu _) _
 have c3:zo W2 W2 wX:=by rw [← hwX];exact (zx _ _).alloc (zu _) _
 have B1:l6 W1 w #[zm a l.length c] 54:=by rw [← aa];exact l6.new _ _ _
 have B2:l6 W2 W1 #[zt .i64 p,zp o,zp m] 92:=by rw [← ad];exact l6.new _ _ _
 have B3:l6 wX W2 #[zm none 0 0] 54:=by rw [← hwX];exact l6.new _ _ _
 have B1:l6 wX w #[zm a l.length c] 54:=(B1.onto c2).onto c3;have B2:l6 wX W1 #[zt .i64 p,zp o,zp m] 92:=B2.onto c3;have ab:zo w w wX:=b1.trans ((c2.mono lg).trans (c3.mono lg));have x0:=B1.cell 0 _ rfl;have x1:=B2.cell 0 _ rfl;have x2:=B2.cell 1 _ rfl;have x3:=B2.cell 2 _ rfl;have x4:=B3.cell 0 _ rfl;have x5:=B3.free 0;have hpX:o0 wX ⟨a,l,c⟩:=hp.later ab;by_cases hm:32≤l.length
 ·have e:wb l ⟨p,o,m⟩=([],9):=by unfold wb;rw [if_pos hm]
  rw [e];obtain ⟨n,hn⟩:∃ n,l.length=n:=⟨_,rfl⟩;rw [hn] at hm x0 aa ⊢;have HB:=hid (ab.setCell (p:=⟨W2,0,none⟩) (by show w.heap.size≤W2;omega) (zm none 0 0));have ai:(32:Int)≤(n:Int):=lg;clear hn hp hpX ab B1 B2 B3 c2 c3 b1 e hl z1 z2 z3;show Calls prog 176 #[.agg #[zm a n c],.agg #[zt .i64 p,zp o,zp m]] w _;go_enter func176,ntmps176;go_wp2;refine Ad (v:=.tuple #[oy none 0 0,zt .i64 9]) (by simp [Ae,results176,go_sem,x4]) rfl ?_;exact ⟨none,0,rfl,rp.empty _ _,HB.out⟩
 ·have e:wb l ⟨p,o,m⟩=(l++[⟨p,o,m⟩],0):=by unfold wb;rw [if_neg hm]
  rw [e];obtain ⟨W,hW⟩:∃ W,wX.alloc (.cells #[zt .i64 p,zp o,zp m] 92)=W:=⟨_,rfl⟩;have z4:W.heap.size=wX+1:=by rw [← hW];simp
  have c4:zo wX wX W:=by rw [← hW];exact (zx _ _).alloc (zu _) _
  have B4:l6 W wX #[zt .i64 p,zp o,zp m] 92:=by rw [← hW];exact l6.new _ _ _
  have hq:o0 W ⟨some ⟨wX,0,none⟩,[⟨p,o,m⟩],1⟩:=⟨fun k hk=>by
   match k,hk with
   | 0,_=>exact ⟨_,rfl,by show wX.heap.size<W;omega,B4.cell 0 _ rfl,B4.cell 1 _ rfl,B4.cell 2 _ rfl⟩,fun e=>by cases e⟩
  obtain ⟨n,hn⟩:∃ n,l.length=n:=⟨_,rfl⟩;have hlen:(l++[(⟨p,o,m⟩:l8)]).length=n+1:=by rw [Aq,hn];rfl
  have cc:=ecat2 n 1 (hpX.later c4) hq hn rfl lg 24;simp only at cc;obtain ⟨L,hL⟩:∃ L,l++[(⟨p,o,m⟩:l8)]=L:=⟨_,rfl⟩;rw [hL] at cc hlen ⊢;have hd:∀ w',zo (W.alloc (.cells #[zm a n c,zm (some ⟨wX,0,none⟩) 1 1] 24)) (W.alloc (.cells #[zm a n c,zm (some ⟨wX,0,none⟩) 1 1] 24)) w'→zo wX wX w':=fun w' h=>(c4.alloc lg _).trans (h.mono lr);rw [hn] at hm x0 aa ⊢;have ak:=hid hlen;have CC:=hid cc;have ae:=hid ab;have al:=hid B3;have HD:=hid hd;have af:=hid (show W2.heap.size<wX by omega);have aj:=hid (show w.heap.size≤W2 by omega);have Z4:=hid z4;have ai:(n:Int)<32:=lg;clear hn hp hpX ab B1 B2 B3 B4 c2 c3 c4 b1 e hl hlen cc hq hd z1 z2 z3 z4 hL;show Calls prog 176 #[.agg #[zm a n c],.agg #[zt .i64 p,zp o,zp m]] w _;go_enter func176,ntmps176;go_wp2_with fail;refine CC.out.mono ?_;rintro e w4 ⟨a4,c4,rfl,hrow,hbel⟩;have ac:=HD.out _ hbel;have q0:=(ac.cell (p:=⟨W2,0,none⟩) af.out).trans x4;have q1:=(ac.frozen (p:=⟨W2,0,none⟩) af.out).trans x5;have ag:=hid ((ae.out.trans (ac.mono ae.out.size)).setCell (p:=⟨W2,0,none⟩) aj.out (zm a4 L.length c4));have ah:=hid ((hrow.set (p:=⟨W2,0,none⟩) (by have:=af.out;have:=Z4.out;show W2.heap.size<_;simp;omega) (zm a4 L.length c4)).mono (b2:=w.heap.size) (by have:=ae.out.size;have:=Z4.out;simp;omega));clear hbel ac hrow;go_wp2;refine Ad (v:=.tuple #[oy a4 L.length c4,zt .i64 0]) (by simp [Ae,results176,go_sem,q0]) rfl ?_;exact ⟨a4,c4,rfl,ah.out,ag.out⟩
set_option maxHeartbeats 1600000 in
theorem pN (a:Option zr) (l:List l8) (c:Nat) (w:zn) (hr:qf w (·<w) a l) (hl:l.length≤100000) :
 Calls prog 87 #[oy a l.length c] w (ym w (md l)):=by
 obtain ⟨i0,hi,ag,ah,ai⟩:=info_parts eW;obtain ⟨W1,ab⟩:∃ W1,w.alloc (.cells #[zm a l.length c] 54)=W1:=⟨_,rfl⟩;obtain ⟨wX,hwX⟩:∃ wX,W1.alloc (.cells #[zm none 0 0] 54)=wX:=⟨_,rfl⟩;have hst:=zf.new w a l c hr;rw [ab] at hst;have c2:zo W1.heap.size W1 wX:=by rw [← hwX];exact (zx _ _).alloc (zu _) _
 have z1:W1.heap.size=w+1:=by rw [← ab];simp
 have z2:wX.heap.size=w+2:=by rw [← hwX];simp [z1]
 have B3:l6 wX W1 #[zm none 0 0] 54:=by rw [← hwX];exact l6.new _ _ _
 have hst:=hst.on c2;have x0:=hst.cell;have x4:=B3.cell 0 _ rfl;have x5:=B3.free 0;obtain ⟨n,hn⟩:∃ n,l.length=n:=⟨_,rfl⟩;obtain ⟨wM,hrun,hown,hgrow⟩:=run_make_full (P:=prog) wX wX 24 92 i0 _ 3 underlying24 hi ag ah .i64 .i64 n (by rw [ai];omega) lq (zu _);have hbM:zo wX wX wM:=(zx _ _).grown hgrow (zu _) (fun k hk=>by cases hk);have hown:wM.ownsRow wX 92 3 (zm (some ⟨wX,0,none⟩) n n) n (l8.flat (uz l 0)):=by
  have e:uz l 0=List.replicate n nilE:=by unfold uz;rw [List.take_zero,List.nil_append,hn,Nat.sub_zero]
  rw [e,← emade];exact hown
 obtain ⟨g,hg⟩:∃ g,wX.heap.size=g:=⟨_,rfl⟩;rw [hn] at hl ab x0 ⊢;have HG:=hid hg;have ac:=hid hst;have HN:=hid hn;have ak:=hid hown;have ao:=hid hbM;have ae:=hid (show W1.heap.size<wX by omega);have aj:=hid (show w.heap.size≤W1 by omega);rw [hg] at hrun;clear hst c2 z1 z2 B3 hr hn hown hgrow hbM hg hi ag ah ai;go_enter func87,ntmps87;go_wp2;clear ab hwX hrun
 go_loopw [12] (fun i wr=>∃ k:Nat,k≤n∧i=zt .i64 k∧wr.ownsRow wX 92 3 (zm (some ⟨g,0,none⟩) n n) n (l8.flat (uz l k))∧zo wX wX wr) (fun i _=>n - (intOf i).toNat)
 case atStart=>exact ⟨0,zz _,rfl,by rw [← HG.out];exact ak.out,ao.out⟩
 case round =>
  obtain ⟨k,hk,rfl,hown,hbel⟩:=hrel;have y0:=(hbel.cell (p:=⟨w,0,none⟩) ac.out.size).trans x0;by_cases hlt:k<n
  ·have hkl:k<l.length:=by rw [HN.out];exact hlt
   obtain ⟨j,hj⟩:∃ j,n - 1 - k=j:=⟨_,rfl⟩;have hjl:j<l.length:=by rw [HN.out];omega
   have hs:=LC l k hkl;rw [HN.out,hj] at hs;obtain ⟨ad,rfl,hab,q0,q1,q2⟩:=(ac.out.row.below (fun _ h=>h) hbel).at j hjl;have hml:=MT l k (Ar hkl);have hset:=LA (uz l k) k (l[j]!).back (by rw [hml];exact hkl);rw [← hs] at hset;obtain ⟨x,hx⟩:∃ x,l[j]! = x:=⟨_,rfl⟩;rw [hx] at q0 q1 q2 hset;obtain ⟨p,o,m⟩:=x;simp only [l8.back] at q0 q1 q2 hset;have ci:=zF p o m;have HS:=hid hset;have CI:=hid ci;have aq:=hid hml;have HO:=hid hown;have b0:(0:Int)≤(k:Int):=lg;have b1:(k:Int)<(n:Int):=lg;have b2:(n:Int) - 1 - (k:Int)=(j:Int):=lg;have b3:(j:Int)<(n:Int):=lg;have b4:(0:Int)≤(j:Int):=lg;clear hset ci hml hs hx hab hj hown;go_wp2_with fail;refine (CI.out _).mono ?_;rintro e w3 ⟨rfl,af⟩;have aa:=hid (bN HO.out af);have ar:=hid (hbel.trans (af.mono hbel.size));have f0:=aa.out.frozenAt (k * 3);have f1:=aa.out.frozenAt (k * 3+1);have f2:=aa.out.frozenAt (k * 3+2);obtain ⟨g0,g1,g2⟩:=l8.flat_get (uz l k) k (by rw [aq.out];exact hkl);have q3:=(aa.out.cellAt (k * 3) lg).trans g0;have q4:=(aa.out.cellAt (k * 3+1) lg).trans g1;have q5:=(aa.out.cellAt (k * 3+2) lg).trans g2;clear g0 g1 g2 af hbel q0 q1 q2 y0;have au:=hid (((aa.out.stored (k * 3) (zt .i64 p)).1.stored (k * 3+1) (zp m)).1.stored (k * 3+2) (zp o)).1;have av:=hid (((ar.out.setCell (p:=⟨g,k * 3,none⟩) (Af HG.out) (zt .i64 p)).setCell (p:=⟨g,k * 3+1,none⟩) (Af HG.out) (zp m)).setCell (p:=⟨g,k * 3+2,none⟩) (Af HG.out) (zp o));go_wp2;go_roundw
   case rel=>exact ⟨k+1,lg,by go_num,by rw [← HS.out];exact au.out,av.out⟩
   case measure=>simp [intOf];omega
  ·obtain rfl:k=n:=lg;have hlen:(md l).length=k:=by rw [aF,HN.out]
   have e:uz l k=md l:=by rw [← HN.out];exact PT l
   rw [e] at hown;rw [← hlen] at hown;obtain ⟨a4,c4,ev,hrow⟩:=dV hown;rw [hlen] at ev;injection ev with e1 e2 e3;subst e1;subst e3;have x4:=(hbel.cell (p:=⟨W1,0,none⟩) ae.out).trans x4;have x5:=(hbel.frozen (p:=⟨W1,0,none⟩) ae.out).trans x5;have al:=hid ((ac.out.below.trans (hbel.mono ac.out.below.size)).setCell (p:=⟨W1,0,none⟩) aj.out (zm (some ⟨g,0,none⟩) k k));have am:=hid ((hrow.set (p:=⟨W1,0,none⟩) ae.out (zm (some ⟨g,0,none⟩) k k)).mono (b2:=w.heap.size) (Al aj.out (Ar ae.out)));have an:=hid hlen;clear hrow hown hbel hlen e;go_wp2;refine Ad (v:=oy (some ⟨g,0,none⟩) k k) (by simp [Ae,results87,go_sem,x4]) rfl ?_;exact ⟨_,k,by rw [an.out],am.out,al.out⟩
end Go.Proofs.YtbagenpobcgjnaaGreat
