/-
  Joined: StkRow, StkMath, StepDev2.
-/
import Derived.Test.YtbagenpobcgjnaaGreatJChunkRef
import Derived.Test.YtbagenpobcgjnaaGreatJStepRef
open Go renaming Addr->ze,Value->zh,World->yx,bodyPost_ret->zp,maxLen->zk,results->zq
open Go.RowKit renaming Below->yy
open Go.RowKit.Below renaming refl->zj
open Go.Value renaming int->zf,slice->yw,string->yz
open List renaming length_append->Ad,length_drop->zn,length_take->zu,map_append->Aa,mem_map->zs,sum_append->Ab,take_succ_eq_append_getElem->zz
open Nat renaming le_of_eq->zr,le_of_lt->Ae,le_refl->zg,le_trans->zx,lt_of_lt_of_le->zw,lt_or_ge->zv,zero_le->zm
variable {base c:Nat} {B:Nat→Prop} {a:Option Go.Addr} {w:Go.World}
namespace Go.Proofs.YtbagenpobcgjnaaGreat
open Go.Proofs.Tryz
open Go.RowKit
set_option linter.unusedVariables false
def nf (l:List mo):List zh:=l.map mo.v
theorem eB (l:List mo):(nf l).length=l.length * 1:=by simp [nf]
theorem mD (a b:List mo):nf (a++b)=nf a++nf b:=by simp [nf]
theorem fP (l:List mo) (k:Nat) (h:k<l.length):(nf l)[k]? = some (l[k]!).v:=by
 unfold nf;rw [List.getElem?_map,List.getElem?_eq_getElem h,og h];rfl
theorem iM (l:List mo):∀ u∈nf l,u.oneCell'=true:=fun u hu=>by
 obtain ⟨x,-,rfl⟩:=zs.1 hu;rfl
theorem aI (a:ze) (k:Nat):(a.add k).block=a.block:=by unfold Addr.add;split <;> rfl
theorem PO (ad:ze) (n k:Nat):(ad.add n).add k=ad.add (n+k):=by
 unfold Addr.add;by_cases hk:k=0
 ·subst hk;simp
 ·by_cases hn:n=0
  ·subst hn;simp [hk]
  ·simp [hk,hn];omega
theorem dI:(prog.info? 54).map (fun i=>(i.zero,i.size,i.bytes))=some (some (.agg #[yw none 0 0]),1,24):=lg
def vb (w:yx) (B:Nat→Prop) (a:Option ze) (l:List mo):Prop:=∀ k,k<l.length→∃ ad,a=some ad∧B ad.block∧w (ad.add k)=some (l[k]!).v
theorem vb.keep {w':yx} {l:List mo} (h:vb w B a l) (hk:∀ p:ze,B p.block→w' p=w p):vb w' B a l:=fun k hl=>by
 obtain ⟨ad,e,hb,q⟩:=h k hl;exact ⟨ad,e,hb,(hk _ (by rw [aI];exact hb)).trans q⟩
theorem vb.below {w':yx} {N:Nat} {l:List mo} (h:vb w B a l) (hN:∀ b,B b→b<N) (hb:yy N w w'):vb w' B a l:=h.keep fun _ hp=>hb.cell (hN _ hp)
theorem vb.more {w:yx} {B B':Nat→Prop} {a:Option ze} {l:List mo} (h:vb w B a l) (hB:∀ b,B b→B' b):vb w B' a l:=fun k hl=>by
 obtain ⟨ad,e,hb,q⟩:=h k hl;exact ⟨ad,e,hB _ hb,q⟩
theorem vb.take {l:List mo} (h:vb w B a l) (n:Nat):vb w B a (l.take n):=fun k hk=>by
 have hk2:k<l.length:=by rw [zu] at hk;omega
 obtain ⟨ad,e,hb,q⟩:=h k hk2;refine ⟨ad,e,hb,?_⟩;rw [og hk,List.getElem_take,← og hk2];exact q
theorem vb.drop {ad:ze} {l:List mo} (h:vb w B (some ad) l) (n:Nat):vb w B (some (ad.add n)) (l.drop n):=fun k hk=>by
 have hk2:n+k<l.length:=by rw [zn] at hk;omega
 obtain ⟨ad',e,hb,q⟩:=h (n+k) hk2;obtain rfl:ad=ad':=by injection e
 refine ⟨_,rfl,by rw [aI];exact hb,?_⟩;rw [PO,og hk,List.getElem_drop,← og hk2];exact q
theorem jW {ad:ze} {l:List mo} (h:vb w B (some ad) l):∀ j u,(nf l)[j]? = some u→w (ad.add j)=some u:=fun j u hj=>by
 have hlt:j<l.length:=by
  rcases zv j l.length with g|g
  ·exact g
  ·rw [List.getElem?_eq_none (by rw [eB];omega)] at hj;cases hj
 obtain ⟨ad',e,-,q⟩:=h j hlt;obtain rfl:ad=ad':=by injection e
 rw [fP l j hlt] at hj;rw [q];exact hj
def we (w:yx) (l:List mo):Prop:=∀ x∈l,o4 w x
theorem we.later {W:yx} {l:List mo} (h:we w l) (hb:yy w w W):we W l:=fun x hx=>(h x hx).later hb
theorem we.at {l:List mo} (h:we w l) (k:Nat) (hk:k<l.length):o4 w (l[k]!):=by rw [og hk];exact h _ (List.getElem_mem hk)
structure pa where
 a:Option ze
 l:List mo
 c:Nat
instance :Inhabited pa:=⟨⟨none,[],0⟩⟩
def pa.v (x:pa):zh:=yw x.a x.l.length x.c
structure nx (w:yx) (x:pa):Prop where
 row:vb w (·<w) x.a x.l
 all:we w x.l
 nil:x.a=none→x.c=0
 le:x.l.length≤x.c
 cap:x.c≤zk
theorem nx.len {x:pa} (h:nx w x) (hn:x.a=none):x.l=[]:=by
 cases hl:x.l with
 | nil=>rfl
 | cons y r =>
  obtain ⟨ad,e,-⟩:=h.row 0 (by rw [hl];simp);rw [hn] at e;cases e
theorem nx.later {W:yx} {x:pa} (h:nx w x) (hb:yy w w W):nx W x:=⟨(h.row.below (fun _ h=>h) hb).more fun b hb2=>zw hb2 hb.size,h.all.later hb,h.nil,h.le,h.cap⟩
theorem nx.empty (w:yx):nx w ⟨none,[],0⟩:=⟨fun k hk=>absurd hk lh,fun x hx=>absurd hx lh,fun _=>rfl,zg _,zm _⟩
theorem nx.take {l:List mo} (h:nx w ⟨a,l,c⟩) (n:Nat):nx w ⟨a,l.take n,c⟩:=
 ⟨vb.take h.row n,fun x hx=>h.all x (List.mem_of_mem_take hx),h.nil,by have:=h.le;show (l.take n).length≤c;rw [zu];have h2:l.length≤c:=this;omega,h.cap⟩
theorem nx.drop {ad:ze} {l:List mo} (h:nx w ⟨some ad,l,c⟩) (n:Nat):nx w ⟨some (ad.add n),l.drop n,c - n⟩:=
 ⟨vb.drop h.row n,fun x hx=>h.all x (List.mem_of_mem_drop hx),fun e=>(by cases e),by have h2:l.length≤c:=h.le;show (l.drop n).length≤c - n;rw [zn];omega,by have h2:c≤zk:=h.cap;show c - n≤zk;omega⟩
structure sf (w:yx) (base:Nat) (x:pa):Prop where
 row:vb w (fun b=>base≤b∧b<w) x.a x.l
 all:we w x.l
 nil:x.a=none→x.c=0
 le:x.l.length≤x.c
 cap:x.c≤zk
theorem dV {t:TypeId} {v:zh} {l:List mo} (h:w.ownsRow base t 1 v l.length (nf l)) (ha:we w l):∃ a c,v=yw a l.length c∧sf w base ⟨a,l,c⟩:=by
 have h2:=h.2;rcases h.2 with ⟨rfl,h0⟩|⟨g,cap,cur,rfl,hgb,hg,hnc,hcm,_⟩
 ·exact ⟨none,0,by rw [h0],fun k hk=>absurd hk (by show ¬ k<l.length;omega),ha,fun _=>rfl,by show l.length≤0;omega,zm _⟩
 ·refine ⟨_,_,rfl,fun k hk=>⟨_,rfl,⟨hgb,(h.lt g rfl).2⟩,?_⟩,ha,fun e=>(by cases e),?_,?_⟩
  ·exact h.cells (g:=g) rfl k _ (fP l k hk)
  ·show l.length≤cap;omega
  ·show cap≤zk;omega
theorem sf.in {x:pa} (h:sf w base x):nx w x:=⟨h.row.more fun _ hb=>hb.2,h.all,h.nil,h.le,h.cap⟩
theorem sf.below {W:yx} {x:pa} (h:sf w base x) (hb:yy w w W):sf W base x:=
 ⟨(h.row.below (fun _ h=>h.2) hb).more fun _ aa=>⟨aa.1,zw aa.2 hb.size⟩,h.all.later hb,h.nil,h.le,h.cap⟩
theorem sf.mono {b2:Nat} {x:pa} (h:sf w base x) (hb:b2≤base):sf w b2 x:=⟨h.row.more fun _ hb2=>⟨zx hb hb2.1,hb2.2⟩,h.all,h.nil,h.le,h.cap⟩
theorem o4.set {x:mo} (h:o4 w x) {p:ze} {n:Nat} (hc:w p=some (yw a n c)) (u:zh):o4 (w.setCell p u) x:=
 ⟨(h.row.set hc u).more fun b hb=>by simpa using hb,h.nil⟩
theorem sf.set {x:pa} (h:sf w base x) {p:ze} (hp:p.block<base) {n:Nat} (hc:w p=some (yw a n c)) (u:zh):sf (w.setCell p u) base x:=
 ⟨(h.row.keep fun q hq=>World.cell?_setCell_other _ _ _ _ (fun e=>by rw [← e] at hq;have:=hq.1;omega)).more fun b hb=>by simpa using hb,fun y hy=>(h.all y hy).set hc u,h.nil,h.le,h.cap⟩
def py (w:yx) (l:List mo) (e:Ending) (w':yx):Prop:=∃ a c,e=.returned (yw a l.length c)∧sf w' w ⟨a,l,c⟩∧yy w w w'
def qc (ps:List pa):Nat:=(ps.map fun x=>x.l.length).sum
def qi (ps:List pa):List mo:=ps.flatMap fun x=>x.l
theorem spget {ps:List pa} {k:Nat} (h:k<ps.length):ps[k]! = ps[k]:=getElem!_pos ps k h
theorem sptake (ps:List pa) (k:Nat) (h:k<ps.length):ps.take (k+1)=ps.take k++[ps[k]!]:=by
 rw [zz h,spget h]
theorem fV (ps:List pa) (k:Nat) (h:k<ps.length):qc (ps.take (k+1))=qc (ps.take k)+(ps[k]!).l.length:=by
 unfold qc;rw [sptake ps k h,Aa,Ab];simp
theorem pD (ps:List pa) (k:Nat) (h:k<ps.length):qi (ps.take (k+1))=qi (ps.take k)++(ps[k]!).l:=by
 unfold qi;rw [sptake ps k h,List.flatMap_append];simp
theorem qW (ps:List pa):(qi ps).length=qc ps:=by
 unfold qi qc;rw [List.length_flatMap]
theorem dD (ps:List pa) (k:Nat):qc (ps.take k)≤qc ps:=by
 have e:=congrArg qc (List.take_append_drop k ps);unfold qc at e ⊢;rw [Aa,Ab] at e;omega
theorem tF {ps:List pa} (h:∀ k,k<ps.length→nx w ps[k]!):we w (qi ps):=fun x hx=>by
 obtain ⟨p,hp,hx⟩:=List.mem_flatMap.1 hx;obtain ⟨k,hk,rfl⟩:=List.mem_iff_getElem.1 hp;have:=(h k hk).all;rw [spget hk] at this;exact this x hx
def mf (l:List mo):List (List l7):=l.map mo.l
theorem aC (l:List mo):(mf l).length=l.length:=by simp [mf]
theorem eX (a b:List mo):mf (a++b)=mf a++mf b:=by simp [mf]
theorem cJ (l:List mo) (k:Nat) (h:k<l.length):(mf l)[k]! = (l[k]!).l:=by
 rw [getElem!_pos (mf l) k (by rw [aC];exact h),og h];simp [mf]
theorem oV (l:List mo) (k:Nat):mf (l.take k)=(mf l).take k:=by simp [mf,List.map_take]
theorem gN (l:List mo) (k:Nat):mf (l.drop k)=(mf l).drop k:=by simp [mf,List.map_drop]
theorem ltake {L:List (List l7)} {k:Nat} (h:k<L.length):L.take (k+1)=L.take k++[L[k]!]:=by
 rw [zz h,getElem!_pos L k h]
def np (L:List (List l7)) (s:List l7):List (List l7):=(L++[s]).drop (L.length+1 - 16)
theorem FR (L:List (List l7)) (s:List l7):(np L s).length=min (L.length+1) 16:=by
 unfold np;rw [zn,Ad];simp;omega
def qh (f:List l7→List l7) (t:ByteArray):List (List l7)→Bool
 | []=>true
 | x::r=>if nb t (f x)=true then qh f (mu t (f x)).1 r else false
theorem eM {f:List l7→List l7} {t:ByteArray} {x:List l7} {r:List (List l7)} (h:nb t (f x)=false):qh f t (x::r)=false:=by
 show (if nb t (f x)=true then _ else _)=_;rw [if_neg (by rw [h];decide)]
theorem dW {f:List l7→List l7} {t:ByteArray} {x:List l7} {r:List (List l7)} (h:nb t (f x)=true):qh f t (x::r)=qh f (mu t (f x)).1 r:=by
 show (if nb t (f x)=true then _ else _)=_;rw [if_pos h]
theorem dS {t:ByteArray} {l:List l7} (h:nb t l=true):(mu t l).1.size≤max t.size 4096:=by
 unfold nb at h;simp only [Bool.and_eq_true,decide_eq_true_eq,beq_iff_eq] at h;exact GS (s:=(mu t l).1) (by rw [← h.2])
def mr (f:List l7→List l7) (t:ByteArray) (L:List (List l7)):Bool:=qh f t L.reverse && decide (L.length≤16)
theorem jK (L:List (List l7)) (k:Nat) (h:k<L.length):(L.take (k+1)).reverse=L[k]! :: (L.take k).reverse:=by
 rw [ltake h,List.reverse_append];rfl
theorem sc.inv {l:List l7} {b:Nat} (h:sc l b):sc (me l) b:=fun x hx=>by
 unfold me at hx;obtain ⟨y,hy,rfl⟩:=zs.1 (List.mem_reverse.1 hx);exact ⟨(h y hy).2,(h y hy).1⟩
set_option maxRecDepth 100000
open Lib (hid)
def xz (w:yx) (l:List l7) (e:Ending) (w':yx):Prop:=∃ a c,e=.returned (oz a l.length c)∧rm w' w ⟨a,l,c⟩∧yy w w w'
def RetAdd (w:yx) (r:List l7×Int) (e:Ending) (w':yx):Prop:=∃ a c,e=.returned (.tuple #[oz a r.1.length c,zf .i64 r.2])∧rm w' w ⟨a,r.1,c⟩∧yy w w w'
theorem rm.empty (w:yx) (base:Nat):rm w base ⟨none,[],0⟩:=⟨fun k hk=>absurd hk lh,fun _=>rfl,zg _,zm _⟩
theorem rm.set {x:mo} (h:rm w base x) {p:ze} (hp:p.block<base) (u:zh):rm (w.setCell p u) base x:=
 ⟨(h.row.keep fun q hq=>World.cell?_setCell_other _ _ _ _ (fun e=>by rw [← e] at hq;have:=hq.1;omega)).more fun b hb=>by simpa using hb,h.nil,h.le,h.cap⟩
theorem bK {w':yx} {e:TypeId} {size:Nat} {v:zh} {n:Nat} {xs:List zh} (h:w.ownsRow base e size v n xs) (hb:yy w w w'):w'.ownsRow base e size v n xs:=by
 refine ⟨h.1,?_⟩;rcases h.2 with h2|⟨g,cap,cur,hv,aa,hg,hr⟩
 ·exact .inl h2
 ·exact .inr ⟨g,cap,cur,hv,aa,(hb.block g (by rcases zv g w.heap.size with h' | h';exact h';rw [Array.getElem?_eq_none h'] at hg;cases hg)).trans hg,hr⟩
set_option maxHeartbeats 1600000 in
theorem oG (a:Option ze) (l:List l7) (c:Nat) (x:l7) (w:yx) (hp:o4 w ⟨a,l,c⟩) (hl:l.length≤100000) :
 Calls prog 176 #[oz a l.length c,x.v] w (RetAdd w (vs l x)):=by
 obtain ⟨p,o,m⟩:=x;obtain ⟨W1,aa⟩:∃ W1,w.alloc (.cells #[yw a l.length c] 54)=W1:=⟨_,rfl⟩;obtain ⟨W2,ad⟩:∃ W2,W1.alloc (.cells #[zf .i64 p,yz o,yz m] 92)=W2:=⟨_,rfl⟩;obtain ⟨wX,hwX⟩:∃ wX,W2.alloc (.cells #[yw none 0 0] 54)=wX:=⟨_,rfl⟩;have b1:yy w w W1:=by rw [← aa];exact (zj _ _).alloc (zg _) _
 have z1:W1.heap.size=w+1:=by rw [← aa];simp
 have z2:W2.heap.size=w+2:=by rw [← ad];simp [z1]
 have z3:wX.heap.size=w+3:=by rw [← hwX];simp [z2]
 have c2:yy W1 W1 W2:=by rw [← ad];exact (zj _ _).alloc (zg _) _
 have c3:yy W2 W2 wX:=by rw [← hwX];exact (zj _ _).alloc (zg _) _
 have B1:l6 W1 w #[yw a l.length c] 54:=by rw [← aa];exact l6.new _ _ _
 have B2:l6 W2 W1 #[zf .i64 p,yz o,yz m] 92:=by rw [← ad];exact l6.new _ _ _
 have B3:l6 wX W2 #[yw none 0 0] 54:=by rw [← hwX];exact l6.new _ _ _
 have B1:l6 wX w #[yw a l.length c] 54:=(B1.onto c2).onto c3;have B2:l6 wX W1 #[zf .i64 p,yz o,yz m] 92:=B2.onto c3;have ab:yy w w wX:=b1.trans ((c2.mono lf).trans (c3.mono lf));have x0:=B1.cell 0 _ rfl;have x1:=B2.cell 0 _ rfl;have x2:=B2.cell 1 _ rfl;have x3:=B2.cell 2 _ rfl;have x4:=B3.cell 0 _ rfl;have x5:=B3.free 0;have hpX:o4 wX ⟨a,l,c⟩:=hp.later ab;by_cases hm:32≤l.length
 ·have e:vs l ⟨p,o,m⟩=([],9):=by unfold vs;rw [if_pos hm]
  rw [e];obtain ⟨n,hn⟩:∃ n,l.length=n:=⟨_,rfl⟩;rw [hn] at hm x0 aa ⊢;have HB:=hid (ab.setCell (p:=⟨W2,0,none⟩) (by show w.heap.size≤W2;omega) (yw none 0 0));have ai:(32:Int)≤(n:Int):=lf;clear hn hp hpX ab B1 B2 B3 c2 c3 b1 e hl z1 z2 z3;show Calls prog 176 #[.agg #[yw a n c],.agg #[zf .i64 p,yz o,yz m]] w _;go_enter func176,ntmps176;go_wp2;refine zp (v:=.tuple #[oz none 0 0,zf .i64 9]) (by simp [zq,results176,go_sem,x4]) rfl ?_;exact ⟨none,0,rfl,rm.empty _ _,HB.out⟩
 ·have e:vs l ⟨p,o,m⟩=(l++[⟨p,o,m⟩],0):=by unfold vs;rw [if_neg hm]
  rw [e];obtain ⟨W,hW⟩:∃ W,wX.alloc (.cells #[zf .i64 p,yz o,yz m] 92)=W:=⟨_,rfl⟩;have z4:W.heap.size=wX+1:=by rw [← hW];simp
  have c4:yy wX wX W:=by rw [← hW];exact (zj _ _).alloc (zg _) _
  have B4:l6 W wX #[zf .i64 p,yz o,yz m] 92:=by rw [← hW];exact l6.new _ _ _
  have hq:o4 W ⟨some ⟨wX,0,none⟩,[⟨p,o,m⟩],1⟩:=⟨fun k hk=>by
   match k,hk with
   | 0,_=>exact ⟨_,rfl,by show wX.heap.size<W;omega,B4.cell 0 _ rfl,B4.cell 1 _ rfl,B4.cell 2 _ rfl⟩,fun e=>by cases e⟩
  obtain ⟨n,hn⟩:∃ n,l.length=n:=⟨_,rfl⟩;have hlen:(l++[(⟨p,o,m⟩:l7)]).length=n+1:=by rw [Ad,hn];rfl
  have cc:=ecat2 n 1 (hpX.later c4) hq hn rfl lf 24;simp only at cc;obtain ⟨L,hL⟩:∃ L,l++[(⟨p,o,m⟩:l7)]=L:=⟨_,rfl⟩;rw [hL] at cc hlen ⊢;have hd:∀ w',yy (W.alloc (.cells #[yw a n c,yw (some ⟨wX,0,none⟩) 1 1] 24)) (W.alloc (.cells #[yw a n c,yw (some ⟨wX,0,none⟩) 1 1] 24)) w'→yy wX wX w':=fun w' h=>(c4.alloc lf _).trans (h.mono lq);rw [hn] at hm x0 aa ⊢;have ak:=hid hlen;have CC:=hid cc;have ae:=hid ab;have al:=hid B3;have HD:=hid hd;have af:=hid (show W2.heap.size<wX by omega);have aj:=hid (show w.heap.size≤W2 by omega);have Z4:=hid z4;have ai:(n:Int)<32:=lf;clear hn hp hpX ab B1 B2 B3 B4 c2 c3 c4 b1 e hl hlen cc hq hd z1 z2 z3 z4 hL;show Calls prog 176 #[.agg #[yw a n c],.agg #[zf .i64 p,yz o,yz m]] w _;go_enter func176,ntmps176;go_wp2_with fail;refine CC.out.mono ?_;rintro e w4 ⟨a4,c4,rfl,hrow,hbel⟩;have ac:=HD.out _ hbel;have q0:=(ac.cell (p:=⟨W2,0,none⟩) af.out).trans x4;have q1:=(ac.frozen (p:=⟨W2,0,none⟩) af.out).trans x5;have ag:=hid ((ae.out.trans (ac.mono ae.out.size)).setCell (p:=⟨W2,0,none⟩) aj.out (yw a4 L.length c4));have ah:=hid ((hrow.set (p:=⟨W2,0,none⟩) (by have:=af.out;have:=Z4.out;show W2.heap.size<_;simp;omega) (yw a4 L.length c4)).mono (b2:=w.heap.size) (by have:=ae.out.size;have:=Z4.out;simp;omega));clear hbel ac hrow;go_wp2;refine zp (v:=.tuple #[oz a4 L.length c4,zf .i64 0]) (by simp [zq,results176,go_sem,q0]) rfl ?_;exact ⟨a4,c4,rfl,ah.out,ag.out⟩
set_option maxHeartbeats 1600000 in
theorem oS (a:Option ze) (l:List l7) (c:Nat) (w:yx) (hr:qd w (·<w) a l) (hl:l.length≤100000) :
 Calls prog 87 #[oz a l.length c] w (xz w (me l)):=by
 obtain ⟨i0,hi,ag,ah,ai⟩:=info_parts eU;obtain ⟨W1,ab⟩:∃ W1,w.alloc (.cells #[yw a l.length c] 54)=W1:=⟨_,rfl⟩;obtain ⟨wX,hwX⟩:∃ wX,W1.alloc (.cells #[yw none 0 0] 54)=wX:=⟨_,rfl⟩;have hst:=yo.new w a l c hr;rw [ab] at hst;have c2:yy W1.heap.size W1 wX:=by rw [← hwX];exact (zj _ _).alloc (zg _) _
 have z1:W1.heap.size=w+1:=by rw [← ab];simp
 have z2:wX.heap.size=w+2:=by rw [← hwX];simp [z1]
 have B3:l6 wX W1 #[yw none 0 0] 54:=by rw [← hwX];exact l6.new _ _ _
 have hst:=hst.on c2;have x0:=hst.cell;have x4:=B3.cell 0 _ rfl;have x5:=B3.free 0;obtain ⟨n,hn⟩:∃ n,l.length=n:=⟨_,rfl⟩;obtain ⟨wM,hrun,hown,hgrow⟩:=run_make_full (P:=prog) wX wX 24 92 i0 _ 3 underlying24 hi ag ah .i64 .i64 n (by rw [ai];omega) ln (zg _);have hbM:yy wX wX wM:=(zj _ _).grown hgrow (zg _) (fun k hk=>by cases hk);have hown:wM.ownsRow wX 92 3 (yw (some ⟨wX,0,none⟩) n n) n (l7.flat (uk l 0)):=by
  have e:uk l 0=List.replicate n nilE:=by unfold uk;rw [List.take_zero,List.nil_append,hn,Nat.sub_zero]
  rw [e,← emade];exact hown
 obtain ⟨g,hg⟩:∃ g,wX.heap.size=g:=⟨_,rfl⟩;rw [hn] at hl ab x0 ⊢;have HG:=hid hg;have ac:=hid hst;have HN:=hid hn;have ak:=hid hown;have ao:=hid hbM;have ae:=hid (show W1.heap.size<wX by omega);have aj:=hid (show w.heap.size≤W1 by omega);rw [hg] at hrun;clear hst c2 z1 z2 B3 hr hn hown hgrow hbM hg hi ag ah ai;go_enter func87,ntmps87;go_wp2;clear ab hwX hrun
 go_loopw [12] (fun i wr=>∃ k:Nat,k≤n∧i=zf .i64 k∧wr.ownsRow wX 92 3 (yw (some ⟨g,0,none⟩) n n) n (l7.flat (uk l k))∧yy wX wX wr) (fun i _=>n - (intOf i).toNat)
 case atStart=>exact ⟨0,zm _,rfl,by rw [← HG.out];exact ak.out,ao.out⟩
 case round =>
  obtain ⟨k,hk,rfl,hown,hbel⟩:=hrel;have y0:=(hbel.cell (p:=⟨w,0,none⟩) ac.out.size).trans x0;by_cases hlt:k<n
  ·have hkl:k<l.length:=by rw [HN.out];exact hlt
   obtain ⟨j,hj⟩:∃ j,n - 1 - k=j:=⟨_,rfl⟩;have hjl:j<l.length:=by rw [HN.out];omega
   have hs:=IH l k hkl;rw [HN.out,hj] at hs;obtain ⟨ad,rfl,hab,q0,q1,q2⟩:=(ac.out.row.below (fun _ h=>h) hbel).at j hjl;have hml:=KI l k (Ae hkl);have hset:=GY (uk l k) k (l[j]!).back (by rw [hml];exact hkl);rw [← hs] at hset;obtain ⟨x,hx⟩:∃ x,l[j]! = x:=⟨_,rfl⟩;rw [hx] at q0 q1 q2 hset;obtain ⟨p,o,m⟩:=x;simp only [l7.back] at q0 q1 q2 hset;have ci:=yL p o m;have HS:=hid hset;have CI:=hid ci;have aq:=hid hml;have HO:=hid hown;have b0:(0:Int)≤(k:Int):=lf;have b1:(k:Int)<(n:Int):=lf;have b2:(n:Int) - 1 - (k:Int)=(j:Int):=lf;have b3:(j:Int)<(n:Int):=lf;have b4:(0:Int)≤(j:Int):=lf;clear hset ci hml hs hx hab hj hown;go_wp2_with fail;refine (CI.out _).mono ?_;rintro e w3 ⟨rfl,af⟩;have aa:=hid (bK HO.out af);have ar:=hid (hbel.trans (af.mono hbel.size));have f0:=aa.out.frozenAt (k * 3);have f1:=aa.out.frozenAt (k * 3+1);have f2:=aa.out.frozenAt (k * 3+2);obtain ⟨g0,g1,g2⟩:=l7.flat_get (uk l k) k (by rw [aq.out];exact hkl);have q3:=(aa.out.cellAt (k * 3) lf).trans g0;have q4:=(aa.out.cellAt (k * 3+1) lf).trans g1;have q5:=(aa.out.cellAt (k * 3+2) lf).trans g2;clear g0 g1 g2 af hbel q0 q1 q2 y0;have au:=hid (((aa.out.stored (k * 3) (zf .i64 p)).1.stored (k * 3+1) (yz m)).1.stored (k * 3+2) (yz o)).1;have av:=hid (((ar.out.setCell (p:=⟨g,k * 3,none⟩) (zr HG.out) (zf .i64 p)).setCell (p:=⟨g,k * 3+1,none⟩) (zr HG.out) (yz m)).setCell (p:=⟨g,k * 3+2,none⟩) (zr HG.out) (yz o));go_wp2;go_roundw
   case rel=>exact ⟨k+1,lf,by go_num,by rw [← HS.out];exact au.out,av.out⟩
   case measure=>simp [intOf];omega
  ·obtain rfl:k=n:=lf;have hlen:(me l).length=k:=by rw [aD,HN.out]
   have e:uk l k=me l:=by rw [← HN.out];exact LK l
   rw [e] at hown;rw [← hlen] at hown;obtain ⟨a4,c4,ev,hrow⟩:=dH hown;rw [hlen] at ev;injection ev with e1 e2 e3;subst e1;subst e3;have x4:=(hbel.cell (p:=⟨W1,0,none⟩) ae.out).trans x4;have x5:=(hbel.frozen (p:=⟨W1,0,none⟩) ae.out).trans x5;have al:=hid ((ac.out.below.trans (hbel.mono ac.out.below.size)).setCell (p:=⟨W1,0,none⟩) aj.out (yw (some ⟨g,0,none⟩) k k));have am:=hid ((hrow.set (p:=⟨W1,0,none⟩) ae.out (yw (some ⟨g,0,none⟩) k k)).mono (b2:=w.heap.size) (zx aj.out (Ae ae.out)));have an:=hid hlen;clear hrow hown hbel hlen e;go_wp2;refine zp (v:=oz (some ⟨g,0,none⟩) k k) (by simp [zq,results87,go_sem,x4]) rfl ?_;exact ⟨_,k,by rw [an.out],am.out,al.out⟩
end Go.Proofs.YtbagenpobcgjnaaGreat
