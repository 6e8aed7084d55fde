/-
  Joined: StkRow, StkMath.
-/
import Derived.Test.YtbagenpobcgjnaaGreatJMrk
import Derived.Test.YtbagenpobcgjnaaGreatJStepRef
import Derived.Laws.OwnMore
import Derived.Deep.AppendLies
import Derived.Test.YtbagenpobcgjnaaGreatJStepMath
variable {base c:Nat} {B:Nat→Prop} {a:Option Go.Addr} {w:Go.World}
namespace Go.Proofs.YtbagenpobcgjnaaGreat
open Go.Proofs.Tryz
open Go.RowKit
set_option linter.unusedVariables false
def sflat (l:List EPc):List Value:=l.map EPc.v
theorem eU (l:List EPc):(sflat l).length=l.length * 1:=by simp [sflat]
theorem rK (a b:List EPc):sflat (a++b)=sflat a++sflat b:=by simp [sflat]
theorem eQ (l:List EPc) (k:Nat) (h:k<l.length):(sflat l)[k]? = some (l[k]!).v:=by
 unfold sflat
 rw [List.getElem?_map,List.getElem?_eq_getElem h,epget h]
 rfl
theorem kW (l:List EPc):∀ u∈sflat l,u.oneCell'=true:=fun u hu=>by
 obtain ⟨x,-,rfl⟩:=List.mem_map.1 hu
 rfl
theorem bD (a:Addr) (k:Nat):(a.add k).block=a.block:=by unfold Addr.add;split <;> rfl
theorem MP (ad:Addr) (n k:Nat):(ad.add n).add k=ad.add (n+k):=by
 unfold Addr.add
 by_cases hk:k=0
 ·subst hk;simp
 ·by_cases hn:n=0
  ·subst hn;simp [hk]
  ·simp [hk,hn];omega
theorem dL:(prog.info? 54).map (fun i=>(i.zero,i.size,i.bytes))=some (some (.agg #[.slice none 0 0]),1,24):=by kernel_rfl
def Scs (w:World) (B:Nat→Prop) (a:Option Addr) (l:List EPc):Prop:=∀ k,k<l.length→∃ ad,a=some ad∧B ad.block∧w.cell? (ad.add k)=some (l[k]!).v
theorem Scs.keep {w':World} {l:List EPc} (h:Scs w B a l) (hk:∀ p:Addr,B p.block→w'.cell? p=w.cell? p):Scs w' B a l:=fun k hl=>by
 obtain ⟨ad,e,hb,q⟩:=h k hl
 exact ⟨ad,e,hb,(hk _ (by rw [bD];exact hb)).trans q⟩
theorem Scs.below {w':World} {N:Nat} {l:List EPc} (h:Scs w B a l) (hN:∀ b,B b→b<N) (hb:Below N w w'):Scs w' B a l:=h.keep fun _ hp=>hb.cell (hN _ hp)
theorem Scs.more {w:World} {B B':Nat→Prop} {a:Option Addr} {l:List EPc} (h:Scs w B a l) (hB:∀ b,B b→B' b):Scs w B' a l:=fun k hl=>by
 obtain ⟨ad,e,hb,q⟩:=h k hl
 exact ⟨ad,e,hB _ hb,q⟩
theorem Scs.take {l:List EPc} (h:Scs w B a l) (n:Nat):Scs w B a (l.take n):=fun k hk=>by
 have hk2:k<l.length:=by rw [List.length_take] at hk;omega
 obtain ⟨ad,e,hb,q⟩:=h k hk2
 refine ⟨ad,e,hb,?_⟩
 rw [epget hk,List.getElem_take,← epget hk2]
 exact q
theorem Scs.drop {ad:Addr} {l:List EPc} (h:Scs w B (some ad) l) (n:Nat):Scs w B (some (ad.add n)) (l.drop n):=fun k hk=>by
 have hk2:n+k<l.length:=by rw [List.length_drop] at hk;omega
 obtain ⟨ad',e,hb,q⟩:=h (n+k) hk2
 obtain rfl:ad=ad':=by injection e
 refine ⟨_,rfl,by rw [bD];exact hb,?_⟩
 rw [MP,epget hk,List.getElem_drop,← epget hk2]
 exact q
theorem nI {ad:Addr} {l:List EPc} (h:Scs w B (some ad) l):∀ j u,(sflat l)[j]? = some u→w.cell? (ad.add j)=some u:=fun j u hj=>by
 have hlt:j<l.length:=by
  rcases Nat.lt_or_ge j l.length with g|g
  ·exact g
  ·rw [List.getElem?_eq_none (by rw [eU];omega)] at hj
   cases hj
 obtain ⟨ad',e,-,q⟩:=h j hlt
 obtain rfl:ad=ad':=by injection e
 rw [eQ l j hlt] at hj
 rw [q]
 exact hj
def SAll (w:World) (l:List EPc):Prop:=∀ x∈l,EPcs w x
theorem SAll.later {W:World} {l:List EPc} (h:SAll w l) (hb:Below w.heap.size w W):SAll W l:=fun x hx=>(h x hx).later hb
theorem SAll.at {l:List EPc} (h:SAll w l) (k:Nat) (hk:k<l.length):EPcs w (l[k]!):=by rw [epget hk];exact h _ (List.getElem_mem hk)
structure SPc where
 a:Option Addr
 l:List EPc
 c:Nat
instance :Inhabited SPc:=⟨⟨none,[],0⟩⟩
def SPc.v (x:SPc):Value:=.slice x.a x.l.length x.c
structure SPcs (w:World) (x:SPc):Prop where
 row:Scs w (·<w.heap.size) x.a x.l
 all:SAll w x.l
 nil:x.a=none→x.c=0
 le:x.l.length≤x.c
 cap:x.c≤maxLen
theorem SPcs.len {x:SPc} (h:SPcs w x) (hn:x.a=none):x.l=[]:=by
 cases hl:x.l with
 | nil=>rfl
 | cons y r =>
  obtain ⟨ad,e,-⟩:=h.row 0 (by rw [hl];simp)
  rw [hn] at e
  cases e
theorem SPcs.later {W:World} {x:SPc} (h:SPcs w x) (hb:Below w.heap.size w W):SPcs W x:=⟨(h.row.below (fun _ h=>h) hb).more fun b hb2=>Nat.lt_of_lt_of_le hb2 hb.size,h.all.later hb,h.nil,h.le,h.cap⟩
theorem SPcs.empty (w:World):SPcs w ⟨none,[],0⟩:=⟨fun k hk=>absurd hk (by simp),fun x hx=>absurd hx (by simp),fun _=>rfl,Nat.le_refl _,Nat.zero_le _⟩
theorem SPcs.take {l:List EPc} (h:SPcs w ⟨a,l,c⟩) (n:Nat):SPcs w ⟨a,l.take n,c⟩:=
 ⟨Scs.take h.row n,fun x hx=>h.all x (List.mem_of_mem_take hx),h.nil,by have:=h.le;show (l.take n).length≤c;rw [List.length_take];have h2:l.length≤c:=this;omega,h.cap⟩
theorem SPcs.drop {ad:Addr} {l:List EPc} (h:SPcs w ⟨some ad,l,c⟩) (n:Nat):SPcs w ⟨some (ad.add n),l.drop n,c - n⟩:=
 ⟨Scs.drop h.row n,fun x hx=>h.all x (List.mem_of_mem_drop hx),fun e=>(by cases e),by have h2:l.length≤c:=h.le;show (l.drop n).length≤c - n;rw [List.length_drop];omega,by have h2:c≤maxLen:=h.cap;show c - n≤maxLen;omega⟩
structure SRow (w:World) (base:Nat) (x:SPc):Prop where
 row:Scs w (fun b=>base≤b∧b<w.heap.size) x.a x.l
 all:SAll w x.l
 nil:x.a=none→x.c=0
 le:x.l.length≤x.c
 cap:x.c≤maxLen
theorem iW {t:TypeId} {v:Value} {l:List EPc} (h:w.ownsRow base t 1 v l.length (sflat l)) (ha:SAll w l):∃ a c,v=.slice a l.length c∧SRow w base ⟨a,l,c⟩:=by
 have h2:=h.2
 rcases h.2 with ⟨rfl,h0⟩|⟨g,cap,cur,rfl,hgb,hg,hnc,hcm,_⟩
 ·exact ⟨none,0,by rw [h0],fun k hk=>absurd hk (by show ¬ k<l.length;omega),ha,fun _=>rfl,by show l.length≤0;omega,Nat.zero_le _⟩
 ·refine ⟨_,_,rfl,fun k hk=>⟨_,rfl,⟨hgb,(h.lt g rfl).2⟩,?_⟩,ha,fun e=>(by cases e),?_,?_⟩
  ·exact h.cells (g:=g) rfl k _ (eQ l k hk)
  ·show l.length≤cap;omega
  ·show cap≤maxLen;omega
theorem SRow.in {x:SPc} (h:SRow w base x):SPcs w x:=⟨h.row.more fun _ hb=>hb.2,h.all,h.nil,h.le,h.cap⟩
theorem SRow.below {W:World} {x:SPc} (h:SRow w base x) (hb:Below w.heap.size w W):SRow W base x:=
 ⟨(h.row.below (fun _ h=>h.2) hb).more fun _ aa=>⟨aa.1,Nat.lt_of_lt_of_le aa.2 hb.size⟩,h.all.later hb,h.nil,h.le,h.cap⟩
theorem SRow.mono {b2:Nat} {x:SPc} (h:SRow w base x) (hb:b2≤base):SRow w b2 x:=⟨h.row.more fun _ hb2=>⟨Nat.le_trans hb hb2.1,hb2.2⟩,h.all,h.nil,h.le,h.cap⟩
theorem EPcs.set {x:EPc} (h:EPcs w x) {p:Addr} {n:Nat} (hc:w.cell? p=some (.slice a n c)) (u:Value):EPcs (w.setCell p u) x:=
 ⟨(h.row.set hc u).more fun b hb=>by simpa using hb,h.nil⟩
theorem SRow.set {x:SPc} (h:SRow w base x) {p:Addr} (hp:p.block<base) {n:Nat} (hc:w.cell? p=some (.slice a n c)) (u:Value):SRow (w.setCell p u) base x:=
 ⟨(h.row.keep fun q hq=>World.cell?_setCell_other _ _ _ _ (fun e=>by rw [← e] at hq;have:=hq.1;omega)).more fun b hb=>by simpa using hb,fun y hy=>(h.all y hy).set hc u,h.nil,h.le,h.cap⟩
def RetSRow (w:World) (l:List EPc) (e:Ending) (w':World):Prop:=∃ a c,e=.returned (.slice a l.length c)∧SRow w' w.heap.size ⟨a,l,c⟩∧Below w.heap.size w w'
def ssumP (ps:List SPc):Nat:=(ps.map fun x=>x.l.length).sum
def scatP (ps:List SPc):List EPc:=ps.flatMap fun x=>x.l
theorem spget {ps:List SPc} {k:Nat} (h:k<ps.length):ps[k]! = ps[k]:=getElem!_pos ps k h
theorem sptake (ps:List SPc) (k:Nat) (h:k<ps.length):ps.take (k+1)=ps.take k++[ps[k]!]:=by
 rw [List.take_succ_eq_append_getElem h,spget h]
theorem eX (ps:List SPc) (k:Nat) (h:k<ps.length):ssumP (ps.take (k+1))=ssumP (ps.take k)+(ps[k]!).l.length:=by
 unfold ssumP
 rw [sptake ps k h,List.map_append,List.sum_append]
 simp
theorem nQ (ps:List SPc) (k:Nat) (h:k<ps.length):scatP (ps.take (k+1))=scatP (ps.take k)++(ps[k]!).l:=by
 unfold scatP
 rw [sptake ps k h,List.flatMap_append]
 simp
theorem qR (ps:List SPc):(scatP ps).length=ssumP ps:=by
 unfold scatP ssumP
 rw [List.length_flatMap]
theorem cZ (ps:List SPc) (k:Nat):ssumP (ps.take k)≤ssumP ps:=by
 have e:=congrArg ssumP (List.take_append_drop k ps)
 unfold ssumP at e ⊢
 rw [List.map_append,List.sum_append] at e
 omega
theorem qQ {ps:List SPc} (h:∀ k,k<ps.length→SPcs w ps[k]!):SAll w (scatP ps):=fun x hx=>by
 obtain ⟨p,hp,hx⟩:=List.mem_flatMap.1 hx
 obtain ⟨k,hk,rfl⟩:=List.mem_iff_getElem.1 hp
 have:=(h k hk).all
 rw [spget hk] at this
 exact this x hx
def lsP (l:List EPc):List (List Edt):=l.map EPc.l
theorem aG (l:List EPc):(lsP l).length=l.length:=by simp [lsP]
theorem pH (a b:List EPc):lsP (a++b)=lsP a++lsP b:=by simp [lsP]
theorem eI (l:List EPc) (k:Nat) (h:k<l.length):(lsP l)[k]! = (l[k]!).l:=by
 rw [getElem!_pos (lsP l) k (by rw [aG];exact h),epget h]
 simp [lsP]
theorem KI (l:List EPc) (k:Nat):lsP (l.take k)=(lsP l).take k:=by simp [lsP,List.map_take]
theorem GU (l:List EPc) (k:Nat):lsP (l.drop k)=(lsP l).drop k:=by simp [lsP,List.map_drop]
theorem ltake {L:List (List Edt)} {k:Nat} (h:k<L.length):L.take (k+1)=L.take k++[L[k]!]:=by
 rw [List.take_succ_eq_append_getElem h,getElem!_pos L k h]
def pushL (L:List (List Edt)) (s:List Edt):List (List Edt):=(L++[s]).drop (L.length+1 - 16)
theorem EE (L:List (List Edt)) (s:List Edt):(pushL L s).length=min (L.length+1) 16:=by
 unfold pushL
 rw [List.length_drop,List.length_append]
 simp
 omega
def goesE (f:List Edt→List Edt) (t:ByteArray):List (List Edt)→Bool
 | []=>true
 | x::r=>if rightS t (f x)=true then goesE f (runE t (f x)).1 r else false
theorem iL {f:List Edt→List Edt} {t:ByteArray} {x:List Edt} {r:List (List Edt)} (h:rightS t (f x)=false):goesE f t (x::r)=false:=by
 show (if rightS t (f x)=true then _ else _)=_
 rw [if_neg (by rw [h];decide)]
theorem gE {f:List Edt→List Edt} {t:ByteArray} {x:List Edt} {r:List (List Edt)} (h:rightS t (f x)=true):goesE f t (x::r)=goesE f (runE t (f x)).1 r:=by
 show (if rightS t (f x)=true then _ else _)=_
 rw [if_pos h]
theorem mE {t:ByteArray} {l:List Edt} (h:rightS t l=true):(runE t l).1.size≤max t.size 4096:=by
 unfold rightS at h
 simp only [Bool.and_eq_true,decide_eq_true_eq,beq_iff_eq] at h
 exact FU (s:=(runE t l).1) (by rw [← h.2])
def goes16 (f:List Edt→List Edt) (t:ByteArray) (L:List (List Edt)):Bool:=goesE f t L.reverse && decide (L.length≤16)
theorem tF (L:List (List Edt)) (k:Nat) (h:k<L.length):(L.take (k+1)).reverse=L[k]! :: (L.take k).reverse:=by
 rw [ltake h,List.reverse_append]
 rfl
theorem Edtz.inv {l:List Edt} {b:Nat} (h:Edtz l b):Edtz (invL l) b:=fun x hx=>by
 unfold invL at hx
 obtain ⟨y,hy,rfl⟩:=List.mem_map.1 (List.mem_reverse.1 hx)
 exact ⟨(h y hy).2,(h y hy).1⟩
end Go.Proofs.YtbagenpobcgjnaaGreat
