/-
  Joined: OpenEd, Strs.
-/
import Derived.Test.YtfiobemeogaaiaaGreatJCommon
import Derived.Test.YtfiobemeogaaiaaGreatProg
import Derived.Test.YtfiobemeogaaiaaGreatJUtfLeaf
import Derived.Laws.OwnMore
import Derived.OwnWalk
import Derived.Deep.AppendLies
import Derived.Deep.Draws
namespace Go.Proofs.YtfiobemeogaaiaaGreat
open Go.RowKit Go.ChangeShapes Go.WideShapes Go.Deep
set_option linter.unusedVariables false
structure Edt where
 p:Int
 o:ByteArray
 n:ByteArray
abbrev Edt.v (x:Edt):Value:=.agg #[.int .i64 x.p,.string x.o,.string x.n]
def Edts (w:World) (B:Nat→Prop) (a:Option Addr) (l:List Edt):Prop:=
 ∀ (k:Nat) (h:k<l.length),∃ ad,a=some ad∧B ad.block∧w.cell? (ad.add (k * 3))=some (.int .i64 (l[k]).p)∧w.cell? ⟨(ad.add (k * 3)).block,(ad.add (k * 3)).off+1,none⟩=some (.string (l[k]).o)∧w.cell? ⟨(ad.add (k * 3)).block,(ad.add (k * 3)).off+2,none⟩=some (.string (l[k]).n)
theorem Edts.keep {w w':World} {B:Nat→Prop} {a:Option Addr} {l:List Edt} (h:Edts w B a l) (hk:∀ p:Addr,B p.block→w'.cell? p=w.cell? p):Edts w' B a l:=fun k hl=>by
 obtain ⟨ad,e,hb,q0,q1,q2⟩:=h k hl
 exact ⟨ad,e,hb,(hk _ (by rw [show (ad.add (k * 3)).block=ad.block by unfold Addr.add;split <;> rfl];exact hb)).trans q0,(hk _ (by show B (ad.add (k * 3)).block;rw [show (ad.add (k * 3)).block=ad.block by unfold Addr.add;split <;> rfl];exact hb)).trans q1,(hk _ (by show B (ad.add (k * 3)).block;rw [show (ad.add (k * 3)).block=ad.block by unfold Addr.add;split <;> rfl];exact hb)).trans q2⟩
theorem Edts.below {w w':World} {B:Nat→Prop} {N:Nat} {a:Option Addr} {l:List Edt} (h:Edts w B a l) (hN:∀ b,B b→b<N) (hb:Below N w w'):Edts w' B a l:=h.keep fun _ hp=>hb.cell (hN _ hp)
theorem Edts.more {w:World} {B B':Nat→Prop} {a:Option Addr} {l:List Edt} (h:Edts w B a l) (hB:∀ b,B b→B' b):Edts w B' a l:=fun k hl=>by
 obtain ⟨ad,e,hb,h1⟩:=h k hl
 exact ⟨ad,e,hB _ hb,h1⟩
theorem Edts.set {w:World} {B:Nat→Prop} {a:Option Addr} {l:List Edt} (h:Edts w B a l) {p:Addr} {x:Option Addr} {y z:Nat} (hc:w.cell? p=some (.slice x y z)) (u:Value):Edts (w.setCell p u) B a l:=fun k hl=>by
 obtain ⟨ad,e,hb,q0,q1,q2⟩:=h k hl
 exact ⟨ad,e,hb,(World.cell?_setCell_other _ _ _ _ (fun e=>by rw [e] at hc;rw [hc] at q0;cases q0)).trans q0,(World.cell?_setCell_other _ _ _ _ (fun e=>by rw [e] at hc;rw [hc] at q1;cases q1)).trans q1,(World.cell?_setCell_other _ _ _ _ (fun e=>by rw [e] at hc;rw [hc] at q2;cases q2)).trans q2⟩
section
variable {H : Type} {enc : TypeId × Value → H} {w : World} {base : Nat} {spare : Nat → Bool} {held : Bool}
end
def Edt.flat (l:List Edt):List Value:=l.flatMap fun x=>[.int .i64 x.p,.string x.o,.string x.n]
theorem Edt.flat_len (l:List Edt):(Edt.flat l).length=l.length * 3:=by
 unfold Edt.flat
 induction l with
 | nil=>rfl
 | cons a r ih=>rw [List.flatMap_cons,List.length_append,ih];simp;omega
theorem Edt.flat_app (a b:List Edt):Edt.flat (a++b)=Edt.flat a++Edt.flat b:=by simp [Edt.flat]
theorem Edt.flat_get (l:List Edt) (k:Nat) (h:k<l.length):(Edt.flat l)[k * 3]? = some (.int .i64 (l[k]'h).p)∧(Edt.flat l)[k * 3+1]? = some (.string (l[k]'h).o)∧(Edt.flat l)[k * 3+2]? = some (.string (l[k]'h).n):=by
 induction l generalizing k with
 | nil=>simp at h
 | cons a r ih =>
  have e:Edt.flat (a::r)=([.int .i64 a.p,.string a.o,.string a.n]:List Value)++Edt.flat r:=by simp [Edt.flat]
  rw [e]
  match k,h with
  | 0,_=>simp
  | k+1,h =>
   have hr:=ih k (by simpa using h)
   rw [show (k+1) * 3=([.int .i64 a.p,.string a.o,.string a.n]:List Value).length+k * 3 from by simp;omega]
   simp only [Nat.add_assoc,List.getElem?_append_right (Nat.le_add_right _ _),Nat.add_sub_cancel_left]
   exact hr
theorem eD:(Tryz.prog.info? 87).map (fun i=>(i.zero,i.size,i.bytes))=some (some (.agg #[.int .i64 0,.string ByteArray.empty,.string ByteArray.empty]),3,40):=by kernel_rfl
theorem nH (w:World) (p:Int) (o:ByteArray) (n:ByteArray) (t:TypeId):∀ j u,([.int .i64 p,.string o,.string n]:List Value)[j]? = some u→(w.alloc (.cells #[.int .i64 p,.string o,.string n] t)).cell? ((⟨w.heap.size,0,none⟩:Addr).add j)=some u:=by
 intro j u hj
 match j,hj with
 | 0,hj=>simp at hj;subst hj;simp [Addr.add]
 | 1,hj=>simp at hj;subst hj;simp [Addr.add,World.cell?_alloc_new]
 | 2,hj=>simp at hj;subst hj;simp [Addr.add,World.cell?_alloc_new]
theorem lJ (p:Int) (o:ByteArray) (n:ByteArray):∀ u∈([.int .i64 p,.string o,.string n]:List Value),u.oneCell'=true:=by
 intro u hu
 simp at hu
 rcases hu with rfl|rfl|rfl <;> rfl
theorem JM {w:World} {base:Nat} {t:TypeId} {v:Value} {l:List Edt} (h:w.ownsRow base t 3 v l.length (Edt.flat l)):∃ a c,v=.slice a l.length c∧Edts w (fun b=>base≤b∧b<w.heap.size) a l:=by
 rcases h.2 with ⟨rfl,h0⟩|⟨g,cap,cur,rfl,hgb,hg,_⟩
 ·exact ⟨none,0,by rw [h0],fun k hk=>absurd hk (by omega)⟩
 ·refine ⟨_,_,rfl,fun k hk=>⟨_,rfl,⟨hgb,(h.lt g rfl).2⟩,?_,?_,?_⟩⟩
  ·exact h.cells (g:=g) rfl (k * 3) _ (Edt.flat_get l k hk).1
  ·have:=h.cells (g:=g) rfl (k * 3+1) _ (Edt.flat_get l k hk).2.1
   have e:(⟨((⟨g,0,none⟩:Addr).add (k * 3)).block,((⟨g,0,none⟩:Addr).add (k * 3)).off+1,none⟩:Addr)=(⟨g,0,none⟩:Addr).add (k * 3+1):=by
    unfold Addr.add
    by_cases hk0:k * 3=0 <;> simp [hk0]
   rw [e];exact this
  ·have:=h.cells (g:=g) rfl (k * 3+2) _ (Edt.flat_get l k hk).2.2
   have e:(⟨((⟨g,0,none⟩:Addr).add (k * 3)).block,((⟨g,0,none⟩:Addr).add (k * 3)).off+2,none⟩:Addr)=(⟨g,0,none⟩:Addr).add (k * 3+2):=by
    unfold Addr.add
    by_cases hk0:k * 3=0 <;> simp [hk0]
   rw [e];exact this
end Go.Proofs.YtfiobemeogaaiaaGreat
namespace Go.Proofs.YtfiobemeogaaiaaGreat
open Go.RowKit
theorem qY (a:Addr) (k:Nat):(a.add k).block=a.block:=by unfold Addr.add;split <;> rfl
theorem bW (w:World) (v:Value) (t:TypeId):∀ j u,([v]:List Value)[j]? = some u→(w.alloc (.cells #[v] t)).cell? ((⟨w.heap.size,0,none⟩:Addr).add j)=some u:=by
 intro j u hj
 match j,hj with
 | 0,hj=>simp at hj;subst hj;simp [Addr.add,World.cell?_alloc_new]
def Strs (w:World) (B:Nat→Prop) (a:Option Addr) (l:List ByteArray):Prop:=
 ∀ (k:Nat) (h:k<l.length),∃ ad,a=some ad∧B ad.block∧w.cell? (ad.add k)=some (.string l[k])
theorem Strs.keep {w w':World} {B:Nat→Prop} {a:Option Addr} {l:List ByteArray} (h:Strs w B a l) (hk:∀ p:Addr,B p.block→w'.cell? p=w.cell? p):Strs w' B a l:=fun k hl=>by
 obtain ⟨ad,e,hb,q⟩:=h k hl
 exact ⟨ad,e,hb,(hk _ (by rw [qY];exact hb)).trans q⟩
theorem Strs.below {w w':World} {B:Nat→Prop} {N:Nat} {a:Option Addr} {l:List ByteArray} (h:Strs w B a l) (hN:∀ b,B b→b<N) (hb:Below N w w'):Strs w' B a l:=h.keep fun _ hp=>hb.cell (hN _ hp)
theorem Strs.weak {w:World} {B B':Nat→Prop} {a:Option Addr} {l:List ByteArray} (h:Strs w B a l) (hB:∀ b,B b→B' b):Strs w B' a l:=fun k hl=>by
 obtain ⟨ad,e,hb,q⟩:=h k hl
 exact ⟨ad,e,hB _ hb,q⟩
abbrev StrsH (w:World) (a:Option Addr) (l:List ByteArray):Prop:=Strs w (·<w.heap.size) a l
theorem StrsH.on {w w':World} {a:Option Addr} {l:List ByteArray} (h:StrsH w a l) (hb:Below w.heap.size w w'):StrsH w' a l:=(h.below (fun _ h=>h) hb).weak fun _ h=>Nat.lt_of_lt_of_le h hb.size
def strVs (l:List ByteArray):List Value:=l.map Value.string
theorem lA (l:List ByteArray) (x:ByteArray):strVs (l++[x])=strVs l++[.string x]:=by simp [strVs]
theorem LF {w:World} {base:Nat} {t:TypeId} {v:Value} {l:List ByteArray} (h:w.ownsRow base t 1 v l.length (strVs l)):∃ a c,v=.slice a l.length c∧Strs w (fun b=>base≤b∧b<w.heap.size) a l:=by
 rcases h.2 with ⟨rfl,h0⟩|⟨g,cap,cur,rfl,hgb,hg,_⟩
 ·exact ⟨none,0,by rw [h0],fun k hk=>absurd hk (by omega)⟩
 ·exact ⟨_,_,rfl,fun k hk=>⟨_,rfl,⟨hgb,(h.lt g rfl).2⟩,h.cells (g:=g) rfl k _ (by unfold strVs;simp [hk])⟩⟩
def RetStrs (w:World) (l:List ByteArray) (e:Ending) (w':World):Prop:=∃ a c,e=.returned (.slice a l.length c)∧StrsH w' a l∧Below w.heap.size w w'
theorem mE:(Tryz.prog.info? 9).map (fun i=>(i.zero,i.size,i.bytes))=some (some (.string ByteArray.empty),1,16):=by kernel_rfl
theorem bZ {w w':World} {base:Nat} {e:TypeId} {size:Nat} {v:Value} {n:Nat} {xs:List Value} (h:w.ownsRow base e size v n xs) (hb:Below w.heap.size w w'):w'.ownsRow base e size v n xs:=by
 refine ⟨h.1,?_⟩
 rcases h.2 with h2|⟨g,cap,cur,hv,aa,hg,hr⟩
 ·exact .inl h2
 ·exact .inr ⟨g,cap,cur,hv,aa,(hb.block g (lt_of_block hg)).trans hg,hr⟩
theorem KG {w w':World} {x:ByteArray} {t:TypeId} (hb:Below (w.heap.size+1) (w.alloc (.cells #[.string x] t)) w'):StrsH w' (some ⟨w.heap.size,0,none⟩) [x]:=by
 intro k hk
 obtain rfl:k=0:=by simp at hk;omega
 refine ⟨_,rfl,?_,?_⟩
 ·have:=hb.size;simp at this;show w.heap.size<_;omega
 ·exact (hb.cell (p:=⟨w.heap.size,0,none⟩) (by simp)).trans (by simp [World.cell?_alloc_new])
theorem sX {w w':World} {x y:ByteArray} {t:TypeId} (hb:Below (w.heap.size+1) (w.alloc (.cells #[.string x,.string y] t)) w'):StrsH w' (some ⟨w.heap.size,0,none⟩) [x,y]:=by
 intro k hk
 have hz:w.heap.size<w'.heap.size:=by have:=hb.size;simp at this;omega
 match k,hk with
 | 0,_=>exact ⟨_,rfl,hz,(hb.cell (p:=⟨w.heap.size,0,none⟩) (by simp)).trans (by simp [World.cell?_alloc_new])⟩
 | 1,_=>exact ⟨_,rfl,hz,(hb.cell (p:=⟨w.heap.size,1,none⟩) (by simp)).trans (by simp [World.cell?_alloc_new])⟩
end Go.Proofs.YtfiobemeogaaiaaGreat
