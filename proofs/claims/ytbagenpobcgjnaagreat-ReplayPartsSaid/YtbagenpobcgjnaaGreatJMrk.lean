/-
  Joined: Mrk, EditRow, Frms.
-/
import Derived.Test.YtbagenpobcgjnaaGreatJCells
import Derived.Test.YtbagenpobcgjnaaGreatJStrs
import Derived.Test.YtbagenpobcgjnaaGreatJCommon
import Derived.Test.YtbagenpobcgjnaaGreatJUtfLeaf
variable {base:Nat} {B:Nat→Prop} {a:Option Go.Addr} {t:Go.TypeId} {w w':Go.World}
namespace Go.Proofs.YtbagenpobcgjnaaGreat
open Go.Proofs.Tryz
open Go.RowKit Go.ChangeShapes Go.WideShapes Go.Deep
set_option linter.unusedVariables false
structure Mrk where
 name:ByteArray
 p:Int
abbrev Mrk.v (x:Mrk):Value:=.agg #[.string x.name,.int .i64 x.p]
def Mrks (w:World) (B:Nat→Prop) (a:Option Addr) (l:List Mrk):Prop:=
 ∀ (k:Nat) (h:k<l.length),∃ ad,a=some ad∧B ad.block∧w.cell? (ad.add (k * 2))=some (.string (l[k]).name)∧w.cell? ⟨(ad.add (k * 2)).block,(ad.add (k * 2)).off+1,none⟩=some (.int .i64 (l[k]).p)
theorem Mrks.keep {l:List Mrk} (h:Mrks w B a l) (hk:∀ p:Addr,B p.block→w'.cell? p=w.cell? p):Mrks w' B a l:=fun k hl=>by
 obtain ⟨ad,e,hb,q0,q1⟩:=h k hl
 exact ⟨ad,e,hb,(hk _ (by rw [show (ad.add (k * 2)).block=ad.block by unfold Addr.add;split <;> rfl];exact hb)).trans q0,(hk _ (by show B (ad.add (k * 2)).block;rw [show (ad.add (k * 2)).block=ad.block by unfold Addr.add;split <;> rfl];exact hb)).trans q1⟩
theorem Mrks.below {N:Nat} {l:List Mrk} (h:Mrks w B a l) (hN:∀ b,B b→b<N) (hb:Below N w w'):Mrks w' B a l:=h.keep fun _ hp=>hb.cell (hN _ hp)
theorem Mrks.more {w:World} {B B':Nat→Prop} {a:Option Addr} {l:List Mrk} (h:Mrks w B a l) (hB:∀ b,B b→B' b):Mrks w B' a l:=fun k hl=>by
 obtain ⟨ad,e,hb,h1⟩:=h k hl
 exact ⟨ad,e,hB _ hb,h1⟩
section
variable {H : Type} {enc : TypeId × Value → H} {w : World} {base : Nat} {spare : Nat → Bool} {held : Bool}
end
def Mrk.flat (l:List Mrk):List Value:=l.flatMap fun x=>[.string x.name,.int .i64 x.p]
theorem Mrk.flat_len (l:List Mrk):(Mrk.flat l).length=l.length * 2:=by
 unfold Mrk.flat
 induction l with
 | nil=>rfl
 | cons a r ih=>rw [List.flatMap_cons,List.length_append,ih];simp;omega
theorem Mrk.flat_app (a b:List Mrk):Mrk.flat (a++b)=Mrk.flat a++Mrk.flat b:=by simp [Mrk.flat]
theorem Mrk.flat_get (l:List Mrk) (k:Nat) (h:k<l.length):(Mrk.flat l)[k * 2]? = some (.string (l[k]'h).name)∧(Mrk.flat l)[k * 2+1]? = some (.int .i64 (l[k]'h).p):=by
 induction l generalizing k with
 | nil=>simp at h
 | cons a r ih =>
  have e:Mrk.flat (a::r)=([.string a.name,.int .i64 a.p]:List Value)++Mrk.flat r:=by simp [Mrk.flat]
  rw [e]
  match k,h with
  | 0,_=>simp
  | k+1,h =>
   have hr:=ih k (by simpa using h)
   rw [show (k+1) * 2=([.string a.name,.int .i64 a.p]:List Value).length+k * 2 from by simp;omega]
   simp only [Nat.add_assoc,List.getElem?_append_right (Nat.le_add_right _ _),Nat.add_sub_cancel_left]
   exact hr
theorem iJ:(prog.info? 90).map (fun i=>(i.zero,i.size,i.bytes))=some (some (.agg #[.string ByteArray.empty,.int .i64 0]),2,24):=by kernel_rfl
theorem xB (name:ByteArray) (p:Int):∀ u∈([.string name,.int .i64 p]:List Value),u.oneCell'=true:=by
 intro u hu
 simp at hu
 rcases hu with rfl|rfl <;> rfl
theorem uK {v:Value} {l:List Mrk} (h:w.ownsRow base t 2 v l.length (Mrk.flat l)):∃ a c,v=.slice a l.length c∧Mrks w (fun b=>base≤b∧b<w.heap.size) a l:=by
 rcases h.2 with ⟨rfl,h0⟩|⟨g,cap,cur,rfl,hgb,hg,_⟩
 ·exact ⟨none,0,by rw [h0],fun k hk=>absurd hk (by omega)⟩
 ·refine ⟨_,_,rfl,fun k hk=>⟨_,rfl,⟨hgb,(h.lt g rfl).2⟩,?_,?_⟩⟩
  ·exact h.cells (g:=g) rfl (k * 2) _ (Mrk.flat_get l k hk).1
  ·have:=h.cells (g:=g) rfl (k * 2+1) _ (Mrk.flat_get l k hk).2
   have e:(⟨((⟨g,0,none⟩:Addr).add (k * 2)).block,((⟨g,0,none⟩:Addr).add (k * 2)).off+1,none⟩:Addr)=(⟨g,0,none⟩:Addr).add (k * 2+1):=by
    unfold Addr.add
    by_cases hk0:k * 2=0 <;> simp [hk0]
   rw [e];exact this
structure MrkR (w:World) (base:Nat) (a:Option Addr) (l:List Mrk) (c:Nat):Prop where
 row:Mrks w (fun b=>base≤b∧b<w.heap.size) a l
 nil:a=none→c=0
 le:l.length≤c
 cap:c≤maxLen
theorem MrkR.more {w:World} {base b2:Nat} {a:Option Addr} {l:List Mrk} {c:Nat} (h:MrkR w base a l c) (hb:b2≤base):MrkR w b2 a l c:=⟨h.row.more fun b hb2=>⟨Nat.le_trans hb hb2.1,hb2.2⟩,h.nil,h.le,h.cap⟩
theorem MrkR.none (w:World) (base:Nat):MrkR w base .none [] 0:=⟨fun k hk=>absurd hk (by simp),fun _=>rfl,Nat.le_refl _,Nat.zero_le _⟩
theorem pR {v:Value} {l:List Mrk} (h:w.ownsRow base t 2 v l.length (Mrk.flat l)):∃ a c,v=.slice a l.length c∧MrkR w base a l c:=by
 obtain ⟨a,c,e,hr⟩:=uK h
 refine ⟨a,c,e,hr,?_,?_,?_⟩
 ·intro hn
  rcases h.2 with ⟨rfl,h0⟩|⟨g,cap,cur,rfl,-⟩
  ·injection e with _ _ e3;exact e3.symm
  ·injection e with e1;rw [hn] at e1;cases e1
 ·rcases h.2 with ⟨rfl,h0⟩|⟨g,cap,cur,rfl,_,_,hnc,_⟩
  ·injection e with _ e2 e3;omega
  ·injection e with _ _ e3;omega
 ·rcases h.2 with ⟨rfl,h0⟩|⟨g,cap,cur,rfl,_,_,hnc,hcm,_⟩
  ·injection e with _ e2 e3;unfold maxLen;omega
  ·injection e with _ _ e3;omega
def RetMrksR (w:World) (l:List Mrk) (e:Ending) (w':World):Prop:=∃ a c,e=.returned (.slice a l.length c)∧MrkR w' w.heap.size a l c∧Below w.heap.size w w'
end Go.Proofs.YtbagenpobcgjnaaGreat
namespace Go.Proofs.YtbagenpobcgjnaaGreat
open Go.RowKit
set_option linter.unusedVariables false
instance :Inhabited Edt:=⟨⟨0,ByteArray.empty,ByteArray.empty⟩⟩
structure EPc where
 a:Option Addr
 l:List Edt
 c:Nat
instance :Inhabited EPc:=⟨⟨none,[],0⟩⟩
def EPc.v (x:EPc):Value:=.slice x.a x.l.length x.c
structure EPcs (w:World) (x:EPc):Prop where
 row:Edts w (·<w.heap.size) x.a x.l
 nil:x.a=none→x.c=0
theorem EPcs.len {x:EPc} (h:EPcs w x) (hn:x.a=none):x.l=[]:=by
 cases hl:x.l with
 | nil=>rfl
 | cons y r =>
  obtain ⟨ad,e,-⟩:=h.row 0 (by rw [hl];simp)
  rw [hn] at e
  cases e
theorem eget {l:List Edt} {k:Nat} (h:k<l.length):l[k]! = l[k]:=getElem!_pos l k h
theorem qZ (ad:Addr) (k i:Nat) (h:0<i):(⟨(ad.add (k * 3)).block,(ad.add (k * 3)).off+i,none⟩:Addr)=ad.add (k * 3+i):=by
 unfold Addr.add
 by_cases hk:k * 3=0
 ·rw [if_pos hk,if_neg (by omega),hk,Nat.zero_add]
 ·rw [if_neg hk,if_neg (by omega)]
  show (⟨ad.block,ad.off+k * 3+i,none⟩:Addr)=⟨ad.block,ad.off+(k * 3+i),none⟩
  rw [Nat.add_assoc]
theorem rB {ad:Addr} {l:List Edt} (h:Edts w B (some ad) l):∀ j u,(Edt.flat l)[j]? = some u→w.cell? (ad.add j)=some u:=fun j u hj=>by
 have hlt:j<l.length * 3:=by
  rcases Nat.lt_or_ge j (l.length * 3) with g|g
  ·exact g
  ·rw [List.getElem?_eq_none (by rw [Edt.flat_len];exact g)] at hj
   cases hj
 obtain ⟨ad',e,-,q0,q1,q2⟩:=h (j / 3) (by omega)
 obtain rfl:ad=ad':=by injection e
 obtain ⟨g0,g1,g2⟩:=Edt.flat_get l (j / 3) (by omega)
 rcases (show j=j / 3 * 3∨j=j / 3 * 3+1∨j=j / 3 * 3+2 by omega) with g|g|g
 ·rw [g] at hj ⊢
  rw [g0] at hj
  rw [q0]
  exact hj
 ·rw [g] at hj ⊢
  rw [g1] at hj
  rw [← qZ _ _ _ (by decide),q1]
  exact hj
 ·rw [g] at hj ⊢
  rw [g2] at hj
  rw [← qZ _ _ _ (by decide),q2]
  exact hj
theorem rH (l:List Edt):∀ u∈Edt.flat l,u.oneCell'=true:=fun u hu=>by
 unfold Edt.flat at hu
 obtain ⟨x,-,hx⟩:=List.mem_flatMap.1 hu
 exact NC _ _ _ u hx
structure ERow (w:World) (base:Nat) (x:EPc):Prop where
 row:Edts w (fun b=>base≤b∧b<w.heap.size) x.a x.l
 nil:x.a=none→x.c=0
 le:x.l.length≤x.c
 cap:x.c≤maxLen
theorem eG {v:Value} {l:List Edt} (h:w.ownsRow base t 3 v l.length (Edt.flat l)):∃ a c,v=.slice a l.length c∧ERow w base ⟨a,l,c⟩:=by
 obtain ⟨a,c,e,hr⟩:=IH h
 refine ⟨a,c,e,hr,?_,?_,?_⟩
 ·intro hn
  have hn:a=none:=hn
  rcases h.2 with ⟨rfl,h0⟩|⟨g,cap,cur,rfl,-⟩
  ·injection e with _ _ e3;exact e3.symm
  ·injection e with e1;rw [hn] at e1;cases e1
 ·show l.length≤c
  rcases h.2 with ⟨rfl,h0⟩|⟨g,cap,cur,rfl,_,_,hnc,_⟩
  ·injection e with _ e2 e3;omega
  ·injection e with _ _ e3;omega
 ·show c≤maxLen
  rcases h.2 with ⟨rfl,h0⟩|⟨g,cap,cur,rfl,_,_,hnc,hcm,_⟩
  ·injection e with _ e2 e3;unfold maxLen;omega
  ·injection e with _ _ e3;omega
theorem ERow.in {x:EPc} (h:ERow w base x):EPcs w x:=⟨h.row.more fun _ hb=>hb.2,h.nil⟩
theorem ERow.below {W:World} {x:EPc} (h:ERow w base x) (hb:Below w.heap.size w W):ERow W base x:=
 ⟨(h.row.below (fun _ h=>h.2) hb).more fun _ aa=>⟨aa.1,Nat.lt_of_lt_of_le aa.2 hb.size⟩,h.nil,h.le,h.cap⟩
theorem ERow.mono {b2:Nat} {x:EPc} (h:ERow w base x) (hb:b2≤base):ERow w b2 x:=⟨h.row.more fun _ hb2=>⟨Nat.le_trans hb hb2.1,hb2.2⟩,h.nil,h.le,h.cap⟩
def RetERow (w:World) (l:List Edt) (e:Ending) (w':World):Prop:=∃ a c,e=.returned (.slice a l.length c)∧ERow w' w.heap.size ⟨a,l,c⟩∧Below w.heap.size w w'
theorem EPcs.later {W:World} {x:EPc} (h:EPcs w x) (hb:Below w.heap.size w W):EPcs W x:=⟨(h.row.below (fun _ h=>h) hb).more fun b hb2=>Nat.lt_of_lt_of_le hb2 hb.size,h.nil⟩
theorem EPcs.empty (w:World):EPcs w ⟨.none,[],0⟩:=⟨fun k hk=>absurd hk (by simp),fun _=>rfl⟩
def esumP (ps:List EPc):Nat:=(ps.map fun x=>x.l.length).sum
def ecatP (ps:List EPc):List Edt:=ps.flatMap fun x=>x.l
theorem epget {ps:List EPc} {k:Nat} (h:k<ps.length):ps[k]! = ps[k]:=getElem!_pos ps k h
theorem eptake (ps:List EPc) (k:Nat) (h:k<ps.length):ps.take (k+1)=ps.take k++[ps[k]!]:=by
 rw [List.take_succ_eq_append_getElem h,epget h]
theorem oA (ps:List EPc) (k:Nat) (h:k<ps.length):esumP (ps.take (k+1))=esumP (ps.take k)+(ps[k]!).l.length:=by
 unfold esumP
 rw [eptake ps k h,List.map_append,List.sum_append]
 simp
theorem zD (ps:List EPc) (k:Nat) (h:k<ps.length):ecatP (ps.take (k+1))=ecatP (ps.take k)++(ps[k]!).l:=by
 unfold ecatP
 rw [eptake ps k h,List.flatMap_append]
 simp
theorem EN (ps:List EPc):(ecatP ps).length=esumP ps:=by
 unfold ecatP esumP
 rw [List.length_flatMap]
theorem jD (ps:List EPc) (k:Nat):esumP (ps.take k)≤esumP ps:=by
 have e:=congrArg esumP (List.take_append_drop k ps)
 unfold esumP at e ⊢
 rw [List.map_append,List.sum_append] at e
 omega
end Go.Proofs.YtbagenpobcgjnaaGreat
namespace Go.Proofs.YtbagenpobcgjnaaGreat
open Go.Proofs.Tryz
open Go.RowKit Go.ChangeShapes Go.WideShapes Go.Deep
set_option linter.unusedVariables false
structure Frm where
 ep:Int
 sq:Int
 data:ByteArray
abbrev Frm.v (x:Frm):Value:=.agg #[.int .i64 x.ep,.int .i64 x.sq,.string x.data]
def Frms (w:World) (B:Nat→Prop) (a:Option Addr) (l:List Frm):Prop:=
 ∀ (k:Nat) (h:k<l.length),∃ ad,a=some ad∧B ad.block∧w.cell? (ad.add (k * 3))=some (.int .i64 (l[k]).ep)∧w.cell? ⟨(ad.add (k * 3)).block,(ad.add (k * 3)).off+1,none⟩=some (.int .i64 (l[k]).sq)∧w.cell? ⟨(ad.add (k * 3)).block,(ad.add (k * 3)).off+2,none⟩=some (.string (l[k]).data)
theorem Frms.keep {l:List Frm} (h:Frms w B a l) (hk:∀ p:Addr,B p.block→w'.cell? p=w.cell? p):Frms w' B a l:=fun k hl=>by
 obtain ⟨ad,e,hb,q0,q1,q2⟩:=h k hl
 exact ⟨ad,e,hb,(hk _ (by rw [show (ad.add (k * 3)).block=ad.block by unfold Addr.add;split <;> rfl];exact hb)).trans q0,(hk _ (by show B (ad.add (k * 3)).block;rw [show (ad.add (k * 3)).block=ad.block by unfold Addr.add;split <;> rfl];exact hb)).trans q1,(hk _ (by show B (ad.add (k * 3)).block;rw [show (ad.add (k * 3)).block=ad.block by unfold Addr.add;split <;> rfl];exact hb)).trans q2⟩
theorem Frms.below {N:Nat} {l:List Frm} (h:Frms w B a l) (hN:∀ b,B b→b<N) (hb:Below N w w'):Frms w' B a l:=h.keep fun _ hp=>hb.cell (hN _ hp)
theorem Frms.more {w:World} {B B':Nat→Prop} {a:Option Addr} {l:List Frm} (h:Frms w B a l) (hB:∀ b,B b→B' b):Frms w B' a l:=fun k hl=>by
 obtain ⟨ad,e,hb,h1⟩:=h k hl
 exact ⟨ad,e,hB _ hb,h1⟩
section
variable {H : Type} {enc : TypeId × Value → H} {w : World} {base : Nat} {spare : Nat → Bool} {held : Bool}
end
def Frm.flat (l:List Frm):List Value:=l.flatMap fun x=>[.int .i64 x.ep,.int .i64 x.sq,.string x.data]
theorem Frm.flat_app (a b:List Frm):Frm.flat (a++b)=Frm.flat a++Frm.flat b:=by simp [Frm.flat]
theorem Frm.flat_get (l:List Frm) (k:Nat) (h:k<l.length):(Frm.flat l)[k * 3]? = some (.int .i64 (l[k]'h).ep)∧(Frm.flat l)[k * 3+1]? = some (.int .i64 (l[k]'h).sq)∧(Frm.flat l)[k * 3+2]? = some (.string (l[k]'h).data):=by
 induction l generalizing k with
 | nil=>simp at h
 | cons a r ih =>
  have e:Frm.flat (a::r)=([.int .i64 a.ep,.int .i64 a.sq,.string a.data]:List Value)++Frm.flat r:=by simp [Frm.flat]
  rw [e]
  match k,h with
  | 0,_=>simp
  | k+1,h =>
   have hr:=ih k (by simpa using h)
   rw [show (k+1) * 3=([.int .i64 a.ep,.int .i64 a.sq,.string a.data]:List Value).length+k * 3 from by simp;omega]
   simp only [Nat.add_assoc,List.getElem?_append_right (Nat.le_add_right _ _),Nat.add_sub_cancel_left]
   exact hr
theorem LA:(prog.info? 38).map (fun i=>(i.zero,i.size,i.bytes))=some (some (.agg #[.int .i64 0,.int .i64 0,.string ByteArray.empty]),3,32):=by kernel_rfl
theorem GQ (w:World) (ep:Int) (sq:Int) (data:ByteArray) (t:TypeId):∀ j u,([.int .i64 ep,.int .i64 sq,.string data]:List Value)[j]? = some u→(w.alloc (.cells #[.int .i64 ep,.int .i64 sq,.string data] t)).cell? ((⟨w.heap.size,0,none⟩:Addr).add j)=some u:=by
 intro j u hj
 match j,hj with
 | 0,hj=>simp at hj;subst hj;simp [Addr.add]
 | 1,hj=>simp at hj;subst hj;simp [Addr.add,World.cell?_alloc_new]
 | 2,hj=>simp at hj;subst hj;simp [Addr.add,World.cell?_alloc_new]
theorem NM (ep:Int) (sq:Int) (data:ByteArray):∀ u∈([.int .i64 ep,.int .i64 sq,.string data]:List Value),u.oneCell'=true:=by
 intro u hu
 simp at hu
 rcases hu with rfl|rfl|rfl <;> rfl
theorem LW {v:Value} {l:List Frm} (h:w.ownsRow base t 3 v l.length (Frm.flat l)):∃ a c,v=.slice a l.length c∧Frms w (fun b=>base≤b∧b<w.heap.size) a l:=by
 rcases h.2 with ⟨rfl,h0⟩|⟨g,cap,cur,rfl,hgb,hg,_⟩
 ·exact ⟨none,0,by rw [h0],fun k hk=>absurd hk (by omega)⟩
 ·refine ⟨_,_,rfl,fun k hk=>⟨_,rfl,⟨hgb,(h.lt g rfl).2⟩,?_,?_,?_⟩⟩
  ·exact h.cells (g:=g) rfl (k * 3) _ (Frm.flat_get l k hk).1
  ·have:=h.cells (g:=g) rfl (k * 3+1) _ (Frm.flat_get l k hk).2.1
   have e:(⟨((⟨g,0,none⟩:Addr).add (k * 3)).block,((⟨g,0,none⟩:Addr).add (k * 3)).off+1,none⟩:Addr)=(⟨g,0,none⟩:Addr).add (k * 3+1):=by
    unfold Addr.add
    by_cases hk0:k * 3=0 <;> simp [hk0]
   rw [e];exact this
  ·have:=h.cells (g:=g) rfl (k * 3+2) _ (Frm.flat_get l k hk).2.2
   have e:(⟨((⟨g,0,none⟩:Addr).add (k * 3)).block,((⟨g,0,none⟩:Addr).add (k * 3)).off+2,none⟩:Addr)=(⟨g,0,none⟩:Addr).add (k * 3+2):=by
    unfold Addr.add
    by_cases hk0:k * 3=0 <;> simp [hk0]
   rw [e];exact this
end Go.Proofs.YtbagenpobcgjnaaGreat
