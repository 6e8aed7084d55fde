/-
  Joined: OpenEd, Strs, KnotMap, OpenOp.
-/
import Derived.Test.YtfiobemeogaaiaaGreatJCommon
import Derived.Test.YtfiobemeogaaiaaGreatProg
import Derived.Test.YtfiobemeogaaiaaGreatJUtfLeaf
import Derived.Laws.OwnMore
import Derived.OwnWalk
import Derived.Deep.AppendLies
import Derived.Deep.Draws
import Derived.Test.YtfiobemeogaaiaaGreatJBlk
import Derived.Laws.Pointers
import Derived.LaidEqlPtr
import Derived.Maps.Own
variable {cb:Array Go.Value} {l:List ByteArray} {ks:List Nat} {b m:Nat} {B:Nat→Prop} {a:Option Go.Addr} {t tb:Go.TypeId} {w w':Go.World}
namespace Go.Proofs.YtfiobemeogaaiaaGreat
open Go.Proofs.Tryz
open Go.RowKit Go.ChangeShapes Go.WideShapes Go.Deep
set_option linter.unusedVariables false
structure Edt where
 p:Int
 o:ByteArray
 n:ByteArray
def Edt.fits (x:Edt):Prop:=(-9223372036854775808≤x.p∧x.p≤9223372036854775807)∧x.o.size≤maxLen∧x.n.size≤maxLen
abbrev Edt.v (x:Edt):Value:=.agg #[.int .i64 x.p,.string x.o,.string x.n]
def Edts (w:World) (B:Nat→Prop) (a:Option Addr) (l:List Edt):Prop:=
 ∀ (k:Nat) (h:k<l.length),∃ ad,a=some ad∧B ad.block∧w.cell? (ad.add (k * 3))=some (.int .i64 (l[k]).p)∧w.cell? ⟨(ad.add (k * 3)).block,(ad.add (k * 3)).off+1,none⟩=some (.string (l[k]).o)∧w.cell? ⟨(ad.add (k * 3)).block,(ad.add (k * 3)).off+2,none⟩=some (.string (l[k]).n)
theorem Edts.keep {l:List Edt} (h:Edts w B a l) (hk:∀ p:Addr,B p.block→w'.cell? p=w.cell? p):Edts w' B a l:=fun k hl=>by
 obtain ⟨ad,e,hb,q0,q1,q2⟩:=h k hl
 exact ⟨ad,e,hb,(hk _ (by rw [show (ad.add (k * 3)).block=ad.block by unfold Addr.add;split <;> rfl];exact hb)).trans q0,(hk _ (by show B (ad.add (k * 3)).block;rw [show (ad.add (k * 3)).block=ad.block by unfold Addr.add;split <;> rfl];exact hb)).trans q1,(hk _ (by show B (ad.add (k * 3)).block;rw [show (ad.add (k * 3)).block=ad.block by unfold Addr.add;split <;> rfl];exact hb)).trans q2⟩
theorem Edts.below {N:Nat} {l:List Edt} (h:Edts w B a l) (hN:∀ b,B b→b<N) (hb:Below N w w'):Edts w' B a l:=h.keep fun _ hp=>hb.cell (hN _ hp)
theorem Edts.more {w:World} {B B':Nat→Prop} {a:Option Addr} {l:List Edt} (h:Edts w B a l) (hB:∀ b,B b→B' b):Edts w B' a l:=fun k hl=>by
 obtain ⟨ad,e,hb,h1⟩:=h k hl
 exact ⟨ad,e,hB _ hb,h1⟩
theorem Edts.set {l:List Edt} (h:Edts w B a l) {p:Addr} {x:Option Addr} {y z:Nat} (hc:w.cell? p=some (.slice x y z)) (u:Value):Edts (w.setCell p u) B a l:=fun k hl=>by
 obtain ⟨ad,e,hb,q0,q1,q2⟩:=h k hl
 exact ⟨ad,e,hb,(World.cell?_setCell_other _ _ _ _ (fun e=>by rw [e] at hc;rw [hc] at q0;cases q0)).trans q0,(World.cell?_setCell_other _ _ _ _ (fun e=>by rw [e] at hc;rw [hc] at q1;cases q1)).trans q1,(World.cell?_setCell_other _ _ _ _ (fun e=>by rw [e] at hc;rw [hc] at q2;cases q2)).trans q2⟩
section
variable {H : Type} {enc : TypeId × Value → H} {w : World} {base : Nat} {spare : Nat → Bool} {held : Bool}
theorem rB:prog.cellsOf 87=3:=by kernel_rfl
end
def Edt.flat (l:List Edt):List Value:=l.flatMap fun x=>[.int .i64 x.p,.string x.o,.string x.n]
theorem Edt.flat_len (l:List Edt):(Edt.flat l).length=l.length * 3:=by
 unfold Edt.flat
 induction l with
 | nil=>rfl
 | cons a r ih=>rw [List.flatMap_cons,List.length_append,ih];simp;omega
theorem Edt.flat_app (a b:List Edt):Edt.flat (a++b)=Edt.flat a++Edt.flat b:=by simp [Edt.flat]
theorem Edt.flat_get (l:List Edt) (k:Nat) (h:k<l.length):(Edt.flat l)[k * 3]? = some (.int .i64 (l[k]'h).p)∧(Edt.flat l)[k * 3+1]? = some (.string (l[k]'h).o)∧(Edt.flat l)[k * 3+2]? = some (.string (l[k]'h).n):=by
 induction l generalizing k with
 | nil=>simp at h
 | cons a r ih =>
  have e:Edt.flat (a::r)=([.int .i64 a.p,.string a.o,.string a.n]:List Value)++Edt.flat r:=by simp [Edt.flat]
  rw [e]
  match k,h with
  | 0,_=>simp
  | k+1,h =>
   have hr:=ih k (by simpa using h)
   rw [show (k+1) * 3=([.int .i64 a.p,.string a.o,.string a.n]:List Value).length+k * 3 from by simp;omega]
   simp only [Nat.add_assoc,List.getElem?_append_right (Nat.le_add_right _ _),Nat.add_sub_cancel_left]
   exact hr
theorem eH:(prog.info? 87).map (fun i=>(i.zero,i.size,i.bytes))=some (some (.agg #[.int .i64 0,.string ByteArray.empty,.string ByteArray.empty]),3,40):=by kernel_rfl
theorem nD (w:World) (p:Int) (o:ByteArray) (n:ByteArray) (t:TypeId):∀ j u,([.int .i64 p,.string o,.string n]:List Value)[j]? = some u→(w.alloc (.cells #[.int .i64 p,.string o,.string n] t)).cell? ((⟨w.heap.size,0,none⟩:Addr).add j)=some u:=by
 intro j u hj
 match j,hj with
 | 0,hj=>simp at hj;subst hj;simp [Addr.add]
 | 1,hj=>simp at hj;subst hj;simp [Addr.add,World.cell?_alloc_new]
 | 2,hj=>simp at hj;subst hj;simp [Addr.add,World.cell?_alloc_new]
theorem lW (p:Int) (o:ByteArray) (n:ByteArray):∀ u∈([.int .i64 p,.string o,.string n]:List Value),u.oneCell'=true:=by
 intro u hu
 simp at hu
 rcases hu with rfl|rfl|rfl <;> rfl
theorem LE {base:Nat} {v:Value} {l:List Edt} (h:w.ownsRow base t 3 v l.length (Edt.flat l)):∃ a c,v=.slice a l.length c∧Edts w (fun b=>base≤b∧b<w.heap.size) a l:=by
 rcases h.2 with ⟨rfl,h0⟩|⟨g,cap,cur,rfl,hgb,hg,_⟩
 ·exact ⟨none,0,by rw [h0],fun k hk=>absurd hk (by omega)⟩
 ·refine ⟨_,_,rfl,fun k hk=>⟨_,rfl,⟨hgb,(h.lt g rfl).2⟩,?_,?_,?_⟩⟩
  ·exact h.cells (g:=g) rfl (k * 3) _ (Edt.flat_get l k hk).1
  ·have:=h.cells (g:=g) rfl (k * 3+1) _ (Edt.flat_get l k hk).2.1
   have e:(⟨((⟨g,0,none⟩:Addr).add (k * 3)).block,((⟨g,0,none⟩:Addr).add (k * 3)).off+1,none⟩:Addr)=(⟨g,0,none⟩:Addr).add (k * 3+1):=by
    unfold Addr.add
    by_cases hk0:k * 3=0 <;> simp [hk0]
   rw [e];exact this
  ·have:=h.cells (g:=g) rfl (k * 3+2) _ (Edt.flat_get l k hk).2.2
   have e:(⟨((⟨g,0,none⟩:Addr).add (k * 3)).block,((⟨g,0,none⟩:Addr).add (k * 3)).off+2,none⟩:Addr)=(⟨g,0,none⟩:Addr).add (k * 3+2):=by
    unfold Addr.add
    by_cases hk0:k * 3=0 <;> simp [hk0]
   rw [e];exact this
end Go.Proofs.YtfiobemeogaaiaaGreat
namespace Go.Proofs.YtfiobemeogaaiaaGreat
open Go.Proofs.Tryz
open Go.RowKit
theorem sF (a:Addr) (k:Nat):(a.add k).block=a.block:=by unfold Addr.add;split <;> rfl
theorem bV (w:World) (v:Value) (t:TypeId):∀ j u,([v]:List Value)[j]? = some u→(w.alloc (.cells #[v] t)).cell? ((⟨w.heap.size,0,none⟩:Addr).add j)=some u:=by
 intro j u hj
 match j,hj with
 | 0,hj=>simp at hj;subst hj;simp [Addr.add,World.cell?_alloc_new]
def Strs (w:World) (B:Nat→Prop) (a:Option Addr) (l:List ByteArray):Prop:=
 ∀ (k:Nat) (h:k<l.length),∃ ad,a=some ad∧B ad.block∧w.cell? (ad.add k)=some (.string l[k])
theorem Strs.keep (h:Strs w B a l) (hk:∀ p:Addr,B p.block→w'.cell? p=w.cell? p):Strs w' B a l:=fun k hl=>by
 obtain ⟨ad,e,hb,q⟩:=h k hl
 exact ⟨ad,e,hb,(hk _ (by rw [sF];exact hb)).trans q⟩
theorem Strs.below {N:Nat} (h:Strs w B a l) (hN:∀ b,B b→b<N) (hb:Below N w w'):Strs w' B a l:=h.keep fun _ hp=>hb.cell (hN _ hp)
theorem Strs.weak {B':Nat→Prop} (h:Strs w B a l) (hB:∀ b,B b→B' b):Strs w B' a l:=fun k hl=>by
 obtain ⟨ad,e,hb,q⟩:=h k hl
 exact ⟨ad,e,hB _ hb,q⟩
abbrev StrsH (w:World) (a:Option Addr) (l:List ByteArray):Prop:=Strs w (·<w.heap.size) a l
theorem StrsH.on (h:StrsH w a l) (hb:Below w.heap.size w w'):StrsH w' a l:=(h.below (fun _ h=>h) hb).weak fun _ h=>Nat.lt_of_lt_of_le h hb.size
def strVs (l:List ByteArray):List Value:=l.map Value.string
theorem lJ (l:List ByteArray) (x:ByteArray):strVs (l++[x])=strVs l++[.string x]:=by simp [strVs]
theorem KR {base:Nat} {v:Value} (h:w.ownsRow base t 1 v l.length (strVs l)):∃ a c,v=.slice a l.length c∧Strs w (fun b=>base≤b∧b<w.heap.size) a l:=by
 rcases h.2 with ⟨rfl,h0⟩|⟨g,cap,cur,rfl,hgb,hg,_⟩
 ·exact ⟨none,0,by rw [h0],fun k hk=>absurd hk (by omega)⟩
 ·exact ⟨_,_,rfl,fun k hk=>⟨_,rfl,⟨hgb,(h.lt g rfl).2⟩,h.cells (g:=g) rfl k _ (by unfold strVs;simp [hk])⟩⟩
def RetStrs (w:World) (l:List ByteArray) (e:Ending) (w':World):Prop:=∃ a c,e=.returned (.slice a l.length c)∧StrsH w' a l∧Below w.heap.size w w'
theorem mY:(prog.info? 9).map (fun i=>(i.zero,i.size,i.bytes))=some (some (.string ByteArray.empty),1,16):=by kernel_rfl
theorem cH {base:Nat} {e:TypeId} {size:Nat} {v:Value} {n:Nat} {xs:List Value} (h:w.ownsRow base e size v n xs) (hb:Below w.heap.size w w'):w'.ownsRow base e size v n xs:=by
 refine ⟨h.1,?_⟩
 rcases h.2 with h2|⟨g,cap,cur,hv,aa,hg,hr⟩
 ·exact .inl h2
 ·exact .inr ⟨g,cap,cur,hv,aa,(hb.block g (lt_of_block hg)).trans hg,hr⟩
theorem LN {x:ByteArray} (hb:Below (w.heap.size+1) (w.alloc (.cells #[.string x] t)) w'):StrsH w' (some ⟨w.heap.size,0,none⟩) [x]:=by
 intro k hk
 obtain rfl:k=0:=by simp at hk;omega
 refine ⟨_,rfl,?_,?_⟩
 ·have:=hb.size;simp at this;show w.heap.size<_;omega
 ·exact (hb.cell (p:=⟨w.heap.size,0,none⟩) (by simp)).trans (by simp [World.cell?_alloc_new])
theorem uN {x y:ByteArray} (hb:Below (w.heap.size+1) (w.alloc (.cells #[.string x,.string y] t)) w'):StrsH w' (some ⟨w.heap.size,0,none⟩) [x,y]:=by
 intro k hk
 have hz:w.heap.size<w'.heap.size:=by have:=hb.size;simp at this;omega
 match k,hk with
 | 0,_=>exact ⟨_,rfl,hz,(hb.cell (p:=⟨w.heap.size,0,none⟩) (by simp)).trans (by simp [World.cell?_alloc_new])⟩
 | 1,_=>exact ⟨_,rfl,hz,(hb.cell (p:=⟨w.heap.size,1,none⟩) (by simp)).trans (by simp [World.cell?_alloc_new])⟩
set_option linter.unusedVariables false
set_option linter.unusedSimpArgs false
def Seen (w:World) (B m:Nat) (ks:List Nat):Prop:=
 (∃ es clock,w.heap[m]? = some (.map es clock)∧es.toList.map (fun e=>(e.key,e.val))=ks.map fun b=>(Value.pointer (some ⟨b,0,none⟩),Value.agg #[]))∧B≤m∧∀ k∈ks,k<B∧∃ cs t,Blk w k cs t
theorem Seen.lt {B:Nat} (h:Seen w B m ks):m<w.heap.size:=by
 obtain ⟨⟨es,clock,h1,h2⟩,_⟩:=h
 exact (Array.getElem?_eq_some_iff.1 h1).1
theorem Seen.keep {B:Nat} (h:Seen w B m ks) (hk:w'.heap[m]? = w.heap[m]?) (hb:∀ i,i<B→w'.heap[i]? = w.heap[i]?):Seen w' B m ks:=by
 obtain ⟨⟨es,clock,h1,h2⟩,h3,h4⟩:=h
 refine ⟨⟨es,clock,hk.trans h1,h2⟩,h3,fun k hm=>?_⟩
 obtain ⟨g1,cs,t,g2⟩:=h4 k hm
 exact ⟨g1,cs,t,(hb k g1).trans g2⟩
theorem Seen.on {B:Nat} (h:Seen w B m ks) (hb:Below w.heap.size w w'):Seen w' B m ks:=
 h.keep (hb.block m h.lt) fun i hi=>hb.block i (Nat.lt_trans (Nat.lt_of_lt_of_le hi h.2.1) h.lt)
theorem Seen.made (w:World):Seen (w.alloc (.map #[] 0)) w.heap.size w.heap.size []:=⟨⟨#[],0,(MapKept.heap_alloc w _).1,rfl⟩,Nat.le_refl _,fun k hk=>absurd hk (by simp)⟩
theorem yQ:∃ j,prog.info? 141=some j∧j.size≠0:=by
 have h:(prog.info? 141).map (fun i=>decide (i.size=0))=some false:=by kernel_rfl
 cases g:prog.info? 141 with
 | none=>rw [g] at h;cases h
 | some j =>
  rw [g] at h
  exact ⟨j,rfl,by simpa using h⟩
theorem xT {a:Nat} {ca:Array Value} {ta:TypeId} (ha:Blk w a ca ta) (hb:Blk w b cb tb) :
 (Op.equal 71 (.pointer (some ⟨a,0,none⟩)) (.pointer (some ⟨b,0,none⟩))).run prog w=.ok (decide (a=b)) w:=by
 obtain ⟨j,hj,hz⟩:=yQ
 by_cases h:a=b
 ·subst h
  have g:∀ d:Nat,(Op.equalIn (d+1) 71 (.pointer (some ⟨a,0,none⟩)) (.pointer (some ⟨a,0,none⟩))).run prog w=.ok true w:=fun d=>by
   simp [Op.equalIn,run_underlying underlying71,sizeOf,typeInfo,hj,run_sameAddr_same]
  simp [Op.equal,Op.maxDepth,g 9999]
 ·have hne:(⟨a,0,none⟩:Addr)≠⟨b,0,none⟩:=fun e=>h (by injection e)
  have g:∀ d:Nat,(Op.equalIn (d+1) 71 (.pointer (some ⟨a,0,none⟩)) (.pointer (some ⟨b,0,none⟩))).run prog w=.ok false w:=fun d=>by
   simp [Op.equalIn,run_underlying underlying71,sizeOf,typeInfo,hj,hz,run_sameAddr_other w hne ha hb]
  simp [Op.equal,Op.maxDepth,g 9999,h]
theorem sS (hb:Blk w b cb tb):∀ (es:List MapEntry) (ks:List Nat) (i:Nat),es.map (fun e=>(e.key,e.val))=ks.map (fun b=>(Value.pointer (some ⟨b,0,none⟩),Value.agg #[]))→(∀ k∈ks,∃ cs t,Blk w k cs t) →
 (b∈ks→∃ j,(Instr.findAsking 71 (.pointer (some ⟨b,0,none⟩)) es i).run prog w=.ok (some (j,.agg #[])) w) ∧
 (b ∉ ks→(Instr.findAsking 71 (.pointer (some ⟨b,0,none⟩)) es i).run prog w=.ok none w):=by
 intro es
 induction es with
 | nil =>
  intro ks i h _
  cases ks with
  | nil=>exact ⟨fun g=>absurd g (by simp),fun _=>rfl⟩
  | cons k ks=>cases h
 | cons e es ih =>
  intro ks i h hc
  cases ks with
  | nil=>cases h
  | cons k ks =>
   simp only [List.map_cons,List.cons.injEq,Prod.mk.injEq] at h
   obtain ⟨⟨h1,h2⟩,h3⟩:=h
   obtain ⟨i1,i2⟩:=ih ks (i+1) h3 fun x hx=>hc x (by simp [hx])
   obtain ⟨cs,tk,hk⟩:=hc k (by simp)
   have hq:=xT hb hk
   by_cases hbk:b=k
   ·subst hbk
    rw [decide_eq_true rfl] at hq
    refine ⟨fun _=>⟨i,?_⟩,fun g=>absurd (by simp) g⟩
    unfold Instr.findAsking
    simp [h1,h2,hq,go_sem]
   ·rw [decide_eq_false hbk] at hq
    have e1:(Instr.findAsking 71 (.pointer (some ⟨b,0,none⟩)) (e::es) i).run prog w=(Instr.findAsking 71 (.pointer (some ⟨b,0,none⟩)) es (i+1)).run prog w:=by
     conv=>lhs;unfold Instr.findAsking
     simp [h1,hq,go_sem]
    refine ⟨fun g=>?_,fun g=>?_⟩
    ·obtain ⟨j,hj⟩:=i1 (by simpa [hbk] using g)
     exact ⟨j,e1.trans hj⟩
    ·exact e1.trans (i2 (fun q=>g (by simp [q])))
theorem nC (w:World) (b:Nat) (es:List MapEntry):(Instr.findKey 71 (.pointer (some ⟨b,0,none⟩)) es).run prog w=(Instr.findAsking 71 (.pointer (some ⟨b,0,none⟩)) es 0).run prog w:=by
 have hu:(underlying 71).run prog w=.ok (.pointer 141) w:=run_underlying underlying71 w
 unfold Instr.findKey
 cases es with
 | nil=>simp [hu,Instr.findNow,Instr.findAsking]
 | cons e es=>simp [hu,Instr.findNow,Instr.sameNow]
theorem kL (w:World) (b:Nat) (c:Bool):(Instr.checkKey c 10000 71 (.pointer (some ⟨b,0,none⟩))).run prog w=.ok () w:=by
 have hu:(underlying 71).run prog w=.ok (.pointer 141) w:=run_underlying underlying71 w
 have h:∀ n:Nat,(Instr.checkKey c (n+1) 71 (.pointer (some ⟨b,0,none⟩))).run prog w=.ok () w:=fun n=>by simp [Instr.checkKey,hu]
 exact h 9999
theorem Seen.look {B:Nat} (h:Seen w B m ks) (hb:Blk w b cb tb) :
 (Instr.lookup 107 (.map (some m)) (.pointer (some ⟨b,0,none⟩)) true).run prog w=.ok (.tuple #[.agg #[],.bool (decide (b∈ks))]) w:=by
 obtain ⟨⟨es,clock,h1,h2⟩,h3,h4⟩:=h
 obtain ⟨i1,i2⟩:=sS hb es.toList ks 0 h2 fun k hk=>(h4 k hk).2
 rw [← nC] at i2
 have hz:=Tryz.zeroValue108 w
 by_cases g:b∈ks
 ·obtain ⟨j,hj⟩:=i1 g
  rw [← nC] at hj
  rw [decide_eq_true g]
  simp [Instr.lookup,run_underlying underlying107,MapKept.run_getObj_map h1,kL,hj,Result.andThen]
 ·have hj:=i2 g
  rw [decide_eq_false g]
  simp [Instr.lookup,run_underlying underlying107,MapKept.run_getObj_map h1,kL,hj,hz,Result.andThen]
theorem Seen.put {B:Nat} (h:Seen w B m ks) (hb:Blk w b cb tb) (hB:b<B) (g:b ∉ ks) :
 ∃ w',(Instr.mapUpdate 107 (.map (some m)) (.pointer (some ⟨b,0,none⟩)) (.agg #[])).run prog w=.ok () w'∧Seen w' B m (ks++[b])∧Apart [m] w w':=by
 obtain ⟨⟨es,clock,h1,h2⟩,h3,h4⟩:=h
 have hj:=(sS hb es.toList ks 0 h2 fun k hk=>(h4 k hk).2).2 g
 rw [← nC] at hj
 have hlt:=(Array.getElem?_eq_some_iff.1 h1).1
 have ho:∀ i,i≠m→(ChangeMaps.setBlock w m (.map (es.push { key:=.pointer (some ⟨b,0,none⟩),val:=.agg #[],born:=clock }) (clock+1))).heap[i]? = w.heap[i]? :=fun i hi=>ChangeMaps.heap_setBlock_other h1 _ hi
 have hz:(ChangeMaps.setBlock w m (.map (es.push { key:=.pointer (some ⟨b,0,none⟩),val:=.agg #[],born:=clock }) (clock+1))).heap.size=w.heap.size:=by simp [ChangeMaps.setBlock]
 refine ⟨_,?_,⟨⟨_,_,ChangeMaps.heap_setBlock_same h1 _,?_⟩,h3,fun k hk=>?_⟩,⟨rfl,rfl,rfl,Nat.le_of_eq hz.symm,fun k hk hn=>ho k fun e=>hn (by simp [e])⟩⟩
 ·simp [Instr.mapUpdate,run_underlying underlying107,MapKept.run_getObj_map h1,kL,hj,MapKept.run_setObj_map _ h1,Result.andThen,ChangeMaps.setBlock]
 ·simp [h2]
 ·rcases List.mem_append.1 hk with q|q
  ·obtain ⟨g1,cs,t,g2⟩:=h4 k q
   exact ⟨g1,cs,t,(ho k (by omega)).trans g2⟩
  ·rw [List.mem_singleton.1 q]
   exact ⟨hB,cb,tb,(ho b (by omega)).trans hb⟩
end Go.Proofs.YtfiobemeogaaiaaGreat
namespace Go.Proofs.YtfiobemeogaaiaaGreat
open Go.Proofs.Tryz
open Go.RowKit Go.ChangeShapes Go.WideShapes Go.Deep
set_option linter.unusedVariables false
structure Opr where
 k:Int
 a:Int
 n:Int
 s:ByteArray
def Opr.fits (x:Opr):Prop:=(-9223372036854775808≤x.k∧x.k≤9223372036854775807)∧(-9223372036854775808≤x.a∧x.a≤9223372036854775807)∧(-9223372036854775808≤x.n∧x.n≤9223372036854775807)∧x.s.size≤maxLen
abbrev Opr.v (x:Opr):Value:=.agg #[.int .i64 x.k,.int .i64 x.a,.int .i64 x.n,.string x.s]
def Oprs (w:World) (B:Nat→Prop) (a:Option Addr) (l:List Opr):Prop:=
 ∀ (k:Nat) (h:k<l.length),∃ ad,a=some ad∧B ad.block∧w.cell? (ad.add (k * 4))=some (.int .i64 (l[k]).k)∧w.cell? ⟨(ad.add (k * 4)).block,(ad.add (k * 4)).off+1,none⟩=some (.int .i64 (l[k]).a)∧w.cell? ⟨(ad.add (k * 4)).block,(ad.add (k * 4)).off+2,none⟩=some (.int .i64 (l[k]).n)∧w.cell? ⟨(ad.add (k * 4)).block,(ad.add (k * 4)).off+3,none⟩=some (.string (l[k]).s)
theorem Oprs.keep {l:List Opr} (h:Oprs w B a l) (hk:∀ p:Addr,B p.block→w'.cell? p=w.cell? p):Oprs w' B a l:=fun k hl=>by
 obtain ⟨ad,e,hb,q0,q1,q2,q3⟩:=h k hl
 exact ⟨ad,e,hb,(hk _ (by rw [show (ad.add (k * 4)).block=ad.block by unfold Addr.add;split <;> rfl];exact hb)).trans q0,(hk _ (by show B (ad.add (k * 4)).block;rw [show (ad.add (k * 4)).block=ad.block by unfold Addr.add;split <;> rfl];exact hb)).trans q1,(hk _ (by show B (ad.add (k * 4)).block;rw [show (ad.add (k * 4)).block=ad.block by unfold Addr.add;split <;> rfl];exact hb)).trans q2,(hk _ (by show B (ad.add (k * 4)).block;rw [show (ad.add (k * 4)).block=ad.block by unfold Addr.add;split <;> rfl];exact hb)).trans q3⟩
theorem Oprs.below {N:Nat} {l:List Opr} (h:Oprs w B a l) (hN:∀ b,B b→b<N) (hb:Below N w w'):Oprs w' B a l:=h.keep fun _ hp=>hb.cell (hN _ hp)
theorem Oprs.more {w:World} {B B':Nat→Prop} {a:Option Addr} {l:List Opr} (h:Oprs w B a l) (hB:∀ b,B b→B' b):Oprs w B' a l:=fun k hl=>by
 obtain ⟨ad,e,hb,h1⟩:=h k hl
 exact ⟨ad,e,hB _ hb,h1⟩
section
variable {H : Type} {enc : TypeId × Value → H} {w : World} {base : Nat} {spare : Nat → Bool} {held : Bool}
set_option maxRecDepth 100000 in
theorem qK:prog.cellsOf 36=4:=by kernel_rfl
set_option maxRecDepth 100000 in
theorem LX {n:Nat} {cs:List Value} {x:DataW H×List MemPlace} (h:DataW.trod enc prog w base spare held n 36 cs=some x) :
 ∃ x:Opr,x.fits∧cs=[.int .i64 x.k,.int .i64 x.a,.int .i64 x.n,.string x.s]:=by
 obtain ⟨hl,hf⟩:=open_fields underlying36 (by kernel_rfl) h
 rw [qK] at hl
 obtain ⟨u0,u1,u2,u3,rfl⟩:∃ u0 u1 u2 u3,cs=[u0,u1,u2,u3]:=by
  match cs,hl with
  | [u0,u1,u2,u3],_=>exact ⟨u0,u1,u2,u3,rfl⟩
 obtain ⟨m0,y0,h0⟩:=hf 0 _ (by simp) rfl
 obtain ⟨x0,e0,_,w0⟩:=DataW.trod_int underlying3 h0
 have g0:u0=.int .i64 x0:=by simpa using e0
 obtain ⟨m1,y1,h1⟩:=hf 1 _ (by simp) rfl
 obtain ⟨x1,e1,_,w1⟩:=DataW.trod_int underlying3 h1
 have g1:u1=.int .i64 x1:=by simpa using e1
 obtain ⟨m2,y2,h2⟩:=hf 2 _ (by simp) rfl
 obtain ⟨x2,e2,_,w2⟩:=DataW.trod_int underlying3 h2
 have g2:u2=.int .i64 x2:=by simpa using e2
 obtain ⟨m3,y3,h3⟩:=hf 3 _ (by simp) rfl
 obtain ⟨x3,e3,_,w3⟩:=DataW.trod_string underlying9 h3
 have g3:u3=.string x3:=by simpa using e3
 subst g0 g1 g2 g3
 exact ⟨⟨x0,x1,x2,x3⟩,⟨bounds_i64 w0,bounds_i64 w1,bounds_i64 w2,w3⟩,rfl⟩
end
end Go.Proofs.YtfiobemeogaaiaaGreat
