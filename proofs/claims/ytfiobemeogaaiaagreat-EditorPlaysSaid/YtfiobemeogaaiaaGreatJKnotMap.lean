/-
  Joined: KnotMap, OpenOp.
-/
import Derived.Test.YtfiobemeogaaiaaGreatProg
import Derived.Test.YtfiobemeogaaiaaGreatJBlk
import Derived.Laws.Pointers
import Derived.LaidEqlPtr
import Derived.Maps.Own
import Derived.Test.YtfiobemeogaaiaaGreatJCommon
namespace Go.Proofs.YtfiobemeogaaiaaGreat
open Go.RowKit
set_option linter.unusedVariables false
set_option linter.unusedSimpArgs false
def Seen (w:World) (B m:Nat) (ks:List Nat):Prop:=
 (∃ es clock,w.heap[m]? = some (.map es clock)∧es.toList.map (fun e=>(e.key,e.val))=ks.map fun b=>(Value.pointer (some ⟨b,0,none⟩),Value.agg #[]))∧B≤m∧∀ k∈ks,k<B∧∃ cs t,Blk w k cs t
theorem Seen.lt {w:World} {B m:Nat} {ks:List Nat} (h:Seen w B m ks):m<w.heap.size:=by
 obtain ⟨⟨es,clock,h1,h2⟩,_⟩:=h
 exact (Array.getElem?_eq_some_iff.1 h1).1
theorem Seen.keep {w w':World} {B m:Nat} {ks:List Nat} (h:Seen w B m ks) (hk:w'.heap[m]? = w.heap[m]?) (hb:∀ i,i<B→w'.heap[i]? = w.heap[i]?):Seen w' B m ks:=by
 obtain ⟨⟨es,clock,h1,h2⟩,h3,h4⟩:=h
 refine ⟨⟨es,clock,hk.trans h1,h2⟩,h3,fun k hm=>?_⟩
 obtain ⟨g1,cs,t,g2⟩:=h4 k hm
 exact ⟨g1,cs,t,(hb k g1).trans g2⟩
theorem Seen.on {w w':World} {B m:Nat} {ks:List Nat} (h:Seen w B m ks) (hb:Below w.heap.size w w'):Seen w' B m ks:=
 h.keep (hb.block m h.lt) fun i hi=>hb.block i (Nat.lt_trans (Nat.lt_of_lt_of_le hi h.2.1) h.lt)
theorem Seen.made (w:World):Seen (w.alloc (.map #[] 0)) w.heap.size w.heap.size []:=⟨⟨#[],0,(MapKept.heap_alloc w _).1,rfl⟩,Nat.le_refl _,fun k hk=>absurd hk (by simp)⟩
theorem wS:∃ j,Tryz.prog.info? 141=some j∧j.size≠0:=by
 have h:(Tryz.prog.info? 141).map (fun i=>decide (i.size=0))=some false:=by kernel_rfl
 cases g:Tryz.prog.info? 141 with
 | none=>rw [g] at h;cases h
 | some j =>
  rw [g] at h
  exact ⟨j,rfl,by simpa using h⟩
theorem xO {w:World} {a b:Nat} {ca cb:Array Value} {ta tb:TypeId} (ha:Blk w a ca ta) (hb:Blk w b cb tb) :
 (Op.equal 71 (.pointer (some ⟨a,0,none⟩)) (.pointer (some ⟨b,0,none⟩))).run Tryz.prog w=.ok (decide (a=b)) w:=by
 obtain ⟨j,hj,hz⟩:=wS
 by_cases h:a=b
 ·subst h
  have g:∀ d:Nat,(Op.equalIn (d+1) 71 (.pointer (some ⟨a,0,none⟩)) (.pointer (some ⟨a,0,none⟩))).run Tryz.prog w=.ok true w:=fun d=>by
   simp [Op.equalIn,run_underlying Tryz.underlying71,sizeOf,typeInfo,hj,run_sameAddr_same]
  simp [Op.equal,Op.maxDepth,g 9999]
 ·have hne:(⟨a,0,none⟩:Addr)≠⟨b,0,none⟩:=fun e=>h (by injection e)
  have g:∀ d:Nat,(Op.equalIn (d+1) 71 (.pointer (some ⟨a,0,none⟩)) (.pointer (some ⟨b,0,none⟩))).run Tryz.prog w=.ok false w:=fun d=>by
   simp [Op.equalIn,run_underlying Tryz.underlying71,sizeOf,typeInfo,hj,hz,run_sameAddr_other w hne ha hb]
  simp [Op.equal,Op.maxDepth,g 9999,h]
theorem qB {w:World} {b:Nat} {cb:Array Value} {tb:TypeId} (hb:Blk w b cb tb):∀ (es:List MapEntry) (ks:List Nat) (i:Nat),es.map (fun e=>(e.key,e.val))=ks.map (fun b=>(Value.pointer (some ⟨b,0,none⟩),Value.agg #[]))→(∀ k∈ks,∃ cs t,Blk w k cs t) →
 (b∈ks→∃ j,(Instr.findAsking 71 (.pointer (some ⟨b,0,none⟩)) es i).run Tryz.prog w=.ok (some (j,.agg #[])) w) ∧
 (b ∉ ks→(Instr.findAsking 71 (.pointer (some ⟨b,0,none⟩)) es i).run Tryz.prog w=.ok none w):=by
 intro es
 induction es with
 | nil =>
  intro ks i h _
  cases ks with
  | nil=>exact ⟨fun g=>absurd g (by simp),fun _=>rfl⟩
  | cons k ks=>cases h
 | cons e es ih =>
  intro ks i h hc
  cases ks with
  | nil=>cases h
  | cons k ks =>
   simp only [List.map_cons,List.cons.injEq,Prod.mk.injEq] at h
   obtain ⟨⟨h1,h2⟩,h3⟩:=h
   obtain ⟨i1,i2⟩:=ih ks (i+1) h3 fun x hx=>hc x (by simp [hx])
   obtain ⟨cs,tk,hk⟩:=hc k (by simp)
   have hq:=xO hb hk
   by_cases hbk:b=k
   ·subst hbk
    rw [decide_eq_true rfl] at hq
    refine ⟨fun _=>⟨i,?_⟩,fun g=>absurd (by simp) g⟩
    unfold Instr.findAsking
    simp [h1,h2,hq,go_sem]
   ·rw [decide_eq_false hbk] at hq
    have e1:(Instr.findAsking 71 (.pointer (some ⟨b,0,none⟩)) (e::es) i).run Tryz.prog w=(Instr.findAsking 71 (.pointer (some ⟨b,0,none⟩)) es (i+1)).run Tryz.prog w:=by
     conv=>lhs;unfold Instr.findAsking
     simp [h1,hq,go_sem]
    refine ⟨fun g=>?_,fun g=>?_⟩
    ·obtain ⟨j,hj⟩:=i1 (by simpa [hbk] using g)
     exact ⟨j,e1.trans hj⟩
    ·exact e1.trans (i2 (fun q=>g (by simp [q])))
theorem mU (w:World) (b:Nat) (es:List MapEntry):(Instr.findKey 71 (.pointer (some ⟨b,0,none⟩)) es).run Tryz.prog w=(Instr.findAsking 71 (.pointer (some ⟨b,0,none⟩)) es 0).run Tryz.prog w:=by
 have hu:(underlying 71).run Tryz.prog w=.ok (.pointer 141) w:=run_underlying Tryz.underlying71 w
 unfold Instr.findKey
 cases es with
 | nil=>simp [hu,Instr.findNow,Instr.findAsking]
 | cons e es=>simp [hu,Instr.findNow,Instr.sameNow]
theorem lB (w:World) (b:Nat) (c:Bool):(Instr.checkKey c 10000 71 (.pointer (some ⟨b,0,none⟩))).run Tryz.prog w=.ok () w:=by
 have hu:(underlying 71).run Tryz.prog w=.ok (.pointer 141) w:=run_underlying Tryz.underlying71 w
 have h:∀ n:Nat,(Instr.checkKey c (n+1) 71 (.pointer (some ⟨b,0,none⟩))).run Tryz.prog w=.ok () w:=fun n=>by simp [Instr.checkKey,hu]
 exact h 9999
theorem Seen.look {w:World} {B m:Nat} {ks:List Nat} (h:Seen w B m ks) {b:Nat} {cb:Array Value} {tb:TypeId} (hb:Blk w b cb tb) :
 (Instr.lookup 107 (.map (some m)) (.pointer (some ⟨b,0,none⟩)) true).run Tryz.prog w=.ok (.tuple #[.agg #[],.bool (decide (b∈ks))]) w:=by
 obtain ⟨⟨es,clock,h1,h2⟩,h3,h4⟩:=h
 obtain ⟨i1,i2⟩:=qB hb es.toList ks 0 h2 fun k hk=>(h4 k hk).2
 rw [← mU] at i2
 have hz:=Tryz.zeroValue108 w
 by_cases g:b∈ks
 ·obtain ⟨j,hj⟩:=i1 g
  rw [← mU] at hj
  rw [decide_eq_true g]
  simp [Instr.lookup,run_underlying Tryz.underlying107,MapKept.run_getObj_map h1,lB,hj,Result.andThen]
 ·have hj:=i2 g
  rw [decide_eq_false g]
  simp [Instr.lookup,run_underlying Tryz.underlying107,MapKept.run_getObj_map h1,lB,hj,hz,Result.andThen]
theorem Seen.put {w:World} {B m:Nat} {ks:List Nat} (h:Seen w B m ks) {b:Nat} {cb:Array Value} {tb:TypeId} (hb:Blk w b cb tb) (hB:b<B) (g:b ∉ ks) :
 ∃ w',(Instr.mapUpdate 107 (.map (some m)) (.pointer (some ⟨b,0,none⟩)) (.agg #[])).run Tryz.prog w=.ok () w'∧Seen w' B m (ks++[b])∧Apart [m] w w':=by
 obtain ⟨⟨es,clock,h1,h2⟩,h3,h4⟩:=h
 have hj:=(qB hb es.toList ks 0 h2 fun k hk=>(h4 k hk).2).2 g
 rw [← mU] at hj
 have hlt:=(Array.getElem?_eq_some_iff.1 h1).1
 have ho:∀ i,i≠m→(ChangeMaps.setBlock w m (.map (es.push { key:=.pointer (some ⟨b,0,none⟩),val:=.agg #[],born:=clock }) (clock+1))).heap[i]? = w.heap[i]? :=fun i hi=>ChangeMaps.heap_setBlock_other h1 _ hi
 have hz:(ChangeMaps.setBlock w m (.map (es.push { key:=.pointer (some ⟨b,0,none⟩),val:=.agg #[],born:=clock }) (clock+1))).heap.size=w.heap.size:=by simp [ChangeMaps.setBlock]
 refine ⟨_,?_,⟨⟨_,_,ChangeMaps.heap_setBlock_same h1 _,?_⟩,h3,fun k hk=>?_⟩,⟨rfl,rfl,rfl,Nat.le_of_eq hz.symm,fun k hk hn=>ho k fun e=>hn (by simp [e])⟩⟩
 ·simp [Instr.mapUpdate,run_underlying Tryz.underlying107,MapKept.run_getObj_map h1,lB,hj,MapKept.run_setObj_map _ h1,Result.andThen,ChangeMaps.setBlock]
 ·simp [h2]
 ·rcases List.mem_append.1 hk with q|q
  ·obtain ⟨g1,cs,t,g2⟩:=h4 k q
   exact ⟨g1,cs,t,(ho k (by omega)).trans g2⟩
  ·rw [List.mem_singleton.1 q]
   exact ⟨hB,cb,tb,(ho b (by omega)).trans hb⟩
end Go.Proofs.YtfiobemeogaaiaaGreat
namespace Go.Proofs.YtfiobemeogaaiaaGreat
open Go.RowKit Go.ChangeShapes Go.WideShapes Go.Deep
set_option linter.unusedVariables false
structure Opr where
 k:Int
 a:Int
 n:Int
 s:ByteArray
def Opr.fits (x:Opr):Prop:=(-9223372036854775808≤x.k∧x.k≤9223372036854775807)∧(-9223372036854775808≤x.a∧x.a≤9223372036854775807)∧(-9223372036854775808≤x.n∧x.n≤9223372036854775807)∧x.s.size≤maxLen
abbrev Opr.v (x:Opr):Value:=.agg #[.int .i64 x.k,.int .i64 x.a,.int .i64 x.n,.string x.s]
def Oprs (w:World) (B:Nat→Prop) (a:Option Addr) (l:List Opr):Prop:=
 ∀ (k:Nat) (h:k<l.length),∃ ad,a=some ad∧B ad.block∧w.cell? (ad.add (k * 4))=some (.int .i64 (l[k]).k)∧w.cell? ⟨(ad.add (k * 4)).block,(ad.add (k * 4)).off+1,none⟩=some (.int .i64 (l[k]).a)∧w.cell? ⟨(ad.add (k * 4)).block,(ad.add (k * 4)).off+2,none⟩=some (.int .i64 (l[k]).n)∧w.cell? ⟨(ad.add (k * 4)).block,(ad.add (k * 4)).off+3,none⟩=some (.string (l[k]).s)
theorem Oprs.keep {w w':World} {B:Nat→Prop} {a:Option Addr} {l:List Opr} (h:Oprs w B a l) (hk:∀ p:Addr,B p.block→w'.cell? p=w.cell? p):Oprs w' B a l:=fun k hl=>by
 obtain ⟨ad,e,hb,q0,q1,q2,q3⟩:=h k hl
 exact ⟨ad,e,hb,(hk _ (by rw [show (ad.add (k * 4)).block=ad.block by unfold Addr.add;split <;> rfl];exact hb)).trans q0,(hk _ (by show B (ad.add (k * 4)).block;rw [show (ad.add (k * 4)).block=ad.block by unfold Addr.add;split <;> rfl];exact hb)).trans q1,(hk _ (by show B (ad.add (k * 4)).block;rw [show (ad.add (k * 4)).block=ad.block by unfold Addr.add;split <;> rfl];exact hb)).trans q2,(hk _ (by show B (ad.add (k * 4)).block;rw [show (ad.add (k * 4)).block=ad.block by unfold Addr.add;split <;> rfl];exact hb)).trans q3⟩
theorem Oprs.below {w w':World} {B:Nat→Prop} {N:Nat} {a:Option Addr} {l:List Opr} (h:Oprs w B a l) (hN:∀ b,B b→b<N) (hb:Below N w w'):Oprs w' B a l:=h.keep fun _ hp=>hb.cell (hN _ hp)
section
variable {H : Type} {enc : TypeId × Value → H} {w : World} {base : Nat} {spare : Nat → Bool} {held : Bool}
set_option maxRecDepth 100000 in
theorem pT:Tryz.prog.cellsOf 36=4:=by kernel_rfl
set_option maxRecDepth 100000 in
theorem JY {n:Nat} {cs:List Value} {x:DataW H×List MemPlace} (h:DataW.trod enc Tryz.prog w base spare held n 36 cs=some x) :
 ∃ x:Opr,x.fits∧cs=[.int .i64 x.k,.int .i64 x.a,.int .i64 x.n,.string x.s]:=by
 obtain ⟨hl,hf⟩:=open_fields Tryz.underlying36 (by kernel_rfl) h
 rw [pT] at hl
 obtain ⟨u0,u1,u2,u3,rfl⟩:∃ u0 u1 u2 u3,cs=[u0,u1,u2,u3]:=by
  match cs,hl with
  | [u0,u1,u2,u3],_=>exact ⟨u0,u1,u2,u3,rfl⟩
 obtain ⟨m0,y0,h0⟩:=hf 0 _ (by simp) rfl
 obtain ⟨x0,e0,_,w0⟩:=DataW.trod_int Tryz.underlying3 h0
 have g0:u0=.int .i64 x0:=by simpa using e0
 obtain ⟨m1,y1,h1⟩:=hf 1 _ (by simp) rfl
 obtain ⟨x1,e1,_,w1⟩:=DataW.trod_int Tryz.underlying3 h1
 have g1:u1=.int .i64 x1:=by simpa using e1
 obtain ⟨m2,y2,h2⟩:=hf 2 _ (by simp) rfl
 obtain ⟨x2,e2,_,w2⟩:=DataW.trod_int Tryz.underlying3 h2
 have g2:u2=.int .i64 x2:=by simpa using e2
 obtain ⟨m3,y3,h3⟩:=hf 3 _ (by simp) rfl
 obtain ⟨x3,e3,_,w3⟩:=DataW.trod_string Tryz.underlying9 h3
 have g3:u3=.string x3:=by simpa using e3
 subst g0 g1 g2 g3
 exact ⟨⟨x0,x1,x2,x3⟩,⟨bounds_i64 w0,bounds_i64 w1,bounds_i64 w2,w3⟩,rfl⟩
end
end Go.Proofs.YtfiobemeogaaiaaGreat
