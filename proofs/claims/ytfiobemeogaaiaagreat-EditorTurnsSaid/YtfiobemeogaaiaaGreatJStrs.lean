/-
  Joined: Strs, KnotMap, OpenOp.
-/
import Derived.Test.YtfiobemeogaaiaaGreatProg
import Derived.Test.YtfiobemeogaaiaaGreatJUtfLeaf
import Derived.Laws.OwnMore
import Derived.OwnWalk
import Derived.Deep.AppendLies
import Derived.Deep.Draws
import Derived.Test.YtfiobemeogaaiaaGreatJBlk
import Derived.Laws.Pointers
import Derived.LaidEqlPtr
import Derived.Maps.Own
import Derived.Test.YtfiobemeogaaiaaGreatJCommon
namespace Go.Proofs.YtfiobemeogaaiaaGreat
open Go.RowKit
theorem xE (a:Addr) (k:Nat):(a.add k).block=a.block:=by unfold Addr.add;split <;> rfl
theorem bJ (w:World) (v:Value) (t:TypeId):∀ j u,([v]:List Value)[j]? = some u→(w.alloc (.cells #[v] t)).cell? ((⟨w.heap.size,0,none⟩:Addr).add j)=some u:=by
 intro j u hj
 match j,hj with
 | 0,hj=>simp at hj;subst hj;simp [Addr.add,World.cell?_alloc_new]
def Strs (w:World) (B:Nat→Prop) (a:Option Addr) (l:List ByteArray):Prop:=
 ∀ (k:Nat) (h:k<l.length),∃ ad,a=some ad∧B ad.block∧w.cell? (ad.add k)=some (.string l[k])
theorem Strs.keep {w w':World} {B:Nat→Prop} {a:Option Addr} {l:List ByteArray} (h:Strs w B a l) (hk:∀ p:Addr,B p.block→w'.cell? p=w.cell? p):Strs w' B a l:=fun k hl=>by
 obtain ⟨ad,e,hb,q⟩:=h k hl
 exact ⟨ad,e,hb,(hk _ (by rw [xE];exact hb)).trans q⟩
theorem Strs.below {w w':World} {B:Nat→Prop} {N:Nat} {a:Option Addr} {l:List ByteArray} (h:Strs w B a l) (hN:∀ b,B b→b<N) (hb:Below N w w'):Strs w' B a l:=h.keep fun _ hp=>hb.cell (hN _ hp)
theorem Strs.weak {w:World} {B B':Nat→Prop} {a:Option Addr} {l:List ByteArray} (h:Strs w B a l) (hB:∀ b,B b→B' b):Strs w B' a l:=fun k hl=>by
 obtain ⟨ad,e,hb,q⟩:=h k hl
 exact ⟨ad,e,hB _ hb,q⟩
abbrev StrsH (w:World) (a:Option Addr) (l:List ByteArray):Prop:=Strs w (·<w.heap.size) a l
theorem StrsH.on {w w':World} {a:Option Addr} {l:List ByteArray} (h:StrsH w a l) (hb:Below w.heap.size w w'):StrsH w' a l:=(h.below (fun _ h=>h) hb).weak fun _ h=>Nat.lt_of_lt_of_le h hb.size
def strVs (l:List ByteArray):List Value:=l.map Value.string
theorem gX (l:List ByteArray) (x:ByteArray):strVs (l++[x])=strVs l++[.string x]:=by simp [strVs]
theorem EK {w:World} {base:Nat} {t:TypeId} {v:Value} {l:List ByteArray} (h:w.ownsRow base t 1 v l.length (strVs l)):∃ a c,v=.slice a l.length c∧Strs w (fun b=>base≤b∧b<w.heap.size) a l:=by
 rcases h.2 with ⟨rfl,h0⟩|⟨g,cap,cur,rfl,hgb,hg,_⟩
 ·exact ⟨none,0,by rw [h0],fun k hk=>absurd hk (by omega)⟩
 ·exact ⟨_,_,rfl,fun k hk=>⟨_,rfl,⟨hgb,(h.lt g rfl).2⟩,h.cells (g:=g) rfl k _ (by unfold strVs;simp [hk])⟩⟩
def RetStrs (w:World) (l:List ByteArray) (e:Ending) (w':World):Prop:=∃ a c,e=.returned (.slice a l.length c)∧StrsH w' a l∧Below w.heap.size w w'
theorem jL:(Tryz.prog.info? 9).map (fun i=>(i.zero,i.size,i.bytes))=some (some (.string ByteArray.empty),1,16):=by kernel_rfl
theorem bL {w w':World} {base:Nat} {e:TypeId} {size:Nat} {v:Value} {n:Nat} {xs:List Value} (h:w.ownsRow base e size v n xs) (hb:Below w.heap.size w w'):w'.ownsRow base e size v n xs:=by
 refine ⟨h.1,?_⟩
 rcases h.2 with h2|⟨g,cap,cur,hv,aa,hg,hr⟩
 ·exact .inl h2
 ·exact .inr ⟨g,cap,cur,hv,aa,(hb.block g (lt_of_block hg)).trans hg,hr⟩
theorem DG {w w':World} {x:ByteArray} {t:TypeId} (hb:Below (w.heap.size+1) (w.alloc (.cells #[.string x] t)) w'):StrsH w' (some ⟨w.heap.size,0,none⟩) [x]:=by
 intro k hk
 obtain rfl:k=0:=by simp at hk;omega
 refine ⟨_,rfl,?_,?_⟩
 ·have:=hb.size;simp at this;show w.heap.size<_;omega
 ·exact (hb.cell (p:=⟨w.heap.size,0,none⟩) (by simp)).trans (by simp [World.cell?_alloc_new])
theorem DT {w w':World} {x y:ByteArray} {t:TypeId} (hb:Below (w.heap.size+1) (w.alloc (.cells #[.string x,.string y] t)) w'):StrsH w' (some ⟨w.heap.size,0,none⟩) [x,y]:=by
 intro k hk
 have hz:w.heap.size<w'.heap.size:=by have:=hb.size;simp at this;omega
 match k,hk with
 | 0,_=>exact ⟨_,rfl,hz,(hb.cell (p:=⟨w.heap.size,0,none⟩) (by simp)).trans (by simp [World.cell?_alloc_new])⟩
 | 1,_=>exact ⟨_,rfl,hz,(hb.cell (p:=⟨w.heap.size,1,none⟩) (by simp)).trans (by simp [World.cell?_alloc_new])⟩
set_option linter.unusedVariables false
set_option linter.unusedSimpArgs false
end Go.Proofs.YtfiobemeogaaiaaGreat
namespace Go.Proofs.YtfiobemeogaaiaaGreat
open Go.RowKit Go.ChangeShapes Go.WideShapes Go.Deep
set_option linter.unusedVariables false
structure Opr where
 k:Int
 a:Int
 n:Int
 s:ByteArray
def Opr.fits (x:Opr):Prop:=(-9223372036854775808≤x.k∧x.k≤9223372036854775807)∧(-9223372036854775808≤x.a∧x.a≤9223372036854775807)∧(-9223372036854775808≤x.n∧x.n≤9223372036854775807)∧x.s.size≤maxLen
abbrev Opr.v (x:Opr):Value:=.agg #[.int .i64 x.k,.int .i64 x.a,.int .i64 x.n,.string x.s]
def Oprs (w:World) (B:Nat→Prop) (a:Option Addr) (l:List Opr):Prop:=
 ∀ (k:Nat) (h:k<l.length),∃ ad,a=some ad∧B ad.block∧w.cell? (ad.add (k * 4))=some (.int .i64 (l[k]).k)∧w.cell? ⟨(ad.add (k * 4)).block,(ad.add (k * 4)).off+1,none⟩=some (.int .i64 (l[k]).a)∧w.cell? ⟨(ad.add (k * 4)).block,(ad.add (k * 4)).off+2,none⟩=some (.int .i64 (l[k]).n)∧w.cell? ⟨(ad.add (k * 4)).block,(ad.add (k * 4)).off+3,none⟩=some (.string (l[k]).s)
theorem Oprs.keep {w w':World} {B:Nat→Prop} {a:Option Addr} {l:List Opr} (h:Oprs w B a l) (hk:∀ p:Addr,B p.block→w'.cell? p=w.cell? p):Oprs w' B a l:=fun k hl=>by
 obtain ⟨ad,e,hb,q0,q1,q2,q3⟩:=h k hl
 exact ⟨ad,e,hb,(hk _ (by rw [show (ad.add (k * 4)).block=ad.block by unfold Addr.add;split <;> rfl];exact hb)).trans q0,(hk _ (by show B (ad.add (k * 4)).block;rw [show (ad.add (k * 4)).block=ad.block by unfold Addr.add;split <;> rfl];exact hb)).trans q1,(hk _ (by show B (ad.add (k * 4)).block;rw [show (ad.add (k * 4)).block=ad.block by unfold Addr.add;split <;> rfl];exact hb)).trans q2,(hk _ (by show B (ad.add (k * 4)).block;rw [show (ad.add (k * 4)).block=ad.block by unfold Addr.add;split <;> rfl];exact hb)).trans q3⟩
theorem Oprs.below {w w':World} {B:Nat→Prop} {N:Nat} {a:Option Addr} {l:List Opr} (h:Oprs w B a l) (hN:∀ b,B b→b<N) (hb:Below N w w'):Oprs w' B a l:=h.keep fun _ hp=>hb.cell (hN _ hp)
theorem Oprs.more {w:World} {B B':Nat→Prop} {a:Option Addr} {l:List Opr} (h:Oprs w B a l) (hB:∀ b,B b→B' b):Oprs w B' a l:=fun k hl=>by
 obtain ⟨ad,e,hb,h1⟩:=h k hl
 exact ⟨ad,e,hB _ hb,h1⟩
section
variable {H : Type} {enc : TypeId × Value → H} {w : World} {base : Nat} {spare : Nat → Bool} {held : Bool}
set_option maxRecDepth 100000 in
theorem nR:Tryz.prog.cellsOf 36=4:=by kernel_rfl
set_option maxRecDepth 100000 in
theorem oY {n:Nat} {cs:List Value} {x:DataW H×List MemPlace} (h:DataW.trod enc Tryz.prog w base spare held n 36 cs=some x) :
 ∃ x:Opr,x.fits∧cs=[.int .i64 x.k,.int .i64 x.a,.int .i64 x.n,.string x.s]:=by
 obtain ⟨hl,hf⟩:=open_fields Tryz.underlying36 (by kernel_rfl) h
 rw [nR] at hl
 obtain ⟨u0,u1,u2,u3,rfl⟩:∃ u0 u1 u2 u3,cs=[u0,u1,u2,u3]:=by
  match cs,hl with
  | [u0,u1,u2,u3],_=>exact ⟨u0,u1,u2,u3,rfl⟩
 obtain ⟨m0,y0,h0⟩:=hf 0 _ (by simp) rfl
 obtain ⟨x0,e0,_,w0⟩:=DataW.trod_int Tryz.underlying3 h0
 have g0:u0=.int .i64 x0:=by simpa using e0
 obtain ⟨m1,y1,h1⟩:=hf 1 _ (by simp) rfl
 obtain ⟨x1,e1,_,w1⟩:=DataW.trod_int Tryz.underlying3 h1
 have g1:u1=.int .i64 x1:=by simpa using e1
 obtain ⟨m2,y2,h2⟩:=hf 2 _ (by simp) rfl
 obtain ⟨x2,e2,_,w2⟩:=DataW.trod_int Tryz.underlying3 h2
 have g2:u2=.int .i64 x2:=by simpa using e2
 obtain ⟨m3,y3,h3⟩:=hf 3 _ (by simp) rfl
 obtain ⟨x3,e3,_,w3⟩:=DataW.trod_string Tryz.underlying9 h3
 have g3:u3=.string x3:=by simpa using e3
 subst g0 g1 g2 g3
 exact ⟨⟨x0,x1,x2,x3⟩,⟨bounds_i64 w0,bounds_i64 w1,bounds_i64 w2,w3⟩,rfl⟩
set_option maxRecDepth 100000 in
theorem open_opr {r:Reach} {b0:Nat} {v:Value} {d:DataW H} {p:List MemPlace} (hv:Value.okWide Tryz.prog w r b0 36 v) (h:DataW.Trod enc Tryz.prog w base spare held 36 v d p) (_:∀ x∈p,x.block<w.heap.size) :
 ∃ x:Opr,v=x.v∧x.fits:=by
 obtain ⟨cs,rfl,_⟩:=okWide_struct Tryz.underlying36 hv
 obtain ⟨n,hn⟩:=h
 obtain ⟨x,hc,he⟩:=oY hn
 refine ⟨x,?_,hc⟩
 have:cs.toList=[.int .i64 x.k,.int .i64 x.a,.int .i64 x.n,.string x.s]:=by simpa [Value.cells] using he
 show Value.agg cs=_
 rw [show cs=#[.int .i64 x.k,.int .i64 x.a,.int .i64 x.n,.string x.s] from Array.toList_inj.1 this]
end
end Go.Proofs.YtfiobemeogaaiaaGreat
