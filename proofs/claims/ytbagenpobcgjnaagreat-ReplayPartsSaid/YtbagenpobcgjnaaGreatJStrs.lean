/-
  Joined: Strs, OpenEd, KnotMap, OpenOp, Zeros, TallyAdd.
-/
import Derived.Test.YtbagenpobcgjnaaGreatProg
import Derived.Test.YtbagenpobcgjnaaGreatJUtfLeaf
import Derived.Laws.OwnMore
import Derived.OwnWalk
import Derived.Deep.AppendLies
import Derived.Deep.Draws
import Derived.Test.YtbagenpobcgjnaaGreatJCells
import Derived.Test.YtbagenpobcgjnaaGreatJCommon
import Derived.Laws.Pointers
import Derived.LaidEqlPtr
import Derived.Maps.Own
import Derived.Laws.MakeOwn
import Derived.Test.YtbagenpobcgjnaaGreatJUtfRTake
variable {l:List ByteArray} {B:Nat→Prop} {a:Option Go.Addr} {t:Go.TypeId} {w w':Go.World}
namespace Go.Proofs.YtbagenpobcgjnaaGreat
open Go.Proofs.Tryz
open Go.RowKit
theorem EU (a:Addr) (k:Nat):(a.add k).block=a.block:=by unfold Addr.add;split <;> rfl
theorem bP (w:World) (v:Value) (t:TypeId):∀ j u,([v]:List Value)[j]? = some u→(w.alloc (.cells #[v] t)).cell? ((⟨w.heap.size,0,none⟩:Addr).add j)=some u:=by
 intro j u hj
 match j,hj with
 | 0,hj=>simp at hj;subst hj;simp [Addr.add,World.cell?_alloc_new]
def Strs (w:World) (B:Nat→Prop) (a:Option Addr) (l:List ByteArray):Prop:=
 ∀ (k:Nat) (h:k<l.length),∃ ad,a=some ad∧B ad.block∧w.cell? (ad.add k)=some (.string l[k])
theorem Strs.keep (h:Strs w B a l) (hk:∀ p:Addr,B p.block→w'.cell? p=w.cell? p):Strs w' B a l:=fun k hl=>by
 obtain ⟨ad,e,hb,q⟩:=h k hl
 exact ⟨ad,e,hb,(hk _ (by rw [EU];exact hb)).trans q⟩
theorem Strs.below {N:Nat} (h:Strs w B a l) (hN:∀ b,B b→b<N) (hb:Below N w w'):Strs w' B a l:=h.keep fun _ hp=>hb.cell (hN _ hp)
theorem Strs.weak {B':Nat→Prop} (h:Strs w B a l) (hB:∀ b,B b→B' b):Strs w B' a l:=fun k hl=>by
 obtain ⟨ad,e,hb,q⟩:=h k hl
 exact ⟨ad,e,hB _ hb,q⟩
abbrev StrsH (w:World) (a:Option Addr) (l:List ByteArray):Prop:=Strs w (·<w.heap.size) a l
theorem StrsH.on (h:StrsH w a l) (hb:Below w.heap.size w w'):StrsH w' a l:=(h.below (fun _ h=>h) hb).weak fun _ h=>Nat.lt_of_lt_of_le h hb.size
def strVs (l:List ByteArray):List Value:=l.map Value.string
theorem lB (l:List ByteArray) (x:ByteArray):strVs (l++[x])=strVs l++[.string x]:=by simp [strVs]
theorem JA {base:Nat} {v:Value} (h:w.ownsRow base t 1 v l.length (strVs l)):∃ a c,v=.slice a l.length c∧Strs w (fun b=>base≤b∧b<w.heap.size) a l:=by
 rcases h.2 with ⟨rfl,h0⟩|⟨g,cap,cur,rfl,hgb,hg,_⟩
 ·exact ⟨none,0,by rw [h0],fun k hk=>absurd hk (by omega)⟩
 ·exact ⟨_,_,rfl,fun k hk=>⟨_,rfl,⟨hgb,(h.lt g rfl).2⟩,h.cells (g:=g) rfl k _ (by unfold strVs;simp [hk])⟩⟩
def RetStrs (w:World) (l:List ByteArray) (e:Ending) (w':World):Prop:=∃ a c,e=.returned (.slice a l.length c)∧StrsH w' a l∧Below w.heap.size w w'
theorem mG:(prog.info? 9).map (fun i=>(i.zero,i.size,i.bytes))=some (some (.string ByteArray.empty),1,16):=by kernel_rfl
theorem bW {base:Nat} {e:TypeId} {size:Nat} {v:Value} {n:Nat} {xs:List Value} (h:w.ownsRow base e size v n xs) (hb:Below w.heap.size w w'):w'.ownsRow base e size v n xs:=by
 refine ⟨h.1,?_⟩
 rcases h.2 with h2|⟨g,cap,cur,hv,aa,hg,hr⟩
 ·exact .inl h2
 ·exact .inr ⟨g,cap,cur,hv,aa,(hb.block g (lt_of_block hg)).trans hg,hr⟩
theorem JO {x:ByteArray} (hb:Below (w.heap.size+1) (w.alloc (.cells #[.string x] t)) w'):StrsH w' (some ⟨w.heap.size,0,none⟩) [x]:=by
 intro k hk
 obtain rfl:k=0:=by simp at hk;omega
 refine ⟨_,rfl,?_,?_⟩
 ·have:=hb.size;simp at this;show w.heap.size<_;omega
 ·exact (hb.cell (p:=⟨w.heap.size,0,none⟩) (by simp)).trans (by simp [World.cell?_alloc_new])
theorem KS {x y:ByteArray} (hb:Below (w.heap.size+1) (w.alloc (.cells #[.string x,.string y] t)) w'):StrsH w' (some ⟨w.heap.size,0,none⟩) [x,y]:=by
 intro k hk
 have hz:w.heap.size<w'.heap.size:=by have:=hb.size;simp at this;omega
 match k,hk with
 | 0,_=>exact ⟨_,rfl,hz,(hb.cell (p:=⟨w.heap.size,0,none⟩) (by simp)).trans (by simp [World.cell?_alloc_new])⟩
 | 1,_=>exact ⟨_,rfl,hz,(hb.cell (p:=⟨w.heap.size,1,none⟩) (by simp)).trans (by simp [World.cell?_alloc_new])⟩
end Go.Proofs.YtbagenpobcgjnaaGreat
namespace Go.Proofs.YtbagenpobcgjnaaGreat
open Go.Proofs.Tryz
open Go.RowKit Go.ChangeShapes Go.WideShapes Go.Deep
set_option linter.unusedVariables false
structure Edt where
 p:Int
 o:ByteArray
 n:ByteArray
abbrev Edt.v (x:Edt):Value:=.agg #[.int .i64 x.p,.string x.o,.string x.n]
def Edts (w:World) (B:Nat→Prop) (a:Option Addr) (l:List Edt):Prop:=
 ∀ (k:Nat) (h:k<l.length),∃ ad,a=some ad∧B ad.block∧w.cell? (ad.add (k * 3))=some (.int .i64 (l[k]).p)∧w.cell? ⟨(ad.add (k * 3)).block,(ad.add (k * 3)).off+1,none⟩=some (.string (l[k]).o)∧w.cell? ⟨(ad.add (k * 3)).block,(ad.add (k * 3)).off+2,none⟩=some (.string (l[k]).n)
theorem Edts.keep {l:List Edt} (h:Edts w B a l) (hk:∀ p:Addr,B p.block→w'.cell? p=w.cell? p):Edts w' B a l:=fun k hl=>by
 obtain ⟨ad,e,hb,q0,q1,q2⟩:=h k hl
 exact ⟨ad,e,hb,(hk _ (by rw [show (ad.add (k * 3)).block=ad.block by unfold Addr.add;split <;> rfl];exact hb)).trans q0,(hk _ (by show B (ad.add (k * 3)).block;rw [show (ad.add (k * 3)).block=ad.block by unfold Addr.add;split <;> rfl];exact hb)).trans q1,(hk _ (by show B (ad.add (k * 3)).block;rw [show (ad.add (k * 3)).block=ad.block by unfold Addr.add;split <;> rfl];exact hb)).trans q2⟩
theorem Edts.below {N:Nat} {l:List Edt} (h:Edts w B a l) (hN:∀ b,B b→b<N) (hb:Below N w w'):Edts w' B a l:=h.keep fun _ hp=>hb.cell (hN _ hp)
theorem Edts.more {w:World} {B B':Nat→Prop} {a:Option Addr} {l:List Edt} (h:Edts w B a l) (hB:∀ b,B b→B' b):Edts w B' a l:=fun k hl=>by
 obtain ⟨ad,e,hb,h1⟩:=h k hl
 exact ⟨ad,e,hB _ hb,h1⟩
theorem Edts.set {l:List Edt} (h:Edts w B a l) {p:Addr} {x:Option Addr} {y z:Nat} (hc:w.cell? p=some (.slice x y z)) (u:Value):Edts (w.setCell p u) B a l:=fun k hl=>by
 obtain ⟨ad,e,hb,q0,q1,q2⟩:=h k hl
 exact ⟨ad,e,hb,(World.cell?_setCell_other _ _ _ _ (fun e=>by rw [e] at hc;rw [hc] at q0;cases q0)).trans q0,(World.cell?_setCell_other _ _ _ _ (fun e=>by rw [e] at hc;rw [hc] at q1;cases q1)).trans q1,(World.cell?_setCell_other _ _ _ _ (fun e=>by rw [e] at hc;rw [hc] at q2;cases q2)).trans q2⟩
section
variable {H : Type} {enc : TypeId × Value → H} {w : World} {base : Nat} {spare : Nat → Bool} {held : Bool}
end
def Edt.flat (l:List Edt):List Value:=l.flatMap fun x=>[.int .i64 x.p,.string x.o,.string x.n]
theorem Edt.flat_len (l:List Edt):(Edt.flat l).length=l.length * 3:=by
 unfold Edt.flat
 induction l with
 | nil=>rfl
 | cons a r ih=>rw [List.flatMap_cons,List.length_append,ih];simp;omega
theorem Edt.flat_app (a b:List Edt):Edt.flat (a++b)=Edt.flat a++Edt.flat b:=by simp [Edt.flat]
theorem Edt.flat_get (l:List Edt) (k:Nat) (h:k<l.length):(Edt.flat l)[k * 3]? = some (.int .i64 (l[k]'h).p)∧(Edt.flat l)[k * 3+1]? = some (.string (l[k]'h).o)∧(Edt.flat l)[k * 3+2]? = some (.string (l[k]'h).n):=by
 induction l generalizing k with
 | nil=>simp at h
 | cons a r ih =>
  have e:Edt.flat (a::r)=([.int .i64 a.p,.string a.o,.string a.n]:List Value)++Edt.flat r:=by simp [Edt.flat]
  rw [e]
  match k,h with
  | 0,_=>simp
  | k+1,h =>
   have hr:=ih k (by simpa using h)
   rw [show (k+1) * 3=([.int .i64 a.p,.string a.o,.string a.n]:List Value).length+k * 3 from by simp;omega]
   simp only [Nat.add_assoc,List.getElem?_append_right (Nat.le_add_right _ _),Nat.add_sub_cancel_left]
   exact hr
theorem jA:(prog.info? 92).map (fun i=>(i.zero,i.size,i.bytes))=some (some (.agg #[.int .i64 0,.string ByteArray.empty,.string ByteArray.empty]),3,40):=by kernel_rfl
theorem NC (p:Int) (o:ByteArray) (n:ByteArray):∀ u∈([.int .i64 p,.string o,.string n]:List Value),u.oneCell'=true:=by
 intro u hu
 simp at hu
 rcases hu with rfl|rfl|rfl <;> rfl
theorem IH {base:Nat} {v:Value} {l:List Edt} (h:w.ownsRow base t 3 v l.length (Edt.flat l)):∃ a c,v=.slice a l.length c∧Edts w (fun b=>base≤b∧b<w.heap.size) a l:=by
 rcases h.2 with ⟨rfl,h0⟩|⟨g,cap,cur,rfl,hgb,hg,_⟩
 ·exact ⟨none,0,by rw [h0],fun k hk=>absurd hk (by omega)⟩
 ·refine ⟨_,_,rfl,fun k hk=>⟨_,rfl,⟨hgb,(h.lt g rfl).2⟩,?_,?_,?_⟩⟩
  ·exact h.cells (g:=g) rfl (k * 3) _ (Edt.flat_get l k hk).1
  ·have:=h.cells (g:=g) rfl (k * 3+1) _ (Edt.flat_get l k hk).2.1
   have e:(⟨((⟨g,0,none⟩:Addr).add (k * 3)).block,((⟨g,0,none⟩:Addr).add (k * 3)).off+1,none⟩:Addr)=(⟨g,0,none⟩:Addr).add (k * 3+1):=by
    unfold Addr.add
    by_cases hk0:k * 3=0 <;> simp [hk0]
   rw [e];exact this
  ·have:=h.cells (g:=g) rfl (k * 3+2) _ (Edt.flat_get l k hk).2.2
   have e:(⟨((⟨g,0,none⟩:Addr).add (k * 3)).block,((⟨g,0,none⟩:Addr).add (k * 3)).off+2,none⟩:Addr)=(⟨g,0,none⟩:Addr).add (k * 3+2):=by
    unfold Addr.add
    by_cases hk0:k * 3=0 <;> simp [hk0]
   rw [e];exact this
end Go.Proofs.YtbagenpobcgjnaaGreat
namespace Go.Proofs.YtbagenpobcgjnaaGreat
open Go.RowKit
set_option linter.unusedVariables false
set_option linter.unusedSimpArgs false
end Go.Proofs.YtbagenpobcgjnaaGreat
namespace Go.Proofs.YtbagenpobcgjnaaGreat
open Go.Proofs.Tryz
set_option maxRecDepth 100000
open Go.RowKit Go.ChangeShapes Go.WideShapes Go.Deep
set_option linter.unusedVariables false
structure Opr where
 k:Int
 a:Int
 n:Int
 s:ByteArray
def Opr.fits (x:Opr):Prop:=(-9223372036854775808≤x.k∧x.k≤9223372036854775807)∧(-9223372036854775808≤x.a∧x.a≤9223372036854775807)∧(-9223372036854775808≤x.n∧x.n≤9223372036854775807)∧x.s.size≤maxLen
abbrev Opr.v (x:Opr):Value:=.agg #[.int .i64 x.k,.int .i64 x.a,.int .i64 x.n,.string x.s]
def Oprs (w:World) (B:Nat→Prop) (a:Option Addr) (l:List Opr):Prop:=
 ∀ (k:Nat) (h:k<l.length),∃ ad,a=some ad∧B ad.block∧w.cell? (ad.add (k * 4))=some (.int .i64 (l[k]).k)∧w.cell? ⟨(ad.add (k * 4)).block,(ad.add (k * 4)).off+1,none⟩=some (.int .i64 (l[k]).a)∧w.cell? ⟨(ad.add (k * 4)).block,(ad.add (k * 4)).off+2,none⟩=some (.int .i64 (l[k]).n)∧w.cell? ⟨(ad.add (k * 4)).block,(ad.add (k * 4)).off+3,none⟩=some (.string (l[k]).s)
theorem Oprs.keep {l:List Opr} (h:Oprs w B a l) (hk:∀ p:Addr,B p.block→w'.cell? p=w.cell? p):Oprs w' B a l:=fun k hl=>by
 obtain ⟨ad,e,hb,q0,q1,q2,q3⟩:=h k hl
 exact ⟨ad,e,hb,(hk _ (by rw [show (ad.add (k * 4)).block=ad.block by unfold Addr.add;split <;> rfl];exact hb)).trans q0,(hk _ (by show B (ad.add (k * 4)).block;rw [show (ad.add (k * 4)).block=ad.block by unfold Addr.add;split <;> rfl];exact hb)).trans q1,(hk _ (by show B (ad.add (k * 4)).block;rw [show (ad.add (k * 4)).block=ad.block by unfold Addr.add;split <;> rfl];exact hb)).trans q2,(hk _ (by show B (ad.add (k * 4)).block;rw [show (ad.add (k * 4)).block=ad.block by unfold Addr.add;split <;> rfl];exact hb)).trans q3⟩
theorem Oprs.below {N:Nat} {l:List Opr} (h:Oprs w B a l) (hN:∀ b,B b→b<N) (hb:Below N w w'):Oprs w' B a l:=h.keep fun _ hp=>hb.cell (hN _ hp)
theorem Oprs.more {w:World} {B B':Nat→Prop} {a:Option Addr} {l:List Opr} (h:Oprs w B a l) (hB:∀ b,B b→B' b):Oprs w B' a l:=fun k hl=>by
 obtain ⟨ad,e,hb,h1⟩:=h k hl
 exact ⟨ad,e,hB _ hb,h1⟩
section
variable {H : Type} {enc : TypeId × Value → H} {w : World} {base : Nat} {spare : Nat → Bool} {held : Bool}
theorem rD:prog.cellsOf 50=4:=by kernel_rfl
theorem IT {n:Nat} {cs:List Value} {x:DataW H×List MemPlace} (h:DataW.trod enc prog w base spare held n 50 cs=some x) :
 ∃ x:Opr,x.fits∧cs=[.int .i64 x.k,.int .i64 x.a,.int .i64 x.n,.string x.s]:=by
 obtain ⟨hl,hf⟩:=open_fields underlying50 (by kernel_rfl) h
 rw [rD] at hl
 obtain ⟨u0,u1,u2,u3,rfl⟩:∃ u0 u1 u2 u3,cs=[u0,u1,u2,u3]:=by
  match cs,hl with
  | [u0,u1,u2,u3],_=>exact ⟨u0,u1,u2,u3,rfl⟩
 obtain ⟨m0,y0,h0⟩:=hf 0 _ (by simp) rfl
 obtain ⟨x0,e0,_,w0⟩:=DataW.trod_int underlying3 h0
 have g0:u0=.int .i64 x0:=by simpa using e0
 obtain ⟨m1,y1,h1⟩:=hf 1 _ (by simp) rfl
 obtain ⟨x1,e1,_,w1⟩:=DataW.trod_int underlying3 h1
 have g1:u1=.int .i64 x1:=by simpa using e1
 obtain ⟨m2,y2,h2⟩:=hf 2 _ (by simp) rfl
 obtain ⟨x2,e2,_,w2⟩:=DataW.trod_int underlying3 h2
 have g2:u2=.int .i64 x2:=by simpa using e2
 obtain ⟨m3,y3,h3⟩:=hf 3 _ (by simp) rfl
 obtain ⟨x3,e3,_,w3⟩:=DataW.trod_string underlying9 h3
 have g3:u3=.string x3:=by simpa using e3
 subst g0 g1 g2 g3
 exact ⟨⟨x0,x1,x2,x3⟩,⟨bounds_i64 w0,bounds_i64 w1,bounds_i64 w2,w3⟩,rfl⟩
end
end Go.Proofs.YtbagenpobcgjnaaGreat
namespace Go.Proofs.YtbagenpobcgjnaaGreat
open Go.RowKit
open Go.Proofs.Tryz
set_option maxRecDepth 100000
open Lib (hid)
theorem gD (a:Addr) (n:Nat):(a.add n).block=a.block:=by unfold Addr.add;split <;> rfl
structure Cnt where
 b:Int
 r:Int
 l:Int
def Cnt.plus (x y:Cnt):Cnt:=⟨wrap64 (x.b+y.b),wrap64 (x.r+y.r),wrap64 (x.l+y.l)⟩
def Cnt.sum (l:List Cnt):Cnt:=l.foldl Cnt.plus ⟨0,0,0⟩
theorem Cnt.sum_snoc (l:List Cnt) (x:Cnt):Cnt.sum (l++[x])=(Cnt.sum l).plus x:=by unfold Cnt.sum;rw [List.foldl_append];rfl
def Cnts (w:World) (B:Nat) (a:Option Addr) (l:List Cnt):Prop:=
 ∀ (k:Nat) (h:k<l.length),∃ ad,a=some ad∧ad.block<B∧w.cell? (ad.add (k * 3))=some (.int .i64 (l[k]).b)∧w.cell? ⟨(ad.add (k * 3)).block,(ad.add (k * 3)).off+1,none⟩=some (.int .i64 (l[k]).r)∧w.cell? ⟨(ad.add (k * 3)).block,(ad.add (k * 3)).off+2,none⟩=some (.int .i64 (l[k]).l)
theorem Cnts.keep {B:Nat} {l:List Cnt} (h:Cnts w B a l) (hk:∀ p:Addr,p.block<B→w'.cell? p=w.cell? p):Cnts w' B a l:=fun k hl=>by
 obtain ⟨ad,e,hb,h1,h2,h3⟩:=h k hl
 exact ⟨ad,e,hb,(hk _ (by rw [gD];exact hb)).trans h1,(hk _ (by rw [gD];exact hb)).trans h2,(hk _ (by rw [gD];exact hb)).trans h3⟩
theorem Cnts.below {B:Nat} {l:List Cnt} (h:Cnts w B a l) (hb:Below B w w'):Cnts w' B a l:=h.keep fun _ hp=>hb.cell hp
theorem Cnts.more {w:World} {B B':Nat} {a:Option Addr} {l:List Cnt} (h:Cnts w B a l) (hB:B≤B'):Cnts w B' a l:=fun k hl=>by
 obtain ⟨ad,e,hb,h1⟩:=h k hl
 exact ⟨ad,e,by omega,h1⟩
theorem tK (l:List Cnt) (k:Nat) (h:k<l.length):Cnt.sum (l.take (k+1))=(Cnt.sum (l.take k)).plus (l[k]'h):=by
 rw [List.take_succ_eq_append_getElem h,Cnt.sum_snoc]
set_option maxHeartbeats 400000 in
theorem LK (a:Option Addr) (l:List Cnt) (c:Nat) (hl:l.length≤1000) (w:World) (hr:Cnts w w.heap.size a l) :
 Calls prog 211 #[.slice a l.length c] w fun e w'=>e=.returned (cntV (Cnt.sum l).b (Cnt.sum l).r (Cnt.sum l).l)∧Below w.heap.size w w':=by
 obtain ⟨n,hn⟩:∃ n,l.length=n:=⟨_,rfl⟩
 have HN:=hid hn
 rw [hn] at hl ⊢
 clear hn
 have HR:=hid hr;clear hr
 go_enter func211,ntmps211
 go_wp2
 go_loopw [9] (fun i wr=>∃ k:Nat,k≤n∧i=.int .i64 k∧Below w.heap.size w wr∧Blk3 wr w.heap.size (.int .i64 0) (.int .i64 0) (.int .i64 0) 173∧Blk3 wr (w.heap.size+1) (.int .i64 (Cnt.sum (l.take k)).b) (.int .i64 (Cnt.sum (l.take k)).r) (.int .i64 (Cnt.sum (l.take k)).l) 173) (fun i _=>n - (intOf i).toNat)
 case atStart=>exact ⟨0,by omega,rfl,((Below.refl _ _).alloc (Nat.le_refl _) _).alloc (by simp) _,(Blk3.new _ _ _ _ _).alloc _,Blk3.new (w.alloc (.cells #[.int .i64 0,.int .i64 0,.int .i64 0] 173)) (.int .i64 0) (.int .i64 0) (.int .i64 0) 173 |> fun h=>by rw [show (w.alloc (.cells #[.int .i64 0,.int .i64 0,.int .i64 0] 173)).heap.size=w.heap.size+1 by simp] at h;exact h⟩
 case round =>
  obtain ⟨k,hk,rfl,hbel,ab,aa⟩:=hrel
  by_cases hlt:k<n
  ·have hs:=tK l k (by rw [HN.out];exact hlt)
   have ac:=HR.out.below hbel
   obtain ⟨ad,rfl,hb,q1,q2,q3⟩:=ac k (by rw [HN.out];exact hlt)
   clear ac
   obtain ⟨x,hx⟩:∃ x,l[k]'(by rw [HN.out];exact hlt)=x:=⟨_,rfl⟩
   obtain ⟨y,hy⟩:∃ y,Cnt.sum (l.take k)=y:=⟨_,rfl⟩
   rw [hx] at hs q1 q2 q3
   rw [hy] at hs aa
   have HS:=hid hs;clear hs hx hy
   have ae:=aa.lt
   have f0:=aa.c0
   have f1:=aa.c1
   have f2:=aa.c2
   have f3:=aa.free 0
   have f4:=aa.free 1
   have f5:=aa.free 2
   have H0:=hid ab;have H1:=hid aa
   clear ab aa
   go_wp2
   go_roundw
   case rel =>
    refine ⟨k+1,by omega,by go_num,?_,?_,?_⟩
    ·exact (((hbel.setCell (p:=⟨w.heap.size+1,0,none⟩) (by simp) _).setCell (p:=⟨w.heap.size+1,1,none⟩) (by simp) _).setCell (p:=⟨w.heap.size+1,2,none⟩) (by simp) _).alloc (by simpa using hbel.size) _
    ·exact (((H0.out.other ⟨w.heap.size+1,0,none⟩ (by simp) _).other ⟨w.heap.size+1,1,none⟩ (by simp) _).other ⟨w.heap.size+1,2,none⟩ (by simp) _).alloc _
    ·rw [HS.out];exact (((H1.out.s0 _).s1 _).s2 _).alloc _
   case measure=>simp [intOf];omega
  ·have e:l.take k=l:=List.take_of_length_le (by rw [HN.out];omega)
   rw [e] at aa;clear e
   have f0:=aa.c0
   have f1:=aa.c1
   have f2:=aa.c2
   have g0:=ab.c0
   have g1:=ab.c1
   have g2:=ab.c2
   have g3:=ab.free 0
   have g4:=ab.free 1
   have g5:=ab.free 2
   have ae:=aa.lt
   clear ab aa
   go_wp2
   refine bodyPost_ret (v:=cntV (Cnt.sum l).b (Cnt.sum l).r (Cnt.sum l).l) (by simp [results,results211,go_sem,g0,g1,g2]) rfl ⟨rfl,?_⟩
   exact ((hbel.setCell (p:=⟨w.heap.size,0,none⟩) (Nat.le_refl _) _).setCell (p:=⟨w.heap.size,1,none⟩) (Nat.le_refl _) _).setCell (p:=⟨w.heap.size,2,none⟩) (Nat.le_refl _) _
end Go.Proofs.YtbagenpobcgjnaaGreat
