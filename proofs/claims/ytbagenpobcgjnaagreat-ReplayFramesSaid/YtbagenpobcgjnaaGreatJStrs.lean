/-
  Joined: Strs, OpenEd, KnotMap, OpenOp, Zeros, TallyAdd.
-/
import Derived.Test.YtbagenpobcgjnaaGreatProg
import Derived.Test.YtbagenpobcgjnaaGreatJUtfLeaf
import Derived.Deep.AppendLies
import Derived.Test.YtbagenpobcgjnaaGreatJCells
import Derived.Test.YtbagenpobcgjnaaGreatJUtfRTake
open ByteArray renaming empty->zx
open Go renaming Addr->zo,Value->zp,World->zr,bounds_i64->Aa
open Go.Addr renaming add->zq
open Go.IntKind renaming i64->zm
open Go.Value renaming int->zk,slice->zv,string->zn
open Go.World renaming cell?_alloc_new->zu,cell?_setCell_other->zy
open Nat renaming le_refl->zw
variable {l:List ByteArray} {B:Nat→Prop} {a:Option Go.Addr} {t:Go.TypeId} {w w':Go.World}
namespace Go.Proofs.YtbagenpobcgjnaaGreat
open Go.Proofs.Tryz
open Go.RowKit
theorem MF (a:zo) (k:Nat):(a.add k).block=a.block:=by unfold zq;split <;> rfl
theorem cJ (w:zr) (v:zp) (t:TypeId):∀ j u,([v]:List zp)[j]? = some u→(w.alloc (.cells #[v] t)) ((⟨w,0,none⟩:zo).add j)=some u:=by
 intro j u hj
 match j,hj with
 | 0,hj=>simp at hj;subst hj;simp [zq,zu]
def wf (w:zr) (B:Nat→Prop) (a:Option zo) (l:List ByteArray):Prop:=
 ∀ (k:Nat) (h:k<l.length),∃ ad,a=some ad∧B ad.block∧w (ad.add k)=some (zn l[k])
theorem wf.keep (h:wf w B a l) (hk:∀ p:zo,B p.block→w' p=w p):wf w' B a l:=fun k hl=>by
 obtain ⟨ad,e,hb,q⟩:=h k hl;exact ⟨ad,e,hb,(hk _ (by rw [MF];exact hb)).trans q⟩
theorem wf.below {N:Nat} (h:wf w B a l) (hN:∀ b,B b→b<N) (hb:Below N w w'):wf w' B a l:=h.keep fun _ hp=>hb.cell (hN _ hp)
theorem wf.weak {B':Nat→Prop} (h:wf w B a l) (hB:∀ b,B b→B' b):wf w B' a l:=fun k hl=>by
 obtain ⟨ad,e,hb,q⟩:=h k hl;exact ⟨ad,e,hB _ hb,q⟩
abbrev wv (w:zr) (a:Option zo) (l:List ByteArray):Prop:=wf w (·<w) a l
theorem wv.on (h:wv w a l) (hb:Below w w w'):wv w' a l:=(h.below (fun _ h=>h) hb).weak fun _ h=>Nat.lt_of_lt_of_le h hb.size
def r6 (l:List ByteArray):List zp:=l.map zn
theorem lU (l:List ByteArray) (x:ByteArray):r6 (l++[x])=r6 l++[zn x]:=by simp [r6]
theorem PG {base:Nat} {v:zp} (h:w.ownsRow base t 1 v l.length (r6 l)):∃ a c,v=zv a l.length c∧wf w (fun b=>base≤b∧b<w) a l:=by
 rcases h.2 with ⟨rfl,h0⟩|⟨g,cap,cur,rfl,hgb,hg,_⟩
 ·exact ⟨none,0,by rw [h0],fun k hk=>absurd hk lg⟩
 ·exact ⟨_,_,rfl,fun k hk=>⟨_,rfl,⟨hgb,(h.lt g rfl).2⟩,h.cells (g:=g) rfl k _ (by unfold r6;simp [hk])⟩⟩
def ss (w:zr) (l:List ByteArray) (e:Ending) (w':zr):Prop:=∃ a c,e=.returned (zv a l.length c)∧wv w' a l∧Below w w w'
theorem oL:(prog.info? 9).map (fun i=>(i.zero,i.size,i.bytes))=some (some (zn zx),1,16):=lh
theorem cW {base:Nat} {e:TypeId} {size:Nat} {v:zp} {n:Nat} {xs:List zp} (h:w.ownsRow base e size v n xs) (hb:Below w w w'):w'.ownsRow base e size v n xs:=by
 refine ⟨h.1,?_⟩;rcases h.2 with h2|⟨g,cap,cur,hv,aa,hg,hr⟩
 ·exact .inl h2
 ·exact .inr ⟨g,cap,cur,hv,aa,(hb.block g (lt_of_block hg)).trans hg,hr⟩
theorem OL {x:ByteArray} (hb:Below (w+1) (w.alloc (.cells #[zn x] t)) w'):wv w' (some ⟨w,0,none⟩) [x]:=by
 intro k hk;obtain rfl:k=0:=by simp at hk;omega
 refine ⟨_,rfl,?_,?_⟩
 ·have:=hb.size;simp at this;show w.heap.size<_;omega
 ·exact (hb.cell (p:=⟨w,0,none⟩) li).trans (by simp [zu])
theorem PS {x y:ByteArray} (hb:Below (w+1) (w.alloc (.cells #[zn x,zn y] t)) w'):wv w' (some ⟨w,0,none⟩) [x,y]:=by
 intro k hk;have hz:w.heap.size<w':=by have:=hb.size;simp at this;omega
 match k,hk with
 | 0,_=>exact ⟨_,rfl,hz,(hb.cell (p:=⟨w,0,none⟩) li).trans (by simp [zu])⟩
 | 1,_=>exact ⟨_,rfl,hz,(hb.cell (p:=⟨w,1,none⟩) li).trans (by simp [zu])⟩
end Go.Proofs.YtbagenpobcgjnaaGreat
namespace Go.Proofs.YtbagenpobcgjnaaGreat
open Go.Proofs.Tryz
open Go.RowKit Go.ChangeShapes Go.WideShapes Go.Deep
set_option linter.unusedVariables false
structure l8 where
 p:Int
 o:ByteArray
 n:ByteArray
def l8.fits (x:l8):Prop:=(-9223372036854775808≤x.p∧x.p≤9223372036854775807)∧x.o.size≤maxLen∧x.n.size≤maxLen
abbrev l8.v (x:l8):zp:=.agg #[zk zm x.p,zn x.o,zn x.n]
def qf (w:zr) (B:Nat→Prop) (a:Option zo) (l:List l8):Prop:=
 ∀ (k:Nat) (h:k<l.length),∃ ad,a=some ad∧B ad.block∧w (ad.add (k * 3))=some (zk zm (l[k]).p)∧w ⟨(ad.add (k * 3)).block,(ad.add (k * 3)).off+1,none⟩=some (zn (l[k]).o)∧w ⟨(ad.add (k * 3)).block,(ad.add (k * 3)).off+2,none⟩=some (zn (l[k]).n)
theorem qf.keep {l:List l8} (h:qf w B a l) (hk:∀ p:zo,B p.block→w' p=w p):qf w' B a l:=fun k hl=>by
 obtain ⟨ad,e,hb,q0,q1,q2⟩:=h k hl;exact ⟨ad,e,hb,(hk _ (by rw [show (ad.add (k * 3)).block=ad.block by unfold zq;split <;> rfl];exact hb)).trans q0,(hk _ (by show B (ad.add (k * 3)).block;rw [show (ad.add (k * 3)).block=ad.block by unfold zq;split <;> rfl];exact hb)).trans q1,(hk _ (by show B (ad.add (k * 3)).block;rw [show (ad.add (k * 3)).block=ad.block by unfold zq;split <;> rfl];exact hb)).trans q2⟩
theorem qf.below {N:Nat} {l:List l8} (h:qf w B a l) (hN:∀ b,B b→b<N) (hb:Below N w w'):qf w' B a l:=h.keep fun _ hp=>hb.cell (hN _ hp)
theorem qf.more {w:zr} {B B':Nat→Prop} {a:Option zo} {l:List l8} (h:qf w B a l) (hB:∀ b,B b→B' b):qf w B' a l:=fun k hl=>by
 obtain ⟨ad,e,hb,h1⟩:=h k hl;exact ⟨ad,e,hB _ hb,h1⟩
theorem qf.set {l:List l8} (h:qf w B a l) {p:zo} {x:Option zo} {y z:Nat} (hc:w p=some (zv x y z)) (u:zp):qf (w.setCell p u) B a l:=fun k hl=>by
 obtain ⟨ad,e,hb,q0,q1,q2⟩:=h k hl;exact ⟨ad,e,hb,(zy _ _ _ _ (fun e=>by rw [e] at hc;rw [hc] at q0;cases q0)).trans q0,(zy _ _ _ _ (fun e=>by rw [e] at hc;rw [hc] at q1;cases q1)).trans q1,(zy _ _ _ _ (fun e=>by rw [e] at hc;rw [hc] at q2;cases q2)).trans q2⟩
section
variable {H : Type} {enc : TypeId × Value → H} {w : World} {base : Nat} {spare : Nat → Bool} {held : Bool}
theorem sC:prog.cellsOf 92=3:=lh
end
def l8.flat (l:List l8):List zp:=l.flatMap fun x=>[zk zm x.p,zn x.o,zn x.n]
theorem l8.flat_len (l:List l8):(l8.flat l).length=l.length * 3:=by
 unfold l8.flat
 induction l with
 | nil=>rfl
 | cons a r ih=>rw [List.flatMap_cons,List.length_append,ih];simp;omega
theorem l8.flat_app (a b:List l8):l8.flat (a++b)=l8.flat a++l8.flat b:=by simp [l8.flat]
theorem l8.flat_get (l:List l8) (k:Nat) (h:k<l.length):(l8.flat l)[k * 3]? = some (zk zm (l[k]'h).p)∧(l8.flat l)[k * 3+1]? = some (zn (l[k]'h).o)∧(l8.flat l)[k * 3+2]? = some (zn (l[k]'h).n):=by
 induction l generalizing k with
 | nil=>simp at h
 | cons a r ih =>
  have e:l8.flat (a::r)=([zk zm a.p,zn a.o,zn a.n]:List zp)++l8.flat r:=by simp [l8.flat]
  rw [e]
  match k,h with
  | 0,_=>simp
  | k+1,h =>
   have hr:=ih k (by simpa using h);rw [show (k+1) * 3=([zk zm a.p,zn a.o,zn a.n]:List zp).length+k * 3 from lr];simp only [Nat.add_assoc,List.getElem?_append_right (Nat.le_add_right _ _),Nat.add_sub_cancel_left];exact hr
theorem eW:(prog.info? 92).map (fun i=>(i.zero,i.size,i.bytes))=some (some (.agg #[zk zm 0,zn zx,zn zx]),3,40):=lh
theorem pO (w:zr) (p:Int) (o:ByteArray) (n:ByteArray) (t:TypeId):∀ j u,([zk zm p,zn o,zn n]:List zp)[j]? = some u→(w.alloc (.cells #[zk zm p,zn o,zn n] t)) ((⟨w,0,none⟩:zo).add j)=some u:=by
 intro j u hj
 match j,hj with
 | 0,hj=>simp at hj;subst hj;simp [zq]
 | 1,hj=>simp at hj;subst hj;simp [zq,zu]
 | 2,hj=>simp at hj;subst hj;simp [zq,zu]
theorem nP (p:Int) (o:ByteArray) (n:ByteArray):∀ u∈([zk zm p,zn o,zn n]:List zp),u.oneCell'=true:=by
 intro u hu;simp at hu;rcases hu with rfl|rfl|rfl <;> rfl
theorem PA {base:Nat} {v:zp} {l:List l8} (h:w.ownsRow base t 3 v l.length (l8.flat l)):∃ a c,v=zv a l.length c∧qf w (fun b=>base≤b∧b<w) a l:=by
 rcases h.2 with ⟨rfl,h0⟩|⟨g,cap,cur,rfl,hgb,hg,_⟩
 ·exact ⟨none,0,by rw [h0],fun k hk=>absurd hk lg⟩
 ·refine ⟨_,_,rfl,fun k hk=>⟨_,rfl,⟨hgb,(h.lt g rfl).2⟩,?_,?_,?_⟩⟩
  ·exact h.cells (g:=g) rfl (k * 3) _ (l8.flat_get l k hk).1
  ·have:=h.cells (g:=g) rfl (k * 3+1) _ (l8.flat_get l k hk).2.1;have e:(⟨((⟨g,0,none⟩:zo).add (k * 3)).block,((⟨g,0,none⟩:zo).add (k * 3)).off+1,none⟩:zo)=(⟨g,0,none⟩:zo).add (k * 3+1):=by
    unfold zq;by_cases hk0:k * 3=0 <;> simp [hk0]
   rw [e];exact this
  ·have:=h.cells (g:=g) rfl (k * 3+2) _ (l8.flat_get l k hk).2.2;have e:(⟨((⟨g,0,none⟩:zo).add (k * 3)).block,((⟨g,0,none⟩:zo).add (k * 3)).off+2,none⟩:zo)=(⟨g,0,none⟩:zo).add (k * 3+2):=by
    unfold zq;by_cases hk0:k * 3=0 <;> simp [hk0]
   rw [e];exact this
end Go.Proofs.YtbagenpobcgjnaaGreat
namespace Go.Proofs.YtbagenpobcgjnaaGreat
open Go.RowKit
set_option linter.unusedVariables false
set_option linter.unusedSimpArgs false
end Go.Proofs.YtbagenpobcgjnaaGreat
namespace Go.Proofs.YtbagenpobcgjnaaGreat
open Go.Proofs.Tryz
set_option maxRecDepth 100000
open Go.RowKit Go.ChangeShapes Go.WideShapes Go.Deep
set_option linter.unusedVariables false
structure ru where
 k:Int
 a:Int
 n:Int
 s:ByteArray
def ru.fits (x:ru):Prop:=(-9223372036854775808≤x.k∧x.k≤9223372036854775807)∧(-9223372036854775808≤x.a∧x.a≤9223372036854775807)∧(-9223372036854775808≤x.n∧x.n≤9223372036854775807)∧x.s.size≤maxLen
abbrev ru.v (x:ru):zp:=.agg #[zk zm x.k,zk zm x.a,zk zm x.n,zn x.s]
def ud (w:zr) (B:Nat→Prop) (a:Option zo) (l:List ru):Prop:=
 ∀ (k:Nat) (h:k<l.length),∃ ad,a=some ad∧B ad.block∧w (ad.add (k * 4))=some (zk zm (l[k]).k)∧w ⟨(ad.add (k * 4)).block,(ad.add (k * 4)).off+1,none⟩=some (zk zm (l[k]).a)∧w ⟨(ad.add (k * 4)).block,(ad.add (k * 4)).off+2,none⟩=some (zk zm (l[k]).n)∧w ⟨(ad.add (k * 4)).block,(ad.add (k * 4)).off+3,none⟩=some (zn (l[k]).s)
theorem ud.keep {l:List ru} (h:ud w B a l) (hk:∀ p:zo,B p.block→w' p=w p):ud w' B a l:=fun k hl=>by
 obtain ⟨ad,e,hb,q0,q1,q2,q3⟩:=h k hl;exact ⟨ad,e,hb,(hk _ (by rw [show (ad.add (k * 4)).block=ad.block by unfold zq;split <;> rfl];exact hb)).trans q0,(hk _ (by show B (ad.add (k * 4)).block;rw [show (ad.add (k * 4)).block=ad.block by unfold zq;split <;> rfl];exact hb)).trans q1,(hk _ (by show B (ad.add (k * 4)).block;rw [show (ad.add (k * 4)).block=ad.block by unfold zq;split <;> rfl];exact hb)).trans q2,(hk _ (by show B (ad.add (k * 4)).block;rw [show (ad.add (k * 4)).block=ad.block by unfold zq;split <;> rfl];exact hb)).trans q3⟩
theorem ud.below {N:Nat} {l:List ru} (h:ud w B a l) (hN:∀ b,B b→b<N) (hb:Below N w w'):ud w' B a l:=h.keep fun _ hp=>hb.cell (hN _ hp)
theorem ud.more {w:zr} {B B':Nat→Prop} {a:Option zo} {l:List ru} (h:ud w B a l) (hB:∀ b,B b→B' b):ud w B' a l:=fun k hl=>by
 obtain ⟨ad,e,hb,h1⟩:=h k hl;exact ⟨ad,e,hB _ hb,h1⟩
section
variable {H : Type} {enc : TypeId × Value → H} {w : World} {base : Nat} {spare : Nat → Bool} {held : Bool}
theorem tB:prog.cellsOf 50=4:=lh
theorem QB {n:Nat} {cs:List zp} {x:DataW H×List MemPlace} (h:DataW.trod enc prog w base spare held n 50 cs=some x) :
 ∃ x:ru,x.fits∧cs=[.int .i64 x.k,.int .i64 x.a,.int .i64 x.n,.string x.s]:=by
 obtain ⟨hl,hf⟩:=open_fields underlying50 lh h;rw [tB] at hl;obtain ⟨u0,u1,u2,u3,rfl⟩:∃ u0 u1 u2 u3,cs=[u0,u1,u2,u3]:=by
  match cs,hl with
  | [u0,u1,u2,u3],_=>exact ⟨u0,u1,u2,u3,rfl⟩
 obtain ⟨m0,y0,h0⟩:=hf 0 _ li rfl;obtain ⟨x0,e0,_,w0⟩:=DataW.trod_int underlying3 h0;have g0:u0=.int .i64 x0:=by simpa using e0
 obtain ⟨m1,y1,h1⟩:=hf 1 _ li rfl;obtain ⟨x1,e1,_,w1⟩:=DataW.trod_int underlying3 h1;have g1:u1=.int .i64 x1:=by simpa using e1
 obtain ⟨m2,y2,h2⟩:=hf 2 _ li rfl;obtain ⟨x2,e2,_,w2⟩:=DataW.trod_int underlying3 h2;have g2:u2=.int .i64 x2:=by simpa using e2
 obtain ⟨m3,y3,h3⟩:=hf 3 _ li rfl;obtain ⟨x3,e3,_,w3⟩:=DataW.trod_string underlying9 h3;have g3:u3=.string x3:=by simpa using e3
 subst g0 g1 g2 g3;exact ⟨⟨x0,x1,x2,x3⟩,⟨Aa w0,Aa w1,Aa w2,w3⟩,rfl⟩
end
end Go.Proofs.YtbagenpobcgjnaaGreat
namespace Go.Proofs.YtbagenpobcgjnaaGreat
open Go.RowKit
open Go.Proofs.Tryz
set_option maxRecDepth 100000
open Lib (hid)
theorem iI (a:zo) (n:Nat):(a.add n).block=a.block:=by unfold zq;split <;> rfl
structure sw where
 b:Int
 r:Int
 l:Int
def sw.plus (x y:sw):sw:=⟨wrap64 (x.b+y.b),wrap64 (x.r+y.r),wrap64 (x.l+y.l)⟩
def sw.sum (l:List sw):sw:=l.foldl sw.plus ⟨0,0,0⟩
theorem sw.sum_snoc (l:List sw) (x:sw):sw.sum (l++[x])=(sw.sum l).plus x:=by unfold sw.sum;rw [List.foldl_append];rfl
def wg (w:zr) (B:Nat) (a:Option zo) (l:List sw):Prop:=
 ∀ (k:Nat) (h:k<l.length),∃ ad,a=some ad∧ad.block<B∧w (ad.add (k * 3))=some (zk zm (l[k]).b)∧w ⟨(ad.add (k * 3)).block,(ad.add (k * 3)).off+1,none⟩=some (zk zm (l[k]).r)∧w ⟨(ad.add (k * 3)).block,(ad.add (k * 3)).off+2,none⟩=some (zk zm (l[k]).l)
theorem wg.keep {B:Nat} {l:List sw} (h:wg w B a l) (hk:∀ p:zo,p.block<B→w' p=w p):wg w' B a l:=fun k hl=>by
 obtain ⟨ad,e,hb,h1,h2,h3⟩:=h k hl;exact ⟨ad,e,hb,(hk _ (by rw [iI];exact hb)).trans h1,(hk _ (by rw [iI];exact hb)).trans h2,(hk _ (by rw [iI];exact hb)).trans h3⟩
theorem wg.below {B:Nat} {l:List sw} (h:wg w B a l) (hb:Below B w w'):wg w' B a l:=h.keep fun _ hp=>hb.cell hp
theorem wg.more {w:zr} {B B':Nat} {a:Option zo} {l:List sw} (h:wg w B a l) (hB:B≤B'):wg w B' a l:=fun k hl=>by
 obtain ⟨ad,e,hb,h1⟩:=h k hl;exact ⟨ad,e,lg,h1⟩
theorem yG (l:List sw) (k:Nat) (h:k<l.length):sw.sum (l.take (k+1))=(sw.sum (l.take k)).plus (l[k]'h):=by
 rw [List.take_succ_eq_append_getElem h,sw.sum_snoc]
set_option maxHeartbeats 400000 in
theorem PP (a:Option zo) (l:List sw) (c:Nat) (hl:l.length≤1000) (w:zr) (hr:wg w w a l) :
 Calls prog 211 #[zv a l.length c] w fun e w'=>e=.returned (cntV (sw.sum l).b (sw.sum l).r (sw.sum l).l)∧Below w w w':=by
 obtain ⟨n,hn⟩:∃ n,l.length=n:=⟨_,rfl⟩;have HN:=hid hn;rw [hn] at hl ⊢;clear hn;have HR:=hid hr;clear hr;go_enter func211,ntmps211;go_wp2
 go_loopw [9] (fun i wr=>∃ k:Nat,k≤n∧i=zk zm k∧Below w w wr∧pj wr w (zk zm 0) (zk zm 0) (zk zm 0) 173∧pj wr (w+1) (zk zm (sw.sum (l.take k)).b) (zk zm (sw.sum (l.take k)).r) (zk zm (sw.sum (l.take k)).l) 173) (fun i _=>n - (intOf i).toNat)
 case atStart=>exact ⟨0,lg,rfl,((Below.refl _ _).alloc (zw _) _).alloc li _,(pj.new _ _ _ _ _).alloc _,pj.new (w.alloc (.cells #[zk zm 0,zk zm 0,zk zm 0] 173)) (zk zm 0) (zk zm 0) (zk zm 0) 173 |> fun h=>by rw [show (w.alloc (.cells #[zk zm 0,zk zm 0,zk zm 0] 173)).heap.size=w+1 by simp] at h;exact h⟩
 case round =>
  obtain ⟨k,hk,rfl,hbel,ab,aa⟩:=hrel;by_cases hlt:k<n
  ·have hs:=yG l k (by rw [HN.out];exact hlt);have ac:=HR.out.below hbel;obtain ⟨ad,rfl,hb,q1,q2,q3⟩:=ac k (by rw [HN.out];exact hlt);clear ac;obtain ⟨x,hx⟩:∃ x,l[k]'(by rw [HN.out];exact hlt)=x:=⟨_,rfl⟩;obtain ⟨y,hy⟩:∃ y,sw.sum (l.take k)=y:=⟨_,rfl⟩;rw [hx] at hs q1 q2 q3;rw [hy] at hs aa;have HS:=hid hs;clear hs hx hy;have ae:=aa.lt;have f0:=aa.c0;have f1:=aa.c1;have f2:=aa.c2;have f3:=aa.free 0;have f4:=aa.free 1;have f5:=aa.free 2;have H0:=hid ab;have H1:=hid aa;clear ab aa;go_wp2;go_roundw
   case rel =>
    refine ⟨k+1,lg,by go_num,?_,?_,?_⟩
    ·exact (((hbel.setCell (p:=⟨w+1,0,none⟩) li _).setCell (p:=⟨w+1,1,none⟩) li _).setCell (p:=⟨w+1,2,none⟩) li _).alloc (by simpa using hbel.size) _
    ·exact (((H0.out.other ⟨w+1,0,none⟩ li _).other ⟨w+1,1,none⟩ li _).other ⟨w+1,2,none⟩ li _).alloc _
    ·rw [HS.out];exact (((H1.out.s0 _).s1 _).s2 _).alloc _
   case measure=>simp [intOf];omega
  ·have e:l.take k=l:=List.take_of_length_le (by rw [HN.out];omega);rw [e] at aa;clear e;have f0:=aa.c0;have f1:=aa.c1;have f2:=aa.c2;have g0:=ab.c0;have g1:=ab.c1;have g2:=ab.c2;have g3:=ab.free 0;have g4:=ab.free 1;have g5:=ab.free 2;have ae:=aa.lt;clear ab aa;go_wp2;refine bodyPost_ret (v:=cntV (sw.sum l).b (sw.sum l).r (sw.sum l).l) (by simp [results,results211,go_sem,g0,g1,g2]) rfl ⟨rfl,?_⟩;exact ((hbel.setCell (p:=⟨w,0,none⟩) (zw _) _).setCell (p:=⟨w,1,none⟩) (zw _) _).setCell (p:=⟨w,2,none⟩) (zw _) _
end Go.Proofs.YtbagenpobcgjnaaGreat
