/-
  Joined: Strs, OpenEd, KnotMap, OpenOp, TallyAdd.
-/
import Derived.Test.YtbagenpobcgjnaaGreatProg
import Derived.Test.YtbagenpobcgjnaaGreatJUtfLeaf
import Derived.Deep.AppendLies
import Derived.Test.YtbagenpobcgjnaaGreatJCells
import Derived.Test.YtbagenpobcgjnaaGreatJUtfRTake
open ByteArray renaming empty->zj
open Go renaming Addr->yy,Value->yz,World->ze,bounds_i64->zn
open Go.Addr renaming add->zd
open Go.IntKind renaming i64->yw
open Go.Value renaming int->yv,slice->zh,string->yx
open Go.World renaming cell?_alloc_new->zg,cell?_setCell_other->zk
open Nat renaming le_refl->zi
variable {l:List ByteArray} {B:Nat→Prop} {a:Option Go.Addr} {t:Go.TypeId} {w w':Go.World}
namespace Go.Proofs.YtbagenpobcgjnaaGreat
open Go.Proofs.Tryz
open Go.RowKit
theorem GM (a:yy) (k:Nat):(a.add k).block=a.block:=by unfold zd;split <;> rfl
theorem bZ (w:ze) (v:yz) (t:TypeId):∀ j u,([v]:List yz)[j]? = some u→(w.alloc (.cells #[v] t)) ((⟨w,0,none⟩:yy).add j)=some u:=by
 intro j u hj
 match j,hj with
 | 0,hj=>simp at hj;subst hj;simp [zd,zg]
def vx (w:ze) (B:Nat→Prop) (a:Option yy) (l:List ByteArray):Prop:=
 ∀ (k:Nat) (h:k<l.length),∃ ad,a=some ad∧B ad.block∧w (ad.add k)=some (yx l[k])
theorem vx.keep (h:vx w B a l) (hk:∀ p:yy,B p.block→w' p=w p):vx w' B a l:=fun k hl=>by
 obtain ⟨ad,e,hb,q⟩:=h k hl;exact ⟨ad,e,hb,(hk _ (by rw [GM];exact hb)).trans q⟩
theorem vx.below {N:Nat} (h:vx w B a l) (hN:∀ b,B b→b<N) (hb:Below N w w'):vx w' B a l:=h.keep fun _ hp=>hb.cell (hN _ hp)
theorem vx.weak {B':Nat→Prop} (h:vx w B a l) (hB:∀ b,B b→B' b):vx w B' a l:=fun k hl=>by
 obtain ⟨ad,e,hb,q⟩:=h k hl;exact ⟨ad,e,hB _ hb,q⟩
abbrev wh (w:ze) (a:Option yy) (l:List ByteArray):Prop:=vx w (·<w) a l
theorem wh.on (h:wh w a l) (hb:Below w w w'):wh w' a l:=(h.below (fun _ h=>h) hb).weak fun _ h=>Nat.lt_of_lt_of_le h hb.size
def r8 (l:List ByteArray):List yz:=l.map yx
theorem lE (l:List ByteArray) (x:ByteArray):r8 (l++[x])=r8 l++[yx x]:=by simp [r8]
theorem NB {base:Nat} {v:yz} (h:w.ownsRow base t 1 v l.length (r8 l)):∃ a c,v=zh a l.length c∧vx w (fun b=>base≤b∧b<w) a l:=by
 rcases h.2 with ⟨rfl,h0⟩|⟨g,cap,cur,rfl,hgb,hg,_⟩
 ·exact ⟨none,0,by rw [h0],fun k hk=>absurd hk lf⟩
 ·exact ⟨_,_,rfl,fun k hk=>⟨_,rfl,⟨hgb,(h.lt g rfl).2⟩,h.cells (g:=g) rfl k _ (by unfold r8;simp [hk])⟩⟩
def sj (w:ze) (l:List ByteArray) (e:Ending) (w':ze):Prop:=∃ a c,e=.returned (zh a l.length c)∧wh w' a l∧Below w w w'
theorem nX:(prog.info? 9).map (fun i=>(i.zero,i.size,i.bytes))=some (some (yx zj),1,16):=lg
theorem cH {base:Nat} {e:TypeId} {size:Nat} {v:yz} {n:Nat} {xs:List yz} (h:w.ownsRow base e size v n xs) (hb:Below w w w'):w'.ownsRow base e size v n xs:=by
 refine ⟨h.1,?_⟩;rcases h.2 with h2|⟨g,cap,cur,hv,aa,hg,hr⟩
 ·exact .inl h2
 ·exact .inr ⟨g,cap,cur,hv,aa,(hb.block g (lt_of_block hg)).trans hg,hr⟩
theorem MM {x:ByteArray} (hb:Below (w+1) (w.alloc (.cells #[yx x] t)) w'):wh w' (some ⟨w,0,none⟩) [x]:=by
 intro k hk;obtain rfl:k=0:=by simp at hk;omega
 refine ⟨_,rfl,?_,?_⟩
 ·have:=hb.size;simp at this;show w.heap.size<_;omega
 ·exact (hb.cell (p:=⟨w,0,none⟩) lh).trans (by simp [zg])
theorem KQ {x y:ByteArray} (hb:Below (w+1) (w.alloc (.cells #[yx x,yx y] t)) w'):wh w' (some ⟨w,0,none⟩) [x,y]:=by
 intro k hk;have hz:w.heap.size<w':=by have:=hb.size;simp at this;omega
 match k,hk with
 | 0,_=>exact ⟨_,rfl,hz,(hb.cell (p:=⟨w,0,none⟩) lh).trans (by simp [zg])⟩
 | 1,_=>exact ⟨_,rfl,hz,(hb.cell (p:=⟨w,1,none⟩) lh).trans (by simp [zg])⟩
end Go.Proofs.YtbagenpobcgjnaaGreat
namespace Go.Proofs.YtbagenpobcgjnaaGreat
open Go.Proofs.Tryz
open Go.RowKit Go.ChangeShapes Go.WideShapes Go.Deep
set_option linter.unusedVariables false
structure l7 where
 p:Int
 o:ByteArray
 n:ByteArray
def l7.fits (x:l7):Prop:=(-9223372036854775808≤x.p∧x.p≤9223372036854775807)∧x.o.size≤maxLen∧x.n.size≤maxLen
abbrev l7.v (x:l7):yz:=.agg #[yv yw x.p,yx x.o,yx x.n]
def qd (w:ze) (B:Nat→Prop) (a:Option yy) (l:List l7):Prop:=
 ∀ (k:Nat) (h:k<l.length),∃ ad,a=some ad∧B ad.block∧w (ad.add (k * 3))=some (yv yw (l[k]).p)∧w ⟨(ad.add (k * 3)).block,(ad.add (k * 3)).off+1,none⟩=some (yx (l[k]).o)∧w ⟨(ad.add (k * 3)).block,(ad.add (k * 3)).off+2,none⟩=some (yx (l[k]).n)
theorem qd.keep {l:List l7} (h:qd w B a l) (hk:∀ p:yy,B p.block→w' p=w p):qd w' B a l:=fun k hl=>by
 obtain ⟨ad,e,hb,q0,q1,q2⟩:=h k hl;exact ⟨ad,e,hb,(hk _ (by rw [show (ad.add (k * 3)).block=ad.block by unfold zd;split <;> rfl];exact hb)).trans q0,(hk _ (by show B (ad.add (k * 3)).block;rw [show (ad.add (k * 3)).block=ad.block by unfold zd;split <;> rfl];exact hb)).trans q1,(hk _ (by show B (ad.add (k * 3)).block;rw [show (ad.add (k * 3)).block=ad.block by unfold zd;split <;> rfl];exact hb)).trans q2⟩
theorem qd.below {N:Nat} {l:List l7} (h:qd w B a l) (hN:∀ b,B b→b<N) (hb:Below N w w'):qd w' B a l:=h.keep fun _ hp=>hb.cell (hN _ hp)
theorem qd.more {w:ze} {B B':Nat→Prop} {a:Option yy} {l:List l7} (h:qd w B a l) (hB:∀ b,B b→B' b):qd w B' a l:=fun k hl=>by
 obtain ⟨ad,e,hb,h1⟩:=h k hl;exact ⟨ad,e,hB _ hb,h1⟩
theorem qd.set {l:List l7} (h:qd w B a l) {p:yy} {x:Option yy} {y z:Nat} (hc:w p=some (zh x y z)) (u:yz):qd (w.setCell p u) B a l:=fun k hl=>by
 obtain ⟨ad,e,hb,q0,q1,q2⟩:=h k hl;exact ⟨ad,e,hb,(zk _ _ _ _ (fun e=>by rw [e] at hc;rw [hc] at q0;cases q0)).trans q0,(zk _ _ _ _ (fun e=>by rw [e] at hc;rw [hc] at q1;cases q1)).trans q1,(zk _ _ _ _ (fun e=>by rw [e] at hc;rw [hc] at q2;cases q2)).trans q2⟩
section
variable {H : Type} {enc : TypeId × Value → H} {w : World} {base : Nat} {spare : Nat → Bool} {held : Bool}
theorem rA:prog.cellsOf 92=3:=lg
end
def l7.flat (l:List l7):List yz:=l.flatMap fun x=>[yv yw x.p,yx x.o,yx x.n]
theorem l7.flat_len (l:List l7):(l7.flat l).length=l.length * 3:=by
 unfold l7.flat
 induction l with
 | nil=>rfl
 | cons a r ih=>rw [List.flatMap_cons,List.length_append,ih];simp;omega
theorem l7.flat_app (a b:List l7):l7.flat (a++b)=l7.flat a++l7.flat b:=by simp [l7.flat]
theorem l7.flat_get (l:List l7) (k:Nat) (h:k<l.length):(l7.flat l)[k * 3]? = some (yv yw (l[k]'h).p)∧(l7.flat l)[k * 3+1]? = some (yx (l[k]'h).o)∧(l7.flat l)[k * 3+2]? = some (yx (l[k]'h).n):=by
 induction l generalizing k with
 | nil=>simp at h
 | cons a r ih =>
  have e:l7.flat (a::r)=([yv yw a.p,yx a.o,yx a.n]:List yz)++l7.flat r:=by simp [l7.flat]
  rw [e]
  match k,h with
  | 0,_=>simp
  | k+1,h =>
   have hr:=ih k (by simpa using h);rw [show (k+1) * 3=([yv yw a.p,yx a.o,yx a.n]:List yz).length+k * 3 from lq];simp only [Nat.add_assoc,List.getElem?_append_right (Nat.le_add_right _ _),Nat.add_sub_cancel_left];exact hr
theorem eU:(prog.info? 92).map (fun i=>(i.zero,i.size,i.bytes))=some (some (.agg #[yv yw 0,yx zj,yx zj]),3,40):=lg
theorem oX (w:ze) (p:Int) (o:ByteArray) (n:ByteArray) (t:TypeId):∀ j u,([yv yw p,yx o,yx n]:List yz)[j]? = some u→(w.alloc (.cells #[yv yw p,yx o,yx n] t)) ((⟨w,0,none⟩:yy).add j)=some u:=by
 intro j u hj
 match j,hj with
 | 0,hj=>simp at hj;subst hj;simp [zd]
 | 1,hj=>simp at hj;subst hj;simp [zd,zg]
 | 2,hj=>simp at hj;subst hj;simp [zd,zg]
theorem mV (p:Int) (o:ByteArray) (n:ByteArray):∀ u∈([yv yw p,yx o,yx n]:List yz),u.oneCell'=true:=by
 intro u hu;simp at hu;rcases hu with rfl|rfl|rfl <;> rfl
theorem LI {base:Nat} {v:yz} {l:List l7} (h:w.ownsRow base t 3 v l.length (l7.flat l)):∃ a c,v=zh a l.length c∧qd w (fun b=>base≤b∧b<w) a l:=by
 rcases h.2 with ⟨rfl,h0⟩|⟨g,cap,cur,rfl,hgb,hg,_⟩
 ·exact ⟨none,0,by rw [h0],fun k hk=>absurd hk lf⟩
 ·refine ⟨_,_,rfl,fun k hk=>⟨_,rfl,⟨hgb,(h.lt g rfl).2⟩,?_,?_,?_⟩⟩
  ·exact h.cells (g:=g) rfl (k * 3) _ (l7.flat_get l k hk).1
  ·have:=h.cells (g:=g) rfl (k * 3+1) _ (l7.flat_get l k hk).2.1;have e:(⟨((⟨g,0,none⟩:yy).add (k * 3)).block,((⟨g,0,none⟩:yy).add (k * 3)).off+1,none⟩:yy)=(⟨g,0,none⟩:yy).add (k * 3+1):=by
    unfold zd;by_cases hk0:k * 3=0 <;> simp [hk0]
   rw [e];exact this
  ·have:=h.cells (g:=g) rfl (k * 3+2) _ (l7.flat_get l k hk).2.2;have e:(⟨((⟨g,0,none⟩:yy).add (k * 3)).block,((⟨g,0,none⟩:yy).add (k * 3)).off+2,none⟩:yy)=(⟨g,0,none⟩:yy).add (k * 3+2):=by
    unfold zd;by_cases hk0:k * 3=0 <;> simp [hk0]
   rw [e];exact this
end Go.Proofs.YtbagenpobcgjnaaGreat
namespace Go.Proofs.YtbagenpobcgjnaaGreat
open Go.RowKit
set_option linter.unusedVariables false
set_option linter.unusedSimpArgs false
end Go.Proofs.YtbagenpobcgjnaaGreat
namespace Go.Proofs.YtbagenpobcgjnaaGreat
open Go.Proofs.Tryz
set_option maxRecDepth 100000
open Go.RowKit Go.ChangeShapes Go.WideShapes Go.Deep
set_option linter.unusedVariables false
structure oo where
 k:Int
 a:Int
 n:Int
 s:ByteArray
def oo.fits (x:oo):Prop:=(-9223372036854775808≤x.k∧x.k≤9223372036854775807)∧(-9223372036854775808≤x.a∧x.a≤9223372036854775807)∧(-9223372036854775808≤x.n∧x.n≤9223372036854775807)∧x.s.size≤maxLen
abbrev oo.v (x:oo):yz:=.agg #[yv yw x.k,yv yw x.a,yv yw x.n,yx x.s]
def qk (w:ze) (B:Nat→Prop) (a:Option yy) (l:List oo):Prop:=
 ∀ (k:Nat) (h:k<l.length),∃ ad,a=some ad∧B ad.block∧w (ad.add (k * 4))=some (yv yw (l[k]).k)∧w ⟨(ad.add (k * 4)).block,(ad.add (k * 4)).off+1,none⟩=some (yv yw (l[k]).a)∧w ⟨(ad.add (k * 4)).block,(ad.add (k * 4)).off+2,none⟩=some (yv yw (l[k]).n)∧w ⟨(ad.add (k * 4)).block,(ad.add (k * 4)).off+3,none⟩=some (yx (l[k]).s)
theorem qk.keep {l:List oo} (h:qk w B a l) (hk:∀ p:yy,B p.block→w' p=w p):qk w' B a l:=fun k hl=>by
 obtain ⟨ad,e,hb,q0,q1,q2,q3⟩:=h k hl;exact ⟨ad,e,hb,(hk _ (by rw [show (ad.add (k * 4)).block=ad.block by unfold zd;split <;> rfl];exact hb)).trans q0,(hk _ (by show B (ad.add (k * 4)).block;rw [show (ad.add (k * 4)).block=ad.block by unfold zd;split <;> rfl];exact hb)).trans q1,(hk _ (by show B (ad.add (k * 4)).block;rw [show (ad.add (k * 4)).block=ad.block by unfold zd;split <;> rfl];exact hb)).trans q2,(hk _ (by show B (ad.add (k * 4)).block;rw [show (ad.add (k * 4)).block=ad.block by unfold zd;split <;> rfl];exact hb)).trans q3⟩
theorem qk.below {N:Nat} {l:List oo} (h:qk w B a l) (hN:∀ b,B b→b<N) (hb:Below N w w'):qk w' B a l:=h.keep fun _ hp=>hb.cell (hN _ hp)
theorem qk.more {w:ze} {B B':Nat→Prop} {a:Option yy} {l:List oo} (h:qk w B a l) (hB:∀ b,B b→B' b):qk w B' a l:=fun k hl=>by
 obtain ⟨ad,e,hb,h1⟩:=h k hl;exact ⟨ad,e,hB _ hb,h1⟩
section
variable {H : Type} {enc : TypeId × Value → H} {w : World} {base : Nat} {spare : Nat → Bool} {held : Bool}
theorem rH:prog.cellsOf 50=4:=lg
theorem LL {n:Nat} {cs:List yz} {x:DataW H×List MemPlace} (h:DataW.trod enc prog w base spare held n 50 cs=some x) :
 ∃ x:oo,x.fits∧cs=[.int .i64 x.k,.int .i64 x.a,.int .i64 x.n,.string x.s]:=by
 obtain ⟨hl,hf⟩:=open_fields underlying50 lg h;rw [rH] at hl;obtain ⟨u0,u1,u2,u3,rfl⟩:∃ u0 u1 u2 u3,cs=[u0,u1,u2,u3]:=by
  match cs,hl with
  | [u0,u1,u2,u3],_=>exact ⟨u0,u1,u2,u3,rfl⟩
 obtain ⟨m0,y0,h0⟩:=hf 0 _ lh rfl;obtain ⟨x0,e0,_,w0⟩:=DataW.trod_int underlying3 h0;have g0:u0=.int .i64 x0:=by simpa using e0
 obtain ⟨m1,y1,h1⟩:=hf 1 _ lh rfl;obtain ⟨x1,e1,_,w1⟩:=DataW.trod_int underlying3 h1;have g1:u1=.int .i64 x1:=by simpa using e1
 obtain ⟨m2,y2,h2⟩:=hf 2 _ lh rfl;obtain ⟨x2,e2,_,w2⟩:=DataW.trod_int underlying3 h2;have g2:u2=.int .i64 x2:=by simpa using e2
 obtain ⟨m3,y3,h3⟩:=hf 3 _ lh rfl;obtain ⟨x3,e3,_,w3⟩:=DataW.trod_string underlying9 h3;have g3:u3=.string x3:=by simpa using e3
 subst g0 g1 g2 g3;exact ⟨⟨x0,x1,x2,x3⟩,⟨zn w0,zn w1,zn w2,w3⟩,rfl⟩
end
end Go.Proofs.YtbagenpobcgjnaaGreat
namespace Go.Proofs.YtbagenpobcgjnaaGreat
open Go.Proofs.Tryz
set_option maxRecDepth 100000
open Lib (hid)
open Go.RowKit
theorem iC (a:yy) (n:Nat):(a.add n).block=a.block:=by unfold zd;split <;> rfl
structure sq where
 b:Int
 r:Int
 l:Int
def sq.plus (x y:sq):sq:=⟨wrap64 (x.b+y.b),wrap64 (x.r+y.r),wrap64 (x.l+y.l)⟩
def sq.sum (l:List sq):sq:=l.foldl sq.plus ⟨0,0,0⟩
theorem sq.sum_snoc (l:List sq) (x:sq):sq.sum (l++[x])=(sq.sum l).plus x:=by unfold sq.sum;rw [List.foldl_append];rfl
def vy (w:ze) (B:Nat) (a:Option yy) (l:List sq):Prop:=
 ∀ (k:Nat) (h:k<l.length),∃ ad,a=some ad∧ad.block<B∧w (ad.add (k * 3))=some (yv yw (l[k]).b)∧w ⟨(ad.add (k * 3)).block,(ad.add (k * 3)).off+1,none⟩=some (yv yw (l[k]).r)∧w ⟨(ad.add (k * 3)).block,(ad.add (k * 3)).off+2,none⟩=some (yv yw (l[k]).l)
theorem vy.keep {B:Nat} {l:List sq} (h:vy w B a l) (hk:∀ p:yy,p.block<B→w' p=w p):vy w' B a l:=fun k hl=>by
 obtain ⟨ad,e,hb,h1,h2,h3⟩:=h k hl;exact ⟨ad,e,hb,(hk _ (by rw [iC];exact hb)).trans h1,(hk _ (by rw [iC];exact hb)).trans h2,(hk _ (by rw [iC];exact hb)).trans h3⟩
theorem vy.below {B:Nat} {l:List sq} (h:vy w B a l) (hb:Below B w w'):vy w' B a l:=h.keep fun _ hp=>hb.cell hp
theorem vy.more {w:ze} {B B':Nat} {a:Option yy} {l:List sq} (h:vy w B a l) (hB:B≤B'):vy w B' a l:=fun k hl=>by
 obtain ⟨ad,e,hb,h1⟩:=h k hl;exact ⟨ad,e,lf,h1⟩
theorem uL (l:List sq) (k:Nat) (h:k<l.length):sq.sum (l.take (k+1))=(sq.sum (l.take k)).plus (l[k]'h):=by
 rw [List.take_succ_eq_append_getElem h,sq.sum_snoc]
set_option maxHeartbeats 400000 in
theorem LR (a:Option yy) (l:List sq) (c:Nat) (hl:l.length≤1000) (w:ze) (hr:vy w w a l) :
 Calls prog 211 #[zh a l.length c] w fun e w'=>e=.returned (cntV (sq.sum l).b (sq.sum l).r (sq.sum l).l)∧Below w w w':=by
 obtain ⟨n,hn⟩:∃ n,l.length=n:=⟨_,rfl⟩;have HN:=hid hn;rw [hn] at hl ⊢;clear hn;have HR:=hid hr;clear hr;go_enter func211,ntmps211;go_wp2
 go_loopw [9] (fun i wr=>∃ k:Nat,k≤n∧i=yv yw k∧Below w w wr∧pl wr w (yv yw 0) (yv yw 0) (yv yw 0) 173∧pl wr (w+1) (yv yw (sq.sum (l.take k)).b) (yv yw (sq.sum (l.take k)).r) (yv yw (sq.sum (l.take k)).l) 173) (fun i _=>n - (intOf i).toNat)
 case atStart=>exact ⟨0,lf,rfl,((Below.refl _ _).alloc (zi _) _).alloc lh _,(pl.new _ _ _ _ _).alloc _,pl.new (w.alloc (.cells #[yv yw 0,yv yw 0,yv yw 0] 173)) (yv yw 0) (yv yw 0) (yv yw 0) 173 |> fun h=>by rw [show (w.alloc (.cells #[yv yw 0,yv yw 0,yv yw 0] 173)).heap.size=w+1 by simp] at h;exact h⟩
 case round =>
  obtain ⟨k,hk,rfl,hbel,ab,aa⟩:=hrel;by_cases hlt:k<n
  ·have hs:=uL l k (by rw [HN.out];exact hlt);have ac:=HR.out.below hbel;obtain ⟨ad,rfl,hb,q1,q2,q3⟩:=ac k (by rw [HN.out];exact hlt);clear ac;obtain ⟨x,hx⟩:∃ x,l[k]'(by rw [HN.out];exact hlt)=x:=⟨_,rfl⟩;obtain ⟨y,hy⟩:∃ y,sq.sum (l.take k)=y:=⟨_,rfl⟩;rw [hx] at hs q1 q2 q3;rw [hy] at hs aa;have HS:=hid hs;clear hs hx hy;have ae:=aa.lt;have f0:=aa.c0;have f1:=aa.c1;have f2:=aa.c2;have f3:=aa.free 0;have f4:=aa.free 1;have f5:=aa.free 2;have H0:=hid ab;have H1:=hid aa;clear ab aa;go_wp2;go_roundw
   case rel =>
    refine ⟨k+1,lf,by go_num,?_,?_,?_⟩
    ·exact (((hbel.setCell (p:=⟨w+1,0,none⟩) lh _).setCell (p:=⟨w+1,1,none⟩) lh _).setCell (p:=⟨w+1,2,none⟩) lh _).alloc (by simpa using hbel.size) _
    ·exact (((H0.out.other ⟨w+1,0,none⟩ lh _).other ⟨w+1,1,none⟩ lh _).other ⟨w+1,2,none⟩ lh _).alloc _
    ·rw [HS.out];exact (((H1.out.s0 _).s1 _).s2 _).alloc _
   case measure=>simp [intOf];omega
  ·have e:l.take k=l:=List.take_of_length_le (by rw [HN.out];omega);rw [e] at aa;clear e;have f0:=aa.c0;have f1:=aa.c1;have f2:=aa.c2;have g0:=ab.c0;have g1:=ab.c1;have g2:=ab.c2;have g3:=ab.free 0;have g4:=ab.free 1;have g5:=ab.free 2;have ae:=aa.lt;clear ab aa;go_wp2;refine bodyPost_ret (v:=cntV (sq.sum l).b (sq.sum l).r (sq.sum l).l) (by simp [results,results211,go_sem,g0,g1,g2]) rfl ⟨rfl,?_⟩;exact ((hbel.setCell (p:=⟨w,0,none⟩) (zi _) _).setCell (p:=⟨w,1,none⟩) (zi _) _).setCell (p:=⟨w,2,none⟩) (zi _) _
end Go.Proofs.YtbagenpobcgjnaaGreat
