/-
  Joined: OpRef, OpRef2, OpenOps, Oprs, OprRow, OpenOpc.
-/
import Derived.Test.YtbagenpobcgjnaaGreatJUtfRTake
import Derived.Test.YtbagenpobcgjnaaGreatJCells
import Derived.Test.YtbagenpobcgjnaaGreatJStrs
open ByteArray renaming empty->ze
open Go renaming Addr->yv,Value->yz
open Go.Addr renaming add->yy
open Go.IntKind renaming i64->yx
open Go.Value renaming int->yw,string->zd
namespace Go.Proofs.YtbagenpobcgjnaaGreat
open Go.RowKit
theorem qX (s:ByteArray):s.data.toList.length=s.size:=lh
end Go.Proofs.YtbagenpobcgjnaaGreat
namespace Go.Proofs.YtbagenpobcgjnaaGreat
open Go.Proofs.Tryz
set_option maxRecDepth 100000
open Go.RowKit Go.ChangeShapes Go.WideShapes Go.Deep
set_option linter.unusedVariables false
section
variable {H : Type} {enc : TypeId × Value → H} {w : World} {base : Nat} {spare : Nat → Bool} {held : Bool}
theorem open_oprs {r:Reach} {b0:Nat} {v:yz} {d:DataW H} {p:List MemPlace} (hv:Value.okWide prog w r b0 27 v) (h:DataW.Trod enc prog w base spare held 27 v d p) (_:∀ x∈p,x.block<w) :
 ∃ (a:Option yv) (l:List oo) (c:Nat),v=.slice a l.length c∧qk w (·<w) a l∧(∀ x∈l,x.fits)∧l.length≤maxLen:=by
 rcases open_row underlying27 hv h with rfl|⟨a,len,cap,rfl,hlc,hcm,hx⟩
 ·exact ⟨none,[],0,rfl,fun k hk=>absurd hk lh,fun x hx=>absurd hx lh,Nat.zero_le _⟩
 ·haveI:Inhabited oo:=⟨⟨0,0,0,ze⟩⟩
  obtain ⟨V,hV⟩:=choose_lt (α:=oo) (p:=fun i x=>x.fits∧w.cells? base (a.add (i * prog.cellsOf 50)) (prog.cellsOf 50)=some [.int .i64 x.k,.int .i64 x.a,.int .i64 x.n,.string x.s]) (fun i hi=>by
   obtain ⟨cs,n,x,h1,h2⟩:=hx i hi;obtain ⟨c,hf,rfl⟩:=LL h2;exact ⟨c,hf,h1⟩)
  have hlen:((List.range len).map V).length=len:=lh;refine ⟨some a,(List.range len).map V,cap,by rw [hlen],fun k hk=>?_,fun x hx=>?_,by rw [hlen];omega⟩
  ·have hk':k<len:=by rw [hlen] at hk;exact hk
   have h1:=(hV k hk').2;rw [rH] at h1;obtain ⟨_,hc⟩:=iH h1;have hbl:(a.add (k * 4)).block=a.block:=by unfold yy;split <;> rfl
   have q0:=hc 0 lh;have q1:=hc 1 lh;have q2:=hc 2 lh;have q3:=hc 3 lh;refine ⟨a,rfl,?_,?_,?_,?_,?_⟩
   ·have:=World.block_lt_of_cell? w _ q0;rwa [show ((a.add (k * 4)).add 0).block=(a.add (k * 4)).block by unfold yy;simp,hbl] at this
   ·simpa [yy] using q0
   ·simpa [yy] using q1
   ·simpa [yy] using q2
   ·simpa [yy] using q3
  ·obtain ⟨i,hi,rfl⟩:=List.mem_map.1 hx;exact (hV i (List.mem_range.1 hi)).1
end
def oo.flat (l:List oo):List yz:=l.flatMap fun x=>[yw yx x.k,yw yx x.a,yw yx x.n,zd x.s]
theorem oo.flat_len (l:List oo):(oo.flat l).length=l.length * 4:=by
 unfold oo.flat
 induction l with
 | nil=>rfl
 | cons a r ih=>rw [List.flatMap_cons,List.length_append,ih];simp;omega
theorem oo.flat_get (l:List oo) (k:Nat) (h:k<l.length):(oo.flat l)[k * 4]? = some (yw yx (l[k]'h).k)∧(oo.flat l)[k * 4+1]? = some (yw yx (l[k]'h).a)∧(oo.flat l)[k * 4+2]? = some (yw yx (l[k]'h).n)∧(oo.flat l)[k * 4+3]? = some (zd (l[k]'h).s):=by
 induction l generalizing k with
 | nil=>simp at h
 | cons a r ih =>
  have e:oo.flat (a::r)=([yw yx a.k,yw yx a.a,yw yx a.n,zd a.s]:List yz)++oo.flat r:=by simp [oo.flat]
  rw [e]
  match k,h with
  | 0,_=>simp
  | k+1,h =>
   have hr:=ih k (by simpa using h);rw [show (k+1) * 4=([yw yx a.k,yw yx a.a,yw yx a.n,zd a.s]:List yz).length+k * 4 from lq];simp only [Nat.add_assoc,List.getElem?_append_right (Nat.le_add_right _ _),Nat.add_sub_cancel_left];exact hr
theorem ME:(prog.info? 50).map (fun i=>(i.zero,i.size,i.bytes))=some (some (.agg #[yw yx 0,yw yx 0,yw yx 0,zd ze]),4,40):=lg
theorem PD (k:Int) (a:Int) (n:Int) (s:ByteArray):∀ u∈([yw yx k,yw yx a,yw yx n,zd s]:List yz),u.oneCell'=true:=by
 intro u hu;simp at hu;rcases hu with rfl|rfl|rfl|rfl <;> rfl
theorem LF {w:World} {base:Nat} {t:TypeId} {v:yz} {l:List oo} (h:w.ownsRow base t 4 v l.length (oo.flat l)):∃ a c,v=.slice a l.length c∧qk w (fun b=>base≤b∧b<w) a l:=by
 rcases h.2 with ⟨rfl,h0⟩|⟨g,cap,cur,rfl,hgb,hg,_⟩
 ·exact ⟨none,0,by rw [h0],fun k hk=>absurd hk lf⟩
 ·refine ⟨_,_,rfl,fun k hk=>⟨_,rfl,⟨hgb,(h.lt g rfl).2⟩,?_,?_,?_,?_⟩⟩
  ·exact h.cells (g:=g) rfl (k * 4) _ (oo.flat_get l k hk).1
  ·have:=h.cells (g:=g) rfl (k * 4+1) _ (oo.flat_get l k hk).2.1;have e:(⟨((⟨g,0,none⟩:yv).add (k * 4)).block,((⟨g,0,none⟩:yv).add (k * 4)).off+1,none⟩:yv)=(⟨g,0,none⟩:yv).add (k * 4+1):=by
    unfold yy;by_cases hk0:k * 4=0 <;> simp [hk0]
   rw [e];exact this
  ·have:=h.cells (g:=g) rfl (k * 4+2) _ (oo.flat_get l k hk).2.2.1;have e:(⟨((⟨g,0,none⟩:yv).add (k * 4)).block,((⟨g,0,none⟩:yv).add (k * 4)).off+2,none⟩:yv)=(⟨g,0,none⟩:yv).add (k * 4+2):=by
    unfold yy;by_cases hk0:k * 4=0 <;> simp [hk0]
   rw [e];exact this
  ·have:=h.cells (g:=g) rfl (k * 4+3) _ (oo.flat_get l k hk).2.2.2;have e:(⟨((⟨g,0,none⟩:yv).add (k * 4)).block,((⟨g,0,none⟩:yv).add (k * 4)).off+3,none⟩:yv)=(⟨g,0,none⟩:yv).add (k * 4+3):=by
    unfold yy;by_cases hk0:k * 4=0 <;> simp [hk0]
   rw [e];exact this
end Go.Proofs.YtbagenpobcgjnaaGreat
namespace Go.Proofs.YtbagenpobcgjnaaGreat
open Go.RowKit
set_option linter.unusedVariables false
instance :Inhabited oo:=⟨⟨0,0,0,ze⟩⟩
structure QPc where
 a:Option yv
 l:List oo
 c:Nat
instance :Inhabited QPc:=⟨⟨none,[],0⟩⟩
theorem mL (ad:yv) (k i:Nat) (h:0<i):(⟨(ad.add (k * 4)).block,(ad.add (k * 4)).off+i,none⟩:yv)=ad.add (k * 4+i):=by
 unfold yy;by_cases hk:k * 4=0
 ·rw [if_pos hk,if_neg lf,hk,Nat.zero_add]
 ·rw [if_neg hk,if_neg lf];show (⟨ad.block,ad.off+k * 4+i,none⟩:yv)=⟨ad.block,ad.off+(k * 4+i),none⟩;rw [Nat.add_assoc]
theorem KG {w:World} {B:Nat→Prop} {ad:yv} {l:List oo} (h:qk w B (some ad) l):∀ j u,(oo.flat l)[j]? = some u→w (ad.add j)=some u:=fun j u hj=>by
 have hlt:j<l.length * 4:=by
  rcases Nat.lt_or_ge j (l.length * 4) with g|g
  ·exact g
  ·rw [List.getElem?_eq_none (by rw [oo.flat_len];exact g)] at hj;cases hj
 obtain ⟨ad',e,-,q0,q1,q2,q3⟩:=h (j / 4) lf;obtain rfl:ad=ad':=by injection e
 obtain ⟨g0,g1,g2,g3⟩:=oo.flat_get l (j / 4) lf;rcases (show j=j / 4 * 4∨j=j / 4 * 4+1∨j=j / 4 * 4+2∨j=j / 4 * 4+3 by omega) with g|g|g|g
 ·rw [g] at hj ⊢;rw [g0] at hj;rw [q0];exact hj
 ·rw [g] at hj ⊢;rw [g1] at hj;rw [← mL _ _ _ li,q1];exact hj
 ·rw [g] at hj ⊢;rw [g2] at hj;rw [← mL _ _ _ li,q2];exact hj
 ·rw [g] at hj ⊢;rw [g3] at hj;rw [← mL _ _ _ li,q3];exact hj
theorem FN (l:List oo):∀ u∈oo.flat l,u.oneCell'=true:=fun u hu=>by
 unfold oo.flat at hu;obtain ⟨x,-,hx⟩:=List.mem_flatMap.1 hu;exact PD _ _ _ _ u hx
end Go.Proofs.YtbagenpobcgjnaaGreat
namespace Go.Proofs.YtbagenpobcgjnaaGreat
open Go.RowKit Go.ChangeShapes Go.WideShapes Go.Deep
set_option linter.unusedVariables false
section
variable {H : Type} {enc : TypeId × Value → H} {w : World} {base : Nat} {spare : Nat → Bool} {held : Bool}
end
end Go.Proofs.YtbagenpobcgjnaaGreat
