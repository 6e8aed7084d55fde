/-
  Joined: Cells, Blk, Open.
-/
import Derived.Test.YtbagenpobcgjnaaGreatJUtfMath
import Derived.Test.YtbagenpobcgjnaaGreatRows
import Derived.Deep.Slices
import Derived.Deep.Fields
open Array renaming getElem?_eq_getElem->zn,getElem_modify_self->zr
open Go renaming MemPlace->zt,TypeId->zp,Value->zk,World->zo,heap_alloc_new->zy
open Go.World renaming cell?->zq,frozen?->zv
variable {cs:Array Go.Value} {b:Nat} {t:Go.TypeId} {x y z:Go.Value} {w:Go.World}
namespace Go.Proofs.YtbagenpobcgjnaaGreat
open Go.RowKit
def pj (w:zo) (b:Nat) (x y z:zk) (t:zp):Prop:=w.heap[b]? = some (.cells #[x,y,z] t (0,0))
theorem pj.lt (h:pj w b x y z t):b<w:=lt_of_block h
theorem pj.c0 (h:pj w b x y z t):w ⟨b,0,none⟩=some x:=by unfold pj at h;simp [zq,h]
theorem pj.c1 (h:pj w b x y z t):w ⟨b,1,none⟩=some y:=by unfold pj at h;simp [zq,h]
theorem pj.c2 (h:pj w b x y z t):w ⟨b,2,none⟩=some z:=by unfold pj at h;simp [zq,h]
theorem pj.free (h:pj w b x y z t) (i:Nat):w.frozen? ⟨b,i,none⟩=false:=by unfold pj at h;simp [zv,h]
theorem pj.s0 (h:pj w b x y z t) (u:zk):pj (w.setCell ⟨b,0,none⟩ u) b u y z t:=by
 have hlt:=h.lt;have h':w.heap[b]=.cells #[x,y,z] t (0,0):=by unfold pj at h;simpa [zn hlt] using h
 show (w.heap.modify b _)[b]? = _;rw [zn (by simpa using hlt),zr,h'];rfl
theorem pj.s1 (h:pj w b x y z t) (u:zk):pj (w.setCell ⟨b,1,none⟩ u) b x u z t:=by
 have hlt:=h.lt;have h':w.heap[b]=.cells #[x,y,z] t (0,0):=by unfold pj at h;simpa [zn hlt] using h
 show (w.heap.modify b _)[b]? = _;rw [zn (by simpa using hlt),zr,h'];rfl
theorem pj.s2 (h:pj w b x y z t) (u:zk):pj (w.setCell ⟨b,2,none⟩ u) b x y u t:=by
 have hlt:=h.lt;have h':w.heap[b]=.cells #[x,y,z] t (0,0):=by unfold pj at h;simpa [zn hlt] using h
 show (w.heap.modify b _)[b]? = _;rw [zn (by simpa using hlt),zr,h'];rfl
theorem pj.other (h:pj w b x y z t) (p:Addr) (hp:p.block≠b) (u:zk):pj (w.setCell p u) b x y z t:=
 (Below.heap_setCell w p u b (fun e=>hp e.symm)).trans h
theorem pj.alloc (h:pj w b x y z t) (o:Obj):pj (w.alloc o) b x y z t:=
 (Below.heap_alloc w o b h.lt).trans h
theorem pj.new (w:zo) (x y z:zk) (t:zp):pj (w.alloc (.cells #[x,y,z] t)) w x y z t:=zy w _
def l6 (w:zo) (b:Nat) (cs:Array zk) (t:zp):Prop:=w.heap[b]? = some (.cells cs t (0,0))
theorem l6.lt (h:l6 w b cs t):b<w:=lt_of_block h
theorem l6.cell (h:l6 w b cs t) (i:Nat) (v:zk) (hv:cs[i]? = some v):w ⟨b,i,none⟩=some v:=by unfold l6 at h;simp [zq,h,hv]
theorem l6.free (h:l6 w b cs t) (i:Nat):w.frozen? ⟨b,i,none⟩=false:=by unfold l6 at h;simp [zv,h]
theorem l6.set (h:l6 w b cs t) (i:Nat) (u:zk):l6 (w.setCell ⟨b,i,none⟩ u) b (cs.set! i u) t:=by
 have hlt:=h.lt;have h':w.heap[b]=.cells cs t (0,0):=by unfold l6 at h;simpa [zn hlt] using h
 show (w.heap.modify b _)[b]? = _;rw [zn (by simpa using hlt),zr,h'];rfl
theorem l6.other (h:l6 w b cs t) (p:Addr) (hp:p.block≠b) (u:zk):l6 (w.setCell p u) b cs t:=
 (Below.heap_setCell w p u b (fun e=>hp e.symm)).trans h
theorem l6.alloc (h:l6 w b cs t) (o:Obj):l6 (w.alloc o) b cs t:=(Below.heap_alloc w o b h.lt).trans h
theorem l6.drewN (h:l6 w b cs t) (n:Nat):l6 (w.drewN n) b cs t:=h
theorem l6.below {B:Nat} {w':zo} (h:l6 w b cs t) (hb:Below B w w') (hB:b<B):l6 w' b cs t:=(hb.block b hB).trans h
theorem l6.onto {w':zo} (h:l6 w b cs t) (hb:Below w w w'):l6 w' b cs t:=h.below hb h.lt
theorem l6.new (w:zo) (cs:Array zk) (t:zp):l6 (w.alloc (.cells cs t)) w cs t:=zy w _
theorem l6.four {x0 x1 x2 x3:zk} (h:l6 w b #[x0,x1,x2,x3] t) :
 w ⟨b,0,none⟩=some x0∧w ⟨b,1,none⟩=some x1∧w ⟨b,2,none⟩=some x2∧w ⟨b,3,none⟩=some x3 ∧
 w.frozen? ⟨b,0,none⟩=false∧w.frozen? ⟨b,1,none⟩=false∧w.frozen? ⟨b,2,none⟩=false∧w.frozen? ⟨b,3,none⟩=false:=
 ⟨h.cell 0 _ rfl,h.cell 1 _ rfl,h.cell 2 _ rfl,h.cell 3 _ rfl,h.free 0,h.free 1,h.free 2,h.free 3⟩
end Go.Proofs.YtbagenpobcgjnaaGreat
namespace Go.Proofs.YtbagenpobcgjnaaGreat
open Go.RowKit Go.ChangeShapes Go.WideShapes Go.Deep
section
variable {H : Type} {enc : TypeId × Value → H} {P : Program} {w : World} {base : Nat} {spare : Nat → Bool} {held : Bool}
theorem open_row {e:zp} {r:Reach} {b0:Nat} {v:zk} {d:DataW H} {p:List zt} (ht:P.underlying t=some (.slice e)) (hv:Value.okWide P w r b0 t v) (h:DataW.Trod enc P w base spare held t v d p) :
 v=.slice none 0 0 ∨
 ∃ (a:Addr) (len cap:Nat),v=.slice (some a) len cap∧len≤cap∧cap≤maxLen ∧
  ∀ i,i<len→∃ (cs:List zk) (n:Nat) (x:DataW H×List zt),w.cells? base (a.add (i * P.cellsOf e)) (P.cellsOf e)=some cs∧DataW.trod enc P w base spare held n e cs=some x:=by
 obtain ⟨a,len,cap,rfl⟩:=okWide_slice ht hv;obtain ⟨n,hn⟩:=h;rcases open_slice ht hn with ⟨h0,_⟩|⟨a',len',cap',m,n',D,Pl,hcs,_,hl,hm,hmm,_,hx⟩
 ·left;simpa [Value.cells] using h0
 ·right;have e1:Value.slice a len cap=.slice (some a') len' cap':=by simpa [Value.cells] using hcs
  refine ⟨a',len',cap',e1,hl,hm,fun i hi=>?_⟩;obtain ⟨cs,h1,h2⟩:=hx i (by rw [hmm];split <;> omega);exact ⟨cs,n',_,h1,h2⟩
theorem open_fields {e:zp} {fs:Array Field} {n:Nat} {cs:List zk} {x:DataW H×List zt} (he:P.underlying e=some (.struct fs)) (hone:oneCellFields P fs=true)
 (h:DataW.trod enc P w base spare held n e cs=some x) :
 cs.length=P.cellsOf e∧∀ (j:Nat) (f:Field) (hj:j<cs.length),fs[j]? = some f→∃ (m:Nat) (y:DataW H×List zt),DataW.trod enc P w base spare held m f.type [cs[j]]=some y:=by
 obtain ⟨xs,m,_,_,hlen,hxl,hf⟩:=DataW.trod_struct he h;refine ⟨hlen,fun j f hj hfj=>?_⟩;obtain ⟨ho,hk⟩:=hone_of hone j f hfj;have h1:=hf j f hfj;rw [ho,hk,List.drop_eq_getElem_cons hj] at h1;have hjx:j<xs.length:=by rw [hxl];exact (Array.getElem?_eq_some_iff.1 hfj).1
 rw [List.getElem?_eq_getElem hjx] at h1;exact ⟨m,_,h1⟩
theorem gC {n:Nat} {a:Addr} {cs:List zk} (h:w.cells? b a n=some cs):cs.length=n∧∀ j (hj:j<cs.length),w (a.add j)=some cs[j]:=by
 obtain ⟨_,hl,hc⟩:=World.cells?_some h;refine ⟨hl,fun j hj=>?_⟩;rw [hc j lg,List.getElem?_eq_getElem hj]
end
end Go.Proofs.YtbagenpobcgjnaaGreat
