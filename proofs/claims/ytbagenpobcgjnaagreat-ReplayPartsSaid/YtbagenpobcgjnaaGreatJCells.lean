/-
  Joined: Cells, Blk, Open.
-/
import Derived.Test.YtbagenpobcgjnaaGreatJCommon
import Derived.OneCell
import Derived.Laws.Rows
import Derived.Deep.Draws
import Derived.Test.YtbagenpobcgjnaaGreatRows
import Derived.Deep.Slices
import Derived.Deep.Fields
import Derived.ChangeSame
import Derived.Carry
variable {cs:Array Go.Value} {b:Nat} {t:Go.TypeId} {x y z:Go.Value} {w:Go.World}
namespace Go.Proofs.YtbagenpobcgjnaaGreat
open Go.RowKit
def Blk3 (w:World) (b:Nat) (x y z:Value) (t:TypeId):Prop:=w.heap[b]? = some (.cells #[x,y,z] t (0,0))
theorem Blk3.lt (h:Blk3 w b x y z t):b<w.heap.size:=lt_of_block h
theorem Blk3.c0 (h:Blk3 w b x y z t):w.cell? ⟨b,0,none⟩=some x:=by unfold Blk3 at h;simp [World.cell?,h]
theorem Blk3.c1 (h:Blk3 w b x y z t):w.cell? ⟨b,1,none⟩=some y:=by unfold Blk3 at h;simp [World.cell?,h]
theorem Blk3.c2 (h:Blk3 w b x y z t):w.cell? ⟨b,2,none⟩=some z:=by unfold Blk3 at h;simp [World.cell?,h]
theorem Blk3.free (h:Blk3 w b x y z t) (i:Nat):w.frozen? ⟨b,i,none⟩=false:=by unfold Blk3 at h;simp [World.frozen?,h]
theorem Blk3.s0 (h:Blk3 w b x y z t) (u:Value):Blk3 (w.setCell ⟨b,0,none⟩ u) b u y z t:=by
 have hlt:=h.lt
 have h':w.heap[b]=.cells #[x,y,z] t (0,0):=by unfold Blk3 at h;simpa [Array.getElem?_eq_getElem hlt] using h
 show (w.heap.modify b _)[b]? = _
 rw [Array.getElem?_eq_getElem (by simpa using hlt),Array.getElem_modify_self,h']
 rfl
theorem Blk3.s1 (h:Blk3 w b x y z t) (u:Value):Blk3 (w.setCell ⟨b,1,none⟩ u) b x u z t:=by
 have hlt:=h.lt
 have h':w.heap[b]=.cells #[x,y,z] t (0,0):=by unfold Blk3 at h;simpa [Array.getElem?_eq_getElem hlt] using h
 show (w.heap.modify b _)[b]? = _
 rw [Array.getElem?_eq_getElem (by simpa using hlt),Array.getElem_modify_self,h']
 rfl
theorem Blk3.s2 (h:Blk3 w b x y z t) (u:Value):Blk3 (w.setCell ⟨b,2,none⟩ u) b x y u t:=by
 have hlt:=h.lt
 have h':w.heap[b]=.cells #[x,y,z] t (0,0):=by unfold Blk3 at h;simpa [Array.getElem?_eq_getElem hlt] using h
 show (w.heap.modify b _)[b]? = _
 rw [Array.getElem?_eq_getElem (by simpa using hlt),Array.getElem_modify_self,h']
 rfl
theorem Blk3.other (h:Blk3 w b x y z t) (p:Addr) (hp:p.block≠b) (u:Value):Blk3 (w.setCell p u) b x y z t:=
 (Below.heap_setCell w p u b (fun e=>hp e.symm)).trans h
theorem Blk3.alloc (h:Blk3 w b x y z t) (o:Obj):Blk3 (w.alloc o) b x y z t:=
 (Below.heap_alloc w o b h.lt).trans h
theorem Blk3.new (w:World) (x y z:Value) (t:TypeId):Blk3 (w.alloc (.cells #[x,y,z] t)) w.heap.size x y z t:=heap_alloc_new w _
def Blk (w:World) (b:Nat) (cs:Array Value) (t:TypeId):Prop:=w.heap[b]? = some (.cells cs t (0,0))
theorem Blk.lt (h:Blk w b cs t):b<w.heap.size:=lt_of_block h
theorem Blk.cell (h:Blk w b cs t) (i:Nat) (v:Value) (hv:cs[i]? = some v):w.cell? ⟨b,i,none⟩=some v:=by unfold Blk at h;simp [World.cell?,h,hv]
theorem Blk.free (h:Blk w b cs t) (i:Nat):w.frozen? ⟨b,i,none⟩=false:=by unfold Blk at h;simp [World.frozen?,h]
theorem Blk.set (h:Blk w b cs t) (i:Nat) (u:Value):Blk (w.setCell ⟨b,i,none⟩ u) b (cs.set! i u) t:=by
 have hlt:=h.lt
 have h':w.heap[b]=.cells cs t (0,0):=by unfold Blk at h;simpa [Array.getElem?_eq_getElem hlt] using h
 show (w.heap.modify b _)[b]? = _
 rw [Array.getElem?_eq_getElem (by simpa using hlt),Array.getElem_modify_self,h']
 rfl
theorem Blk.other (h:Blk w b cs t) (p:Addr) (hp:p.block≠b) (u:Value):Blk (w.setCell p u) b cs t:=
 (Below.heap_setCell w p u b (fun e=>hp e.symm)).trans h
theorem Blk.alloc (h:Blk w b cs t) (o:Obj):Blk (w.alloc o) b cs t:=(Below.heap_alloc w o b h.lt).trans h
theorem Blk.drewN (h:Blk w b cs t) (n:Nat):Blk (w.drewN n) b cs t:=h
theorem Blk.below {B:Nat} {w':World} (h:Blk w b cs t) (hb:Below B w w') (hB:b<B):Blk w' b cs t:=(hb.block b hB).trans h
theorem Blk.onto {w':World} (h:Blk w b cs t) (hb:Below w.heap.size w w'):Blk w' b cs t:=h.below hb h.lt
theorem Blk.new (w:World) (cs:Array Value) (t:TypeId):Blk (w.alloc (.cells cs t)) w.heap.size cs t:=heap_alloc_new w _
theorem Blk.four {x0 x1 x2 x3:Value} (h:Blk w b #[x0,x1,x2,x3] t) :
 w.cell? ⟨b,0,none⟩=some x0∧w.cell? ⟨b,1,none⟩=some x1∧w.cell? ⟨b,2,none⟩=some x2∧w.cell? ⟨b,3,none⟩=some x3 ∧
 w.frozen? ⟨b,0,none⟩=false∧w.frozen? ⟨b,1,none⟩=false∧w.frozen? ⟨b,2,none⟩=false∧w.frozen? ⟨b,3,none⟩=false:=
 ⟨h.cell 0 _ rfl,h.cell 1 _ rfl,h.cell 2 _ rfl,h.cell 3 _ rfl,h.free 0,h.free 1,h.free 2,h.free 3⟩
end Go.Proofs.YtbagenpobcgjnaaGreat
namespace Go.Proofs.YtbagenpobcgjnaaGreat
open Go.RowKit Go.ChangeShapes Go.WideShapes Go.Deep
section
variable {H : Type} {enc : TypeId × Value → H} {P : Program} {w : World} {base : Nat} {spare : Nat → Bool} {held : Bool}
theorem open_row {e:TypeId} {r:Reach} {b0:Nat} {v:Value} {d:DataW H} {p:List MemPlace} (ht:P.underlying t=some (.slice e)) (hv:Value.okWide P w r b0 t v) (h:DataW.Trod enc P w base spare held t v d p) :
 v=.slice none 0 0 ∨
 ∃ (a:Addr) (len cap:Nat),v=.slice (some a) len cap∧len≤cap∧cap≤maxLen ∧
  ∀ i,i<len→∃ (cs:List Value) (n:Nat) (x:DataW H×List MemPlace),w.cells? base (a.add (i * P.cellsOf e)) (P.cellsOf e)=some cs∧DataW.trod enc P w base spare held n e cs=some x:=by
 obtain ⟨a,len,cap,rfl⟩:=okWide_slice ht hv
 obtain ⟨n,hn⟩:=h
 rcases open_slice ht hn with ⟨h0,_⟩|⟨a',len',cap',m,n',D,Pl,hcs,_,hl,hm,hmm,_,hx⟩
 ·left
  simpa [Value.cells] using h0
 ·right
  have e1:Value.slice a len cap=.slice (some a') len' cap':=by simpa [Value.cells] using hcs
  refine ⟨a',len',cap',e1,hl,hm,fun i hi=>?_⟩
  obtain ⟨cs,h1,h2⟩:=hx i (by rw [hmm];split <;> omega)
  exact ⟨cs,n',_,h1,h2⟩
theorem open_fields {e:TypeId} {fs:Array Field} {n:Nat} {cs:List Value} {x:DataW H×List MemPlace} (he:P.underlying e=some (.struct fs)) (hone:oneCellFields P fs=true)
 (h:DataW.trod enc P w base spare held n e cs=some x) :
 cs.length=P.cellsOf e∧∀ (j:Nat) (f:Field) (hj:j<cs.length),fs[j]? = some f→∃ (m:Nat) (y:DataW H×List MemPlace),DataW.trod enc P w base spare held m f.type [cs[j]]=some y:=by
 obtain ⟨xs,m,_,_,hlen,hxl,hf⟩:=DataW.trod_struct he h
 refine ⟨hlen,fun j f hj hfj=>?_⟩
 obtain ⟨ho,hk⟩:=hone_of hone j f hfj
 have h1:=hf j f hfj
 rw [ho,hk,List.drop_eq_getElem_cons hj] at h1
 have hjx:j<xs.length:=by rw [hxl];exact (Array.getElem?_eq_some_iff.1 hfj).1
 rw [List.getElem?_eq_getElem hjx] at h1
 exact ⟨m,_,h1⟩
theorem FB {n:Nat} {a:Addr} {cs:List Value} (h:w.cells? b a n=some cs):cs.length=n∧∀ j (hj:j<cs.length),w.cell? (a.add j)=some cs[j]:=by
 obtain ⟨_,hl,hc⟩:=World.cells?_some h
 refine ⟨hl,fun j hj=>?_⟩
 rw [hc j (by omega),List.getElem?_eq_getElem hj]
end
end Go.Proofs.YtbagenpobcgjnaaGreat
