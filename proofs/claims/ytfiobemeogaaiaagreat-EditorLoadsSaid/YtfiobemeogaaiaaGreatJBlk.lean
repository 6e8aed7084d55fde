/-
  Joined: Blk, Cells, Obj.
-/
import Derived.Test.YtfiobemeogaaiaaGreatJCommon
import Derived.OneCell
import Derived.Laws.Rows
import Derived.Deep.Draws
variable {cs:Array Go.Value} {S:List Nat} {b:Nat} {t:Go.TypeId} {x y z:Go.Value} {a w w':Go.World}
namespace Go.Proofs.YtfiobemeogaaiaaGreat
open Go.RowKit
def Blk (w:World) (b:Nat) (cs:Array Value) (t:TypeId):Prop:=w.heap[b]? = some (.cells cs t (0,0))
theorem Blk.lt (h:Blk w b cs t):b<w.heap.size:=lt_of_block h
theorem Blk.cell (h:Blk w b cs t) (i:Nat) (v:Value) (hv:cs[i]? = some v):w.cell? ⟨b,i,none⟩=some v:=by unfold Blk at h;simp [World.cell?,h,hv]
theorem Blk.free (h:Blk w b cs t) (i:Nat):w.frozen? ⟨b,i,none⟩=false:=by unfold Blk at h;simp [World.frozen?,h]
theorem Blk.set (h:Blk w b cs t) (i:Nat) (u:Value):Blk (w.setCell ⟨b,i,none⟩ u) b (cs.set! i u) t:=by
 have hlt:=h.lt
 have h':w.heap[b]=.cells cs t (0,0):=by unfold Blk at h;simpa [Array.getElem?_eq_getElem hlt] using h
 show (w.heap.modify b _)[b]? = _
 rw [Array.getElem?_eq_getElem (by simpa using hlt),Array.getElem_modify_self,h']
 rfl
theorem Blk.other (h:Blk w b cs t) (p:Addr) (hp:p.block≠b) (u:Value):Blk (w.setCell p u) b cs t:=
 (Below.heap_setCell w p u b (fun e=>hp e.symm)).trans h
theorem Blk.alloc (h:Blk w b cs t) (o:Obj):Blk (w.alloc o) b cs t:=(Below.heap_alloc w o b h.lt).trans h
theorem Blk.drewN (h:Blk w b cs t) (n:Nat):Blk (w.drewN n) b cs t:=h
theorem Blk.below {B:Nat} (h:Blk w b cs t) (hb:Below B w w') (hB:b<B):Blk w' b cs t:=(hb.block b hB).trans h
theorem Blk.onto (h:Blk w b cs t) (hb:Below w.heap.size w w'):Blk w' b cs t:=h.below hb h.lt
theorem Blk.new (w:World) (cs:Array Value) (t:TypeId):Blk (w.alloc (.cells cs t)) w.heap.size cs t:=heap_alloc_new w _
theorem Blk.four {x0 x1 x2 x3:Value} (h:Blk w b #[x0,x1,x2,x3] t) :
 w.cell? ⟨b,0,none⟩=some x0∧w.cell? ⟨b,1,none⟩=some x1∧w.cell? ⟨b,2,none⟩=some x2∧w.cell? ⟨b,3,none⟩=some x3 ∧
 w.frozen? ⟨b,0,none⟩=false∧w.frozen? ⟨b,1,none⟩=false∧w.frozen? ⟨b,2,none⟩=false∧w.frozen? ⟨b,3,none⟩=false:=
 ⟨h.cell 0 _ rfl,h.cell 1 _ rfl,h.cell 2 _ rfl,h.cell 3 _ rfl,h.free 0,h.free 1,h.free 2,h.free 3⟩
def Blk3 (w:World) (b:Nat) (x y z:Value) (t:TypeId):Prop:=w.heap[b]? = some (.cells #[x,y,z] t (0,0))
theorem Blk3.lt (h:Blk3 w b x y z t):b<w.heap.size:=lt_of_block h
theorem Blk3.c0 (h:Blk3 w b x y z t):w.cell? ⟨b,0,none⟩=some x:=by unfold Blk3 at h;simp [World.cell?,h]
theorem Blk3.c1 (h:Blk3 w b x y z t):w.cell? ⟨b,1,none⟩=some y:=by unfold Blk3 at h;simp [World.cell?,h]
theorem Blk3.c2 (h:Blk3 w b x y z t):w.cell? ⟨b,2,none⟩=some z:=by unfold Blk3 at h;simp [World.cell?,h]
theorem Blk3.free (h:Blk3 w b x y z t) (i:Nat):w.frozen? ⟨b,i,none⟩=false:=by unfold Blk3 at h;simp [World.frozen?,h]
theorem Blk3.s0 (h:Blk3 w b x y z t) (u:Value):Blk3 (w.setCell ⟨b,0,none⟩ u) b u y z t:=by
 have hlt:=h.lt
 have h':w.heap[b]=.cells #[x,y,z] t (0,0):=by unfold Blk3 at h;simpa [Array.getElem?_eq_getElem hlt] using h
 show (w.heap.modify b _)[b]? = _
 rw [Array.getElem?_eq_getElem (by simpa using hlt),Array.getElem_modify_self,h']
 rfl
theorem Blk3.s1 (h:Blk3 w b x y z t) (u:Value):Blk3 (w.setCell ⟨b,1,none⟩ u) b x u z t:=by
 have hlt:=h.lt
 have h':w.heap[b]=.cells #[x,y,z] t (0,0):=by unfold Blk3 at h;simpa [Array.getElem?_eq_getElem hlt] using h
 show (w.heap.modify b _)[b]? = _
 rw [Array.getElem?_eq_getElem (by simpa using hlt),Array.getElem_modify_self,h']
 rfl
theorem Blk3.s2 (h:Blk3 w b x y z t) (u:Value):Blk3 (w.setCell ⟨b,2,none⟩ u) b x y u t:=by
 have hlt:=h.lt
 have h':w.heap[b]=.cells #[x,y,z] t (0,0):=by unfold Blk3 at h;simpa [Array.getElem?_eq_getElem hlt] using h
 show (w.heap.modify b _)[b]? = _
 rw [Array.getElem?_eq_getElem (by simpa using hlt),Array.getElem_modify_self,h']
 rfl
theorem Blk3.other (h:Blk3 w b x y z t) (p:Addr) (hp:p.block≠b) (u:Value):Blk3 (w.setCell p u) b x y z t:=
 (Below.heap_setCell w p u b (fun e=>hp e.symm)).trans h
theorem Blk3.alloc (h:Blk3 w b x y z t) (o:Obj):Blk3 (w.alloc o) b x y z t:=
 (Below.heap_alloc w o b h.lt).trans h
theorem Blk3.new (w:World) (x y z:Value) (t:TypeId):Blk3 (w.alloc (.cells #[x,y,z] t)) w.heap.size x y z t:=heap_alloc_new w _
structure Apart (S:List Nat) (w w':World):Prop where
 os:w'.os=w.os
 tape:w'.tape=w.tape
 output:w'.output=w.output
 size:w.heap.size≤w'.heap.size
 block:∀ k,k<w.heap.size→k ∉ S→w'.heap[k]? = w.heap[k]?
theorem Apart.refl (S:List Nat) (w:World):Apart S w w:=⟨rfl,rfl,rfl,Nat.le_refl _,fun _ _ _=>rfl⟩
theorem Apart.trans {S':List Nat} {b c:World} (h:Apart S a b) (k:Apart S' b c) (hs:∀ x∈S',x∈S∨a.heap.size≤x):Apart S a c:=
 ⟨k.os.trans h.os,k.tape.trans h.tape,k.output.trans h.output,Nat.le_trans h.size k.size,fun i hi hn=>(k.block i (Nat.lt_of_lt_of_le hi h.size) (fun g=>by
  rcases hs i g with g|g
  ·exact hn g
  ·omega)).trans (h.block i hi hn)⟩
theorem Apart.more {S S':List Nat} {w w':World} (h:Apart S w w') (hs:∀ x∈S,x∈S'):Apart S' w w':=⟨h.os,h.tape,h.output,h.size,fun i hi hn=>h.block i hi (fun g=>hn (hs i g))⟩
theorem Apart.of_below (h:Below w.heap.size w w'):Apart S w w':=⟨h.os,h.tape,h.output,h.size,fun i hi _=>h.block i hi⟩
theorem Apart.to_below {B:Nat} (h:Apart S w w') (hs:∀ x∈S,B≤x) (hB:B≤w.heap.size):Below B w w':=
 ⟨h.os,h.tape,h.output,h.size,fun i hi=>h.block i (Nat.lt_of_lt_of_le hi hB) (fun g=>by have:=hs i g;omega)⟩
theorem Apart.cell (h:Apart S w w') {p:Addr} (hp:p.block<w.heap.size) (hn:p.block ∉ S):w'.cell? p=w.cell? p:=World.cell?_of_block (w:=w) (h.block p.block hp hn)
theorem Apart.alloc (h:Apart S a w) (o:Obj):Apart S a (w.alloc o):=
 h.trans (S':=[]) (.of_below ((Below.refl _ _).alloc (Nat.le_refl _) o)) (by simp)
theorem Apart.drewN (h:Apart S a w) (n:Nat):Apart S a (w.drewN n):=⟨h.os,h.tape,h.output,h.size,h.block⟩
theorem Apart.setCell (h:Apart S a w) {p:Addr} (hp:p.block∈S∨a.heap.size≤p.block) (u:Value):Apart S a (w.setCell p u):=
 ⟨h.os,h.tape,h.output,by simpa [World.setCell] using h.size,fun i hi hn=>(Below.heap_setCell w p u i (fun e=>by
  rcases hp with g|g
  ·exact hn (e ▸ g)
  ·omega)).trans (h.block i hi hn)⟩
end Go.Proofs.YtfiobemeogaaiaaGreat
