/-
  ChunkCut
-/
import Derived.Test.YtfiobemeogaaiaaGreatJChunkRef
import Derived.Laws.MakeOwn
namespace Go.Proofs.YtfiobemeogaaiaaGreat
open Go.RowKit
set_option linter.unusedVariables false
structure CutI (s:ByteArray) (w:World) (cur:ByteArray) (L:List ByteArray) (v:Value) (wr:World):Prop where
 own:wr.ownsRow w.heap.size 9 1 v L.length (strVs L)
 bel:Below w.heap.size w wr
 val:vld cur.data.toList
 len:L.length+cur.size≤s.size
 go:∀ L',Ctd cur L'→Ctd s (L++L')
 prev:∀ x∈L,x.size≤1000000
 two:L=[]∨∃ L0 p,L=L0++[p]∧16<p.size+cur.size∧0<cur.size
theorem CutI.start {s:ByteArray} {w wr:World} (hv:vld s.data.toList) (hb:Below w.heap.size w wr):CutI s w s [] (.slice none 0 0) wr:=
 ⟨World.ownsRow_nil _ _ _ _,hb,hv,by simp,fun L' h=>h,fun x h=>absurd h (by simp),.inl rfl⟩
theorem CutI.step {s cur:ByteArray} {w wr w2:World} {L:List ByteArray} {v v':Value} (h:CutI s w cur L v wr) (h16:16<cur.size)
 (hown:w2.ownsRow w.heap.size 9 1 v' (L.length+1) (strVs L++[.string (cur.extract 0 (cutN cur))])) (hb:Below w.heap.size w w2) :
 CutI s w (cur.extract (cutN cur) cur.size) (L++[cur.extract 0 (cutN cur)]) v' w2:=by
 have hn:=fR cur
 have aa:=iV cur h.val h16
 have hp:=hU cur (cutN cur) h.val (nC cur)
 have z1:=bT cur (cutN cur) (by omega)
 have z2:=cV cur (cutN cur)
 have hl:=h.len
 refine ⟨?_,hb,hp.2,?_,fun L' h'=>?_,fun x hx=>?_,.inr ⟨L,_,rfl,by omega,by omega⟩⟩
 ·rw [gX,List.length_append];exact hown
 ·simp only [List.length_append,List.length_cons,List.length_nil];omega
 ·rw [List.append_assoc];exact h.go _ (.more h16 h')
 ·rcases List.mem_append.1 hx with g|g
  ·exact h.prev x g
  ·simp only [List.mem_singleton] at g;subst g;omega
def RetCut (s:ByteArray) (w:World) (e:Ending) (w':World):Prop:=∃ L,CutP s L∧L.length≤s.size∧RetStrs w L e w'
theorem pY {w w':World} {v:Value} {L:List ByteArray} (h:w'.ownsRow w.heap.size 9 1 v L.length (strVs L)) (hb:Below w.heap.size w w'):RetStrs w L (.returned v) w':=by
 obtain ⟨a,c,rfl,hs⟩:=EK h
 exact ⟨a,c,rfl,hs.weak fun _ h=>h.2,hb⟩
theorem CutI.none {s cur:ByteArray} {w wr:World} {L:List ByteArray} {v:Value} (hs:vld s.data.toList) (h:CutI s w cur L v wr) (h0:cur.size=0):RetCut s w (.returned v) wr:=by
 have hg:=h.go [] (.none h0)
 rw [List.append_nil] at hg
 exact ⟨L,.inl ⟨hs,hg⟩,by have:=h.len;omega,pY h.own h.bel⟩
theorem CutI.last {s cur:ByteArray} {w wr w2:World} {L:List ByteArray} {v v':Value} (hs:vld s.data.toList) (h:CutI s w cur L v wr) (h0:0<cur.size) (h1:cur.size≤16)
 (hown:w2.ownsRow w.heap.size 9 1 v' (L.length+1) (strVs L++[.string cur])) (hb:Below w.heap.size w w2):RetCut s w (.returned v') w2:=by
 have hg:=h.go [cur] (.last h0 h1)
 refine ⟨L++[cur],.inl ⟨hs,hg⟩,by have:=h.len;simp only [List.length_append,List.length_cons,List.length_nil];omega,pY ?_ hb⟩
 rw [gX,List.length_append];exact hown
theorem wQ {s:ByteArray} {w w':World} (h:¬ vld s.data.toList) (hb:Below w.heap.size w w'):RetCut s w (.returned (.slice none 0 0)) w':=
 ⟨[],.inr ⟨h,rfl⟩,Nat.zero_le _,mH hb⟩
end Go.Proofs.YtfiobemeogaaiaaGreat
