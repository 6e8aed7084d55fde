/-
  Joined: Common, NumMath, Obj.
-/
import Derived.Test.YtbagenpobcgjnaaGreatUtfMath
import Derived.WalkKit
import Derived.WalkSpells
import Derived.WalkLawsBesides
import Derived.Lib.Hide
import Derived.OpenShut
import Derived.IntWalk
import Derived.Deep.Draws
variable {S:List Nat} {a w:Go.World}
namespace Go.Proofs.YtbagenpobcgjnaaGreat
open Go.RowKit
theorem aJ {k:IntKind} {a b:Int} (h:a=b):Ending.returned (.int k a)=.returned (.int k b):=by rw [h]
theorem aM {a b:Bool} (h:a=b):Ending.returned (.bool a)=.returned (.bool b):=by rw [h]
theorem NS {a b:ByteArray} (h:a=b):Ending.returned (.string a)=.returned (.string b):=by rw [h]
theorem gF {a b c d:Int} (h1:a=c) (h2:b=d):Ending.returned (.tuple #[.int .i32 a,.int .i64 b])=.returned (.tuple #[.int .i32 c,.int .i64 d]):=by rw [h1,h2]
theorem bZ (s:ByteArray) (k:Nat) (h:k<s.size):bt s.data.toList k=(s[k]'h).toNat:=by
 unfold bt
 have h':k<s.data.toList.length:=by simpa using h
 rw [List.getD_eq_getElem?_getD,List.getElem?_eq_getElem h']
 rfl
theorem pJ (a b:List UInt8) (h:a.length=b.length) (e:∀ i,i<a.length→bt a i=bt b i):a=b:=by
 refine List.ext_getElem h fun i h1 h2=>?_
 have:=e i h1
 unfold bt at this
 rw [List.getD_eq_getElem?_getD,List.getD_eq_getElem?_getD,List.getElem?_eq_getElem h1,List.getElem?_eq_getElem h2] at this
 exact UInt8.toNat_inj.1 this
theorem bB (xs:List Int) (i:Nat) (h:i<xs.length):bt (strOfNums xs).data.toList i=(xs.getD i 0).toNat % 256:=by
 unfold bt strOfNums
 simp [List.getD_eq_getElem?_getD,List.getElem?_eq_getElem h]
theorem hG (xs:List Int):(strOfNums xs).size=xs.length:=by simp [strOfNums,ByteArray.size]
theorem aF (a b:ByteArray):(a++b).data.toList=a.data.toList++b.data.toList:=by simp
theorem aE (s:ByteArray) (a b:Nat):(s.extract a b).data.toList=(s.data.toList.drop a).take (b - a):=by
 rw [ByteArray.data_extract,Array.toList_extract]
theorem dI {a b:ByteArray} (h:¬ a=b):(a.toList == b.toList)=false:=by
 rw [beq_eq_false_iff_ne,ByteArray.toList_eq,ByteArray.toList_eq]
 exact fun e=>h (ByteArray.ext (Array.toList_inj.1 e))
theorem lR (s:ByteArray):s.toList.isEmpty=decide (s.size=0):=by
 have h:s.toList.length=s.size:=by rw [ByteArray.toList_eq];simp
 rw [← h]
 cases s.toList <;> simp
theorem aP {a b:ByteArray} (h:a.data.toList=b.data.toList):a=b:=ByteArray.ext (Array.toList_inj.1 h)
theorem aB {B:Nat} (h:Below B a w) (n:Nat):Below B a (w.drewN n):=⟨h.os,h.tape,h.output,h.size,h.block⟩
theorem onward {P:Program} {f:FuncId} {args:Array Value} {v:Value} {w0:World} (h:Below w0.heap.size w0 w)
 (c:Calls P f args w fun e w'=>e=.returned v∧Below w.heap.size w w'):Calls P f args w fun e w'=>e=.returned v∧Below w0.heap.size w0 w':=
 c.mono fun _ _ ⟨he,hb⟩=>⟨he,h.trans (hb.mono h.size)⟩
structure Apart (S:List Nat) (w w':World):Prop where
 os:w'.os=w.os
 tape:w'.tape=w.tape
 output:w'.output=w.output
 size:w.heap.size≤w'.heap.size
 block:∀ k,k<w.heap.size→k ∉ S→w'.heap[k]? = w.heap[k]?
theorem Apart.refl (S:List Nat) (w:World):Apart S w w:=⟨rfl,rfl,rfl,Nat.le_refl _,fun _ _ _=>rfl⟩
theorem Apart.trans {S':List Nat} {b c:World} (h:Apart S a b) (k:Apart S' b c) (hs:∀ x∈S',x∈S∨a.heap.size≤x):Apart S a c:=
 ⟨k.os.trans h.os,k.tape.trans h.tape,k.output.trans h.output,Nat.le_trans h.size k.size,fun i hi hn=>(k.block i (Nat.lt_of_lt_of_le hi h.size) (fun g=>by
  rcases hs i g with g|g
  ·exact hn g
  ·omega)).trans (h.block i hi hn)⟩
theorem Apart.more {S S':List Nat} {w w':World} (h:Apart S w w') (hs:∀ x∈S,x∈S'):Apart S' w w':=⟨h.os,h.tape,h.output,h.size,fun i hi hn=>h.block i hi (fun g=>hn (hs i g))⟩
theorem Apart.of_below {w':World} (h:Below w.heap.size w w'):Apart S w w':=⟨h.os,h.tape,h.output,h.size,fun i hi _=>h.block i hi⟩
theorem Apart.to_below {B:Nat} {w':World} (h:Apart S w w') (hs:∀ x∈S,B≤x) (hB:B≤w.heap.size):Below B w w':=
 ⟨h.os,h.tape,h.output,h.size,fun i hi=>h.block i (Nat.lt_of_lt_of_le hi hB) (fun g=>by have:=hs i g;omega)⟩
theorem Apart.cell {w':World} (h:Apart S w w') {p:Addr} (hp:p.block<w.heap.size) (hn:p.block ∉ S):w'.cell? p=w.cell? p:=World.cell?_of_block (w:=w) (h.block p.block hp hn)
theorem Apart.drewN (h:Apart S a w) (n:Nat):Apart S a (w.drewN n):=⟨h.os,h.tape,h.output,h.size,h.block⟩
theorem Apart.setCell (h:Apart S a w) {p:Addr} (hp:p.block∈S∨a.heap.size≤p.block) (u:Value):Apart S a (w.setCell p u):=
 ⟨h.os,h.tape,h.output,by simpa [World.setCell] using h.size,fun i hi hn=>(Below.heap_setCell w p u i (fun e=>by
  rcases hp with g|g
  ·exact hn (e ▸ g)
  ·omega)).trans (h.block i hi hn)⟩
end Go.Proofs.YtbagenpobcgjnaaGreat
