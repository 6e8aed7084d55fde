/-
  Joined: Common, NumMath, Open.
-/
import Derived.Test.YtfiobemeogaaiaaGreatUtfMath
import Derived.WalkKit
import Derived.WalkSpells
import Derived.WalkLawsBesides
import Derived.Lib.Hide
import Derived.OpenShut
import Derived.IntWalk
import Derived.Test.YtfiobemeogaaiaaGreatRows
import Derived.Deep.Slices
import Derived.Deep.Fields
import Derived.ChangeSame
import Derived.Carry
namespace Go.Proofs.YtfiobemeogaaiaaGreat
open Go.RowKit
theorem aL {k:IntKind} {a b:Int} (h:a=b):Ending.returned (.int k a)=.returned (.int k b):=by rw [h]
theorem aO {a b:Bool} (h:a=b):Ending.returned (.bool a)=.returned (.bool b):=by rw [h]
theorem NQ {a b:ByteArray} (h:a=b):Ending.returned (.string a)=.returned (.string b):=by rw [h]
theorem fZ {a b c d:Int} (h1:a=c) (h2:b=d):Ending.returned (.tuple #[.int .i32 a,.int .i64 b])=.returned (.tuple #[.int .i32 c,.int .i64 d]):=by rw [h1,h2]
theorem cE (s:ByteArray) (k:Nat) (h:k<s.size):bt s.data.toList k=(s[k]'h).toNat:=by
 unfold bt
 have h':k<s.data.toList.length:=by simpa using h
 rw [List.getD_eq_getElem?_getD,List.getElem?_eq_getElem h']
 rfl
theorem pM (a b:List UInt8) (h:a.length=b.length) (e:∀ i,i<a.length→bt a i=bt b i):a=b:=by
 refine List.ext_getElem h fun i h1 h2=>?_
 have:=e i h1
 unfold bt at this
 rw [List.getD_eq_getElem?_getD,List.getD_eq_getElem?_getD,List.getElem?_eq_getElem h1,List.getElem?_eq_getElem h2] at this
 exact UInt8.toNat_inj.1 this
theorem bD (xs:List Int) (i:Nat) (h:i<xs.length):bt (strOfNums xs).data.toList i=(xs.getD i 0).toNat % 256:=by
 unfold bt strOfNums
 simp [List.getD_eq_getElem?_getD,List.getElem?_eq_getElem h]
theorem hG (xs:List Int):(strOfNums xs).size=xs.length:=by simp [strOfNums,ByteArray.size]
theorem aF (a b:ByteArray):(a++b).data.toList=a.data.toList++b.data.toList:=by simp
theorem aE (s:ByteArray) (a b:Nat):(s.extract a b).data.toList=(s.data.toList.drop a).take (b - a):=by
 rw [ByteArray.data_extract,Array.toList_extract]
theorem dC {a b:ByteArray} (h:¬ a=b):(a.toList == b.toList)=false:=by
 rw [beq_eq_false_iff_ne,ByteArray.toList_eq,ByteArray.toList_eq]
 exact fun e=>h (ByteArray.ext (Array.toList_inj.1 e))
theorem lE (s:ByteArray):s.toList.isEmpty=decide (s.size=0):=by
 have h:s.toList.length=s.size:=by rw [ByteArray.toList_eq];simp
 rw [← h]
 cases s.toList <;> simp
theorem aR {a b:ByteArray} (h:a.data.toList=b.data.toList):a=b:=ByteArray.ext (Array.toList_inj.1 h)
theorem aB {B:Nat} {a w:World} (h:Below B a w) (n:Nat):Below B a (w.drewN n):=⟨h.os,h.tape,h.output,h.size,h.block⟩
theorem onward {P:Program} {f:FuncId} {args:Array Value} {v:Value} {w0 w:World} (h:Below w0.heap.size w0 w)
 (c:Calls P f args w fun e w'=>e=.returned v∧Below w.heap.size w w'):Calls P f args w fun e w'=>e=.returned v∧Below w0.heap.size w0 w':=
 c.mono fun _ _ ⟨he,hb⟩=>⟨he,h.trans (hb.mono h.size)⟩
end Go.Proofs.YtfiobemeogaaiaaGreat
namespace Go.Proofs.YtfiobemeogaaiaaGreat
open Go.RowKit Go.ChangeShapes Go.WideShapes Go.Deep
section
variable {H : Type} {enc : TypeId × Value → H} {P : Program} {w : World} {base : Nat} {spare : Nat → Bool} {held : Bool}
theorem open_row {t e:TypeId} {r:Reach} {b0:Nat} {v:Value} {d:DataW H} {p:List MemPlace} (ht:P.underlying t=some (.slice e)) (hv:Value.okWide P w r b0 t v) (h:DataW.Trod enc P w base spare held t v d p) :
 v=.slice none 0 0 ∨
 ∃ (a:Addr) (len cap:Nat),v=.slice (some a) len cap∧len≤cap∧cap≤maxLen ∧
  ∀ i,i<len→∃ (cs:List Value) (n:Nat) (x:DataW H×List MemPlace),w.cells? base (a.add (i * P.cellsOf e)) (P.cellsOf e)=some cs∧DataW.trod enc P w base spare held n e cs=some x:=by
 obtain ⟨a,len,cap,rfl⟩:=okWide_slice ht hv
 obtain ⟨n,hn⟩:=h
 rcases open_slice ht hn with ⟨h0,_⟩|⟨a',len',cap',m,n',D,Pl,hcs,_,hl,hm,hmm,_,hx⟩
 ·left
  simpa [Value.cells] using h0
 ·right
  have e1:Value.slice a len cap=.slice (some a') len' cap':=by simpa [Value.cells] using hcs
  refine ⟨a',len',cap',e1,hl,hm,fun i hi=>?_⟩
  obtain ⟨cs,h1,h2⟩:=hx i (by rw [hmm];split <;> omega)
  exact ⟨cs,n',_,h1,h2⟩
theorem open_fields {e:TypeId} {fs:Array Field} {n:Nat} {cs:List Value} {x:DataW H×List MemPlace} (he:P.underlying e=some (.struct fs)) (hone:oneCellFields P fs=true)
 (h:DataW.trod enc P w base spare held n e cs=some x) :
 cs.length=P.cellsOf e∧∀ (j:Nat) (f:Field) (hj:j<cs.length),fs[j]? = some f→∃ (m:Nat) (y:DataW H×List MemPlace),DataW.trod enc P w base spare held m f.type [cs[j]]=some y:=by
 obtain ⟨xs,m,_,_,hlen,hxl,hf⟩:=DataW.trod_struct he h
 refine ⟨hlen,fun j f hj hfj=>?_⟩
 obtain ⟨ho,hk⟩:=hone_of hone j f hfj
 have h1:=hf j f hfj
 rw [ho,hk,List.drop_eq_getElem_cons hj] at h1
 have hjx:j<xs.length:=by rw [hxl];exact (Array.getElem?_eq_some_iff.1 hfj).1
 rw [List.getElem?_eq_getElem hjx] at h1
 exact ⟨m,_,h1⟩
theorem gX {b n:Nat} {a:Addr} {cs:List Value} (h:w.cells? b a n=some cs):cs.length=n∧∀ j (hj:j<cs.length),w.cell? (a.add j)=some cs[j]:=by
 obtain ⟨_,hl,hc⟩:=World.cells?_some h
 refine ⟨hl,fun j hj=>?_⟩
 rw [hc j (by omega),List.getElem?_eq_getElem hj]
end
end Go.Proofs.YtfiobemeogaaiaaGreat
