/-
  Joined: Common, NumMath, NumMore, Obj.
-/
import Derived.Test.YtbagenpobcgjnaaGreatUtfMath
import Derived.WalkKit
import Derived.WalkSpells
import Derived.WalkLawsBesides
import Derived.Lib.Hide
import Derived.OpenShut
import Derived.IntWalk
import Derived.Deep.Draws
variable {S:List Nat} {a w:Go.World}
namespace Go.Proofs.YtbagenpobcgjnaaGreat
open Go.RowKit
theorem aK {k:IntKind} {a b:Int} (h:a=b):Ending.returned (.int k a)=.returned (.int k b):=by rw [h]
theorem aA {a b:Bool} (h:a=b):Ending.returned (.bool a)=.returned (.bool b):=by rw [h]
theorem lW {a b:ByteArray} (h:a=b):Ending.returned (.string a)=.returned (.string b):=by rw [h]
theorem fT {a b c d:Int} (h1:a=c) (h2:b=d):Ending.returned (.tuple #[.int .i32 a,.int .i64 b])=.returned (.tuple #[.int .i32 c,.int .i64 d]):=by rw [h1,h2]
theorem bH (s:ByteArray) (k:Nat) (h:k<s.size):bt s.data.toList k=(s[k]'h).toNat:=by
 unfold bt
 have h':k<s.data.toList.length:=by simpa using h
 rw [List.getD_eq_getElem?_getD,List.getElem?_eq_getElem h']
 rfl
theorem oM (a b:List UInt8) (h:a.length=b.length) (e:∀ i,i<a.length→bt a i=bt b i):a=b:=by
 refine List.ext_getElem h fun i h1 h2=>?_
 have:=e i h1
 unfold bt at this
 rw [List.getD_eq_getElem?_getD,List.getD_eq_getElem?_getD,List.getElem?_eq_getElem h1,List.getElem?_eq_getElem h2] at this
 exact UInt8.toNat_inj.1 this
theorem bA (xs:List Int) (i:Nat) (h:i<xs.length):bt (strOfNums xs).data.toList i=(xs.getD i 0).toNat % 256:=by
 unfold bt strOfNums
 simp [List.getD_eq_getElem?_getD,List.getElem?_eq_getElem h]
theorem gQ (xs:List Int):(strOfNums xs).size=xs.length:=by simp [strOfNums,ByteArray.size]
theorem aB (a b:ByteArray):(a++b).data.toList=a.data.toList++b.data.toList:=by simp
theorem aC (s:ByteArray) (a b:Nat):(s.extract a b).data.toList=(s.data.toList.drop a).take (b - a):=by
 rw [ByteArray.data_extract,Array.toList_extract]
theorem eT {a b:ByteArray} (h:¬ a=b):(a.toList == b.toList)=false:=by
 rw [beq_eq_false_iff_ne,ByteArray.toList_eq,ByteArray.toList_eq]
 exact fun e=>h (ByteArray.ext (Array.toList_inj.1 e))
theorem aD (s:ByteArray):s.toList.isEmpty=decide (s.size=0):=by
 have h:s.toList.length=s.size:=by rw [ByteArray.toList_eq];simp
 rw [← h]
 cases s.toList <;> simp
theorem aI {a b:ByteArray} (h:a.data.toList=b.data.toList):a=b:=ByteArray.ext (Array.toList_inj.1 h)
theorem aN {B:Nat} (h:Below B a w) (n:Nat):Below B a (w.drewN n):=⟨h.os,h.tape,h.output,h.size,h.block⟩
theorem onward {P:Program} {f:FuncId} {args:Array Value} {v:Value} {w0:World} (h:Below w0.heap.size w0 w)
 (c:Calls P f args w fun e w'=>e=.returned v∧Below w.heap.size w w'):Calls P f args w fun e w'=>e=.returned v∧Below w0.heap.size w0 w':=
 c.mono fun _ _ ⟨he,hb⟩=>⟨he,h.trans (hb.mono h.size)⟩
def leN (l:List UInt8):Nat→Nat→Nat
 | _,0=>0
 | k,m+1=>bt l k+256 * leN l (k+1) m
theorem PD (l:List UInt8) (m:Nat):∀ k,leN l k m<256 ^ m:=by
 induction m with
 | zero=>intro k;simp [leN]
 | succ m ih =>
  intro k
  have h1:=ih (k+1)
  have h2:=iG l k
  simp only [leN]
  rw [Nat.pow_succ]
  omega
def getI (l:List UInt8) (p:Int) (m:Nat):Nat×Bool:=if p<0∨(l.length:Int) - m<p then (0,false) else (leN l p.toNat m,true)
def leL (u:Nat):Nat→List UInt8
 | 0=>[]
 | m+1=>leL u m++[UInt8.ofNat (u / 256 ^ m % 256)]
theorem aZ (u m:Nat):(leL u m).length=m:=by
 induction m with
 | zero=>rfl
 | succ m ih=>simp [leL,ih]
theorem nW (u m:Nat):∀ i,i<m→bt (leL u m) i=u / 256 ^ i % 256:=by
 induction m with
 | zero=>intro i h;omega
 | succ m ih =>
  intro i h
  simp only [leL]
  by_cases hi:i<m
  ·rw [aV _ _ _ (by rw [aZ];exact hi),ih i hi]
  ·obtain rfl:i=m:=by omega
   rw [bJ _ _ _ (by rw [aZ];exact Nat.le_refl _),aZ,Nat.sub_self]
   show u / 256 ^ i % 256 % 256=_
   omega
theorem IZ (u:Nat):leN (leL u 4) 0 4=u % 4294967296:=by
 simp only [leN]
 rw [nW u 4 0 (by omega),nW u 4 (0+1) (by omega),nW u 4 (0+1+1) (by omega),nW u 4 (0+1+1+1) (by omega)]
 simp;omega
def u64 (n:Int):Nat:=(n % 18446744073709551616).toNat
theorem DS (a b:List UInt8):∀ m i j,(∀ x,x<m→bt a (i+x)=bt b (j+x))→leN a i m=leN b j m:=by
 intro m
 induction m with
 | zero=>intro i j _;rfl
 | succ m ih =>
  intro i j h
  show bt a i+256 * leN a (i+1) m=bt b j+256 * leN b (j+1) m
  rw [ih (i+1) (j+1) (fun x hx=>by have:=h (x+1) (by omega);rw [show i+1+x=i+(x+1) by omega,show j+1+x=j+(x+1) by omega];exact this)]
  have:=h 0 (by omega)
  rw [Nat.add_zero,Nat.add_zero] at this
  rw [this]
theorem PL (a b c:List UInt8) (m:Nat) (h:b.length=m):leN (a++b++c) a.length m=leN b 0 m:=by
 refine DS _ _ m _ _ fun x hx=>?_
 rw [Nat.zero_add,List.append_assoc,bJ _ _ _ (by omega),aV _ _ _ (by omega),show a.length+x - a.length=x by omega]
structure Apart (S:List Nat) (w w':World):Prop where
 os:w'.os=w.os
 tape:w'.tape=w.tape
 output:w'.output=w.output
 size:w.heap.size≤w'.heap.size
 block:∀ k,k<w.heap.size→k ∉ S→w'.heap[k]? = w.heap[k]?
theorem Apart.refl (S:List Nat) (w:World):Apart S w w:=⟨rfl,rfl,rfl,Nat.le_refl _,fun _ _ _=>rfl⟩
theorem Apart.trans {S':List Nat} {b c:World} (h:Apart S a b) (k:Apart S' b c) (hs:∀ x∈S',x∈S∨a.heap.size≤x):Apart S a c:=
 ⟨k.os.trans h.os,k.tape.trans h.tape,k.output.trans h.output,Nat.le_trans h.size k.size,fun i hi hn=>(k.block i (Nat.lt_of_lt_of_le hi h.size) (fun g=>by
  rcases hs i g with g|g
  ·exact hn g
  ·omega)).trans (h.block i hi hn)⟩
theorem Apart.more {S S':List Nat} {w w':World} (h:Apart S w w') (hs:∀ x∈S,x∈S'):Apart S' w w':=⟨h.os,h.tape,h.output,h.size,fun i hi hn=>h.block i hi (fun g=>hn (hs i g))⟩
theorem Apart.of_below {w':World} (h:Below w.heap.size w w'):Apart S w w':=⟨h.os,h.tape,h.output,h.size,fun i hi _=>h.block i hi⟩
theorem Apart.to_below {B:Nat} {w':World} (h:Apart S w w') (hs:∀ x∈S,B≤x) (hB:B≤w.heap.size):Below B w w':=
 ⟨h.os,h.tape,h.output,h.size,fun i hi=>h.block i (Nat.lt_of_lt_of_le hi hB) (fun g=>by have:=hs i g;omega)⟩
theorem Apart.cell {w':World} (h:Apart S w w') {p:Addr} (hp:p.block<w.heap.size) (hn:p.block ∉ S):w'.cell? p=w.cell? p:=World.cell?_of_block (w:=w) (h.block p.block hp hn)
theorem Apart.drewN (h:Apart S a w) (n:Nat):Apart S a (w.drewN n):=⟨h.os,h.tape,h.output,h.size,h.block⟩
theorem Apart.setCell (h:Apart S a w) {p:Addr} (hp:p.block∈S∨a.heap.size≤p.block) (u:Value):Apart S a (w.setCell p u):=
 ⟨h.os,h.tape,h.output,by simpa [World.setCell] using h.size,fun i hi hn=>(Below.heap_setCell w p u i (fun e=>by
  rcases hp with g|g
  ·exact hn (e ▸ g)
  ·omega)).trans (h.block i hi hn)⟩
end Go.Proofs.YtbagenpobcgjnaaGreat
