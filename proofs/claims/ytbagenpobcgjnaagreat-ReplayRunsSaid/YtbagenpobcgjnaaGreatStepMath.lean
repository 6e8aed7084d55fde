/-
  StepMath
-/
import Derived.Test.YtbagenpobcgjnaaGreatJUtfRTake
import Derived.Test.YtbagenpobcgjnaaGreatJChunkRef
import Derived.Laws.OwnMore
variable {s t:ByteArray}
namespace Go.Proofs.YtbagenpobcgjnaaGreat
open Go.RowKit
def runE (t:ByteArray):List Edt→ByteArray×Int
 | []=>(t,0)
 | x::r=>if (appE t x.p x.o x.n).2=0 then runE (appE t x.p x.o x.n).1 r else (⟨#[]⟩,(appE t x.p x.o x.n).2)
theorem dH (t:ByteArray):runE t []=(t,0):=rfl
theorem dY {x:Edt} {r:List Edt} (h:appE t x.p x.o x.n=(s,0)):runE t (x::r)=runE s r:=by
 show (if (appE t x.p x.o x.n).2=0 then _ else _)=_
 rw [h,if_pos rfl]
theorem gC {e:Int} {x:Edt} {r:List Edt} (h:appE t x.p x.o x.n=(s,e)) (he:e≠0):runE t (x::r)=(⟨#[]⟩,e):=by
 show (if (appE t x.p x.o x.n).2=0 then _ else _)=_
 rw [h,if_neg he]
theorem bN {o n:ByteArray} {p:Int} (h:appE t p o n=(s,0)):s.size≤4096:=by
 obtain ⟨k,rfl,hk,ho,-,-,-,-,hl,rfl⟩:=kK h
 have hle:=eZ hk ho
 rw [ByteArray.size_append,ByteArray.size_append,ByteArray.size_extract,ByteArray.size_extract]
 omega
theorem GU {l:List Edt} (h:runE t l=(s,0)):s.size≤max t.size 4096:=by
 induction l generalizing t with
 | nil =>
  rw [dH] at h
  obtain rfl:t=s:=congrArg Prod.fst h
  omega
 | cons x r ih =>
  obtain ⟨⟨u,e⟩,hu⟩:∃ y,appE t x.p x.o x.n=y:=⟨_,rfl⟩
  by_cases he:e=0
  ·subst he
   rw [dY hu] at h
   have:=ih h
   have:=bN hu
   omega
  ·rw [gC hu he] at h
   exact absurd (congrArg Prod.snd h) he
theorem oJ (t:ByteArray) (a b:List Edt):runE t (a++b)=if (runE t a).2=0 then runE (runE t a).1 b else (⟨#[]⟩,(runE t a).2):=by
 induction a generalizing t with
 | nil=>rw [List.nil_append,dH,if_pos rfl]
 | cons x r ih =>
  obtain ⟨⟨u,e⟩,hu⟩:∃ y,appE t x.p x.o x.n=y:=⟨_,rfl⟩
  rw [List.cons_append]
  by_cases he:e=0
  ·subst he
   rw [dY hu,dY hu,ih]
  ·rw [gC hu he,gC hu he,if_neg he]
def rightS (t:ByteArray) (l:List Edt):Bool:=decide (1≤l.length) && decide (l.length≤32) && ((runE t l).2 == 0)
theorem EA {l:List Edt} (h:l.length<1):rightS t l=false:=by unfold rightS;rw [decide_eq_false (by omega)];rfl
theorem yN {l:List Edt} (h:32<l.length):rightS t l=false:=by unfold rightS;rw [decide_eq_false (p:=l.length≤32) (by omega),Bool.and_false];rfl
theorem AV {l:List Edt} (h:1≤l.length) (h2:l.length≤32):rightS t l=((runE t l).2 == 0):=by unfold rightS;rw [decide_eq_true h,decide_eq_true h2];rfl
def Edt.back (x:Edt):Edt:=⟨x.p,x.n,x.o⟩
def invL (l:List Edt):List Edt:=(l.map Edt.back).reverse
theorem aD (l:List Edt):(invL l).length=l.length:=by unfold invL;rw [List.length_reverse,List.length_map]
theorem KV (l:List Edt) (k:Nat) (h:k<l.length):(invL l)[k]? = some (l[l.length - 1 - k]!).back:=by
 unfold invL
 rw [List.getElem?_reverse (by rw [List.length_map];exact h),List.length_map,List.getElem?_map,List.getElem?_eq_getElem (by omega),eget (by omega)]
 rfl
theorem sI (l:List Edt) (k:Nat) (h:k<l.length):(invL l).take (k+1)=(invL l).take k++[(l[l.length - 1 - k]!).back]:=by
 rw [List.take_add_one,KV l k h]
 rfl
theorem vK (l:List Edt):(invL l).take l.length=invL l:=List.take_of_length_le (by rw [aD];exact Nat.le_refl _)
def addS (l:List Edt) (x:Edt):List Edt×Int:=if 32≤l.length then ([],9) else (l++[x],0)
def nilE:Edt:=⟨0,ByteArray.empty,ByteArray.empty⟩
def mixE (l:List Edt) (k:Nat):List Edt:=(invL l).take k++List.replicate (l.length - k) nilE
theorem LD (l:List Edt) (k:Nat) (h:k≤l.length):(mixE l k).length=l.length:=by
 unfold mixE
 rw [List.length_append,List.length_take,List.length_replicate,aD]
 omega
theorem RG (l:List Edt) (k:Nat) (h:k<l.length):(mixE l k)[k]! = nilE:=by
 unfold mixE
 have hl:((invL l).take k).length=k:=by rw [List.length_take,aD];omega
 rw [getElem!_def,List.getElem?_append_right (by omega),hl,Nat.sub_self,List.getElem?_replicate,if_pos (by omega)]
theorem FN (l:List Edt) (k:Nat) (h:k<l.length):mixE l (k+1)=(mixE l k).set k (l[l.length - 1 - k]!).back:=by
 unfold mixE
 have hl:((invL l).take k).length=k:=by rw [List.length_take,aD];omega
 rw [sI l k h,List.set_append_right _ _ (by omega),hl,Nat.sub_self,List.append_assoc]
 congr 1
 rw [show l.length - k=(l.length - (k+1))+1 by omega,List.replicate_succ,List.set_cons_zero]
 rfl
theorem LH (l:List Edt):mixE l l.length=invL l:=by
 unfold mixE
 rw [vK,Nat.sub_self]
 simp
theorem fM (x:Edt) (r:List Edt):Edt.flat (x::r)=.int .i64 x.p::.string x.o::.string x.n::Edt.flat r:=by simp [Edt.flat]
theorem EU (l:List Edt) (k:Nat) (x:Edt) (h:k<l.length):(((Edt.flat l).set (k * 3) (.int .i64 x.p)).set (k * 3+1) (.string x.o)).set (k * 3+2) (.string x.n)=Edt.flat (l.set k x):=by
 induction l generalizing k with
 | nil=>simp at h
 | cons a r ih =>
  cases k with
  | zero =>
   rw [List.set_cons_zero,fM,fM]
   rfl
  | succ k =>
   have e2:(a::r).set (k+1) x=a::r.set k x:=rfl
   rw [e2,fM,fM,← ih k (by simpa using h),show (k+1) * 3+2=k * 3+2+1+1+1 by omega,show (k+1) * 3+1=k * 3+1+1+1+1 by omega,show (k+1) * 3=k * 3+1+1+1 by omega]
   rfl
theorem emade (n:Nat):(madeCells #[.int .i64 0,.string ByteArray.empty,.string ByteArray.empty] (n * 3)).toList=Edt.flat (List.replicate n nilE):=by
 refine List.ext_getElem? fun j=>?_
 rcases Nat.lt_or_ge j (n * 3) with g|g
 ·obtain ⟨g0,g1,g2⟩:=Edt.flat_get (List.replicate n nilE) (j / 3) (by rw [List.length_replicate];omega)
  rw [List.getElem_replicate] at g0 g1 g2
  have e:(madeCells #[.int .i64 0,.string ByteArray.empty,.string ByteArray.empty] (n * 3)).toList[j]? = some ((#[.int .i64 0,.string ByteArray.empty,.string ByteArray.empty]:Array Value)[j % 3]!):=by
   unfold madeCells
   simp [g]
  rw [e]
  rcases (show j=j / 3 * 3∨j=j / 3 * 3+1∨j=j / 3 * 3+2 by omega) with q|q|q
  ·rw [show j % 3=0 by omega,q,g0];rfl
  ·rw [show j % 3=1 by omega,q,g1];rfl
  ·rw [show j % 3=2 by omega,q,g2];rfl
 ·rw [List.getElem?_eq_none (by simp [madeCells];exact g),List.getElem?_eq_none (by rw [Edt.flat_len,List.length_replicate];exact g)]
theorem edrop (l:List Edt) (k:Nat) (h:k<l.length):l.drop k=l[k]! :: l.drop (k+1):=by rw [List.drop_eq_getElem_cons h,eget h]
instance :DecidableEq Edt:=fun x y=>if h:x.p=y.p∧x.o=y.o∧x.n=y.n then isTrue (by cases x;cases y;simp at h;simp [h]) else isFalse (fun e=>h (by rw [e];exact ⟨rfl,rfl,rfl⟩))
theorem DL {a b:List Edt} {k:Nat} (h:∀ j,j<k→a[j]! = b[j]!):a[k]! = b[k]! → ∀ j,j<k+1→a[j]! = b[j]! :=fun e j hj=>by
 rcases Nat.lt_or_ge j k with g|g
 ·exact h j g
 ·obtain rfl:j=k:=by omega
  exact e
theorem EL {a b:List Edt} (hl:a.length=b.length) (h:∀ j,j<a.length→a[j]! = b[j]!):a=b:=by
 refine List.ext_getElem hl fun j h1 h2=>?_
 have:=h j h1
 rwa [eget h1,eget h2] at this
theorem PQ {x y:Edt} (h:¬ x=y):¬ x.p=y.p∨(x.p=y.p∧¬ x.o=y.o)∨(x.p=y.p∧x.o=y.o∧¬ x.n=y.n):=by
 obtain ⟨p,o,n⟩:=x
 obtain ⟨p2,o2,n2⟩:=y
 by_cases h1:p=p2
 ·by_cases h2:o=o2
  ·refine .inr (.inr ⟨h1,h2,fun h3=>h ?_⟩)
   have h3:n=n2:=h3
   rw [h1,h2,h3]
  ·exact .inr (.inl ⟨h1,h2⟩)
 ·exact .inl h1
end Go.Proofs.YtbagenpobcgjnaaGreat
