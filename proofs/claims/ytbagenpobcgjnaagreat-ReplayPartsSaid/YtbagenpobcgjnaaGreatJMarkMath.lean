/-
  Joined: MarkMath, MrkRow, MarkMath2, MarkMath3.
-/
import Derived.Test.YtbagenpobcgjnaaGreatJMrk
import Derived.Test.YtbagenpobcgjnaaGreatJUtfRTake
import Derived.Test.YtbagenpobcgjnaaGreatJUtfLeaf
import Derived.Sort.Walk0
import Derived.Test.YtbagenpobcgjnaaGreatJCommon
variable {k:Nat} {w:Go.World}
namespace Go.Proofs.YtbagenpobcgjnaaGreat
open Go.RowKit
set_option linter.unusedVariables false
instance :Inhabited Mrk:=⟨⟨⟨#[]⟩,0⟩⟩
theorem mget {l:List Mrk} (h:k<l.length):l[k]! = l[k]:=getElem!_pos l k h
theorem LT (l:List Mrk) (k:Nat) (h:k<l.length):l.take (k+1)=l.take k++[l[k]!]:=by
 rw [List.take_succ_eq_append_getElem h,mget h]
def allN (n:Nat) (f:Nat→Bool):Bool:=(List.range n).all f
theorem nF {n:Nat} {f:Nat→Bool}:allN n f=true↔∀ i,i<n→f i=true:=by
 unfold allN
 rw [List.all_eq_true]
 exact ⟨fun h i hi=>h i (List.mem_range.2 hi),fun h i hi=>h i (List.mem_range.1 hi)⟩
theorem xS {n i:Nat} {f:Nat→Bool} (hi:i<n) (h:f i=false):allN n f=false:=by
 cases hc:allN n f
 ·rfl
 ·rw [nF.1 hc i hi] at h;cases h
def nmB (s:ByteArray) (x:Mrk):Bool:=decide (x.name=s)
def nleB (a b:ByteArray):Bool:=Op.bytesLess a.toList b.toList || a.toList == b.toList
def gtB (s:ByteArray) (x:Mrk):Bool:=!nleB x.name s
def ltN (a b:ByteArray):Prop:=a.data.toList<b.data.toList
theorem lC {a b c:ByteArray} (h:ltN a b) (k:ltN b c):ltN a c:=List.lt_trans h k
theorem xW (a:ByteArray):¬ ltN a a:=List.lt_irrefl _
theorem pL (a b:ByteArray):Op.bytesLess a.toList b.toList=decide (a.data.toList<b.data.toList):=by
 rw [bytesLess_eq,ByteArray.toList_eq,ByteArray.toList_eq]
theorem eF (a b:ByteArray):nleB a b=false↔ltN b a:=by
 unfold nleB
 rw [pL,Bool.or_eq_false_iff,decide_eq_false_iff_not,beq_eq_false_iff_ne,ByteArray.toList_eq,ByteArray.toList_eq]
 constructor
 ·rintro ⟨h,h2⟩
  unfold ltN
  rcases Decidable.em (b.data.toList<a.data.toList) with g|g
  ·exact g
  ·exact absurd (List.le_antisymm (List.not_lt.1 g) (List.not_lt.1 h)) h2
 ·intro h
  exact ⟨fun g=>List.lt_irrefl _ (List.lt_trans h g),fun g=>by unfold ltN at h;rw [g] at h;exact List.lt_irrefl _ h⟩
theorem ngeB (a b:ByteArray):(!Op.bytesLess b.toList a.toList)=nleB a b:=by
 cases h:nleB a b
 ·have:=(eF a b).1 h
  unfold ltN at this
  rw [pL,decide_eq_true this]
  rfl
 ·rw [pL]
  by_cases g:b.data.toList<a.data.toList
  ·rw [(eF a b).2 g] at h;cases h
  ·rw [decide_eq_false g];rfl
theorem lK (s:ByteArray) (x:Mrk):gtB s x=true↔ltN s x.name:=by
 unfold gtB
 rw [← eF,Bool.not_eq_true']
def riseM (l:List Mrk):Bool:=allN (l.length - 1) fun i=>!nleB (l[i+1]!).name (l[i]!).name
def okM (t:ByteArray) (x:Mrk):Bool:=markB x.name.data.toList && edgeB t.data.toList x.p
def rightM (l:List Mrk) (t:ByteArray):Bool:=allN l.length (fun i=>okM t l[i]!) && (decide (l.length≤16) && riseM l)
theorem gS (l:List Mrk):riseM l=true↔∀ i,i+1<l.length→nleB (l[i+1]!).name (l[i]!).name=false:=by
 unfold riseM
 rw [nF]
 exact ⟨fun h i hi=>by simpa using h i (by omega),fun h i hi=>by simpa using h i (by omega)⟩
theorem JB {l:List Mrk} {i:Nat} (hi:i+1<l.length) (h:nleB (l[i+1]!).name (l[i]!).name=true):riseM l=false:=by
 unfold riseM
 exact xS (i:=i) (by omega) (by rw [h];rfl)
theorem iC {l:List Mrk} (h:riseM l=true):∀ {i j:Nat},i<j→j<l.length→ltN (l[i]!).name (l[j]!).name:=by
 intro i j hij
 obtain ⟨d,rfl⟩:∃ d,j=i+1+d:=⟨j - i - 1,by omega⟩
 clear hij
 induction d with
 | zero=>exact fun hj=>(eF _ _).1 ((gS l).1 h i hj)
 | succ d ih=>exact fun hj=>lC (ih (by omega)) ((eF _ _).1 ((gS l).1 h (i+1+d) (by omega)))
theorem aW (l:List Mrk) (t:ByteArray):rightM l t=true↔(∀ i,i<l.length→okM t l[i]! = true)∧l.length≤16∧riseM l=true:=by
 unfold rightM
 rw [Bool.and_eq_true,Bool.and_eq_true,nF,decide_eq_true_iff]
theorem lF {l:List Mrk} {f:Mrk→Bool} (hk:k<l.length) (h:∀ j,j<k→f l[j]! = false) (hx:f l[k]! = true):l.findIdx f=k:=by
 rw [List.findIdx_eq hk]
 refine ⟨by rw [← mget hk];exact hx,fun j hj=>?_⟩
 have:=h j hj
 rw [mget (by omega)] at this
 exact this
theorem nZ {l:List Mrk} {f:Mrk→Bool} (h:∀ j,j<l.length→f l[j]! = false):l.findIdx f=l.length:=by
 rw [List.findIdx_eq_length]
 intro x hx
 obtain ⟨j,hj,rfl⟩:=List.getElem_of_mem hx
 rw [← mget hj]
 exact h j hj
theorem nT (l:List Mrk) (f:Mrk→Bool):l.findIdx f≤l.length:=List.findIdx_le_length
theorem kI {l:List Mrk} {f:Mrk→Bool} {j:Nat} (hj:j<l.findIdx f):f l[j]! = false:=by
 have hl:j<l.length:=Nat.lt_of_lt_of_le hj (nT l f)
 rw [mget hl]
 exact List.not_of_lt_findIdx hj
theorem oP {l:List Mrk} {f:Mrk→Bool} (h:l.findIdx f<l.length):f l[l.findIdx f]! = true:=by
 rw [mget h]
 exact List.findIdx_getElem (w:=h)
def fndM (l:List Mrk) (s:ByteArray):Int×Bool:=if l.findIdx (nmB s)<l.length then ((l[l.findIdx (nmB s)]!).p,true) else (0,false)
def dropM (l:List Mrk) (s:ByteArray):List Mrk:=l.filter fun x=>!nmB s x
theorem FL (l:List Mrk) (s:ByteArray):(dropM l s).length≤l.length:=List.length_filter_le _ _
def putM (l:List Mrk) (x:Mrk) (j:Nat):List Mrk:=l.take j++[x]++l.drop j
def withM (l:List Mrk) (x:Mrk):List Mrk:=putM l x (l.findIdx (gtB x.name))
def setM (l:List Mrk) (x:Mrk):List Mrk×Int:=
 if markB x.name.data.toList=false then ([],7)
 else if l.findIdx (nmB x.name)<l.length then (withM (dropM l x.name) x,0)
 else if 16≤l.length then ([],9) else (withM l x,0)
def drpM (l:List Mrk) (s:ByteArray):List Mrk×Int:=if l.findIdx (nmB s)<l.length then (dropM l s,0) else ([],8)
theorem pP {l:List Mrk} {s:ByteArray} (h:riseM l=true) (hi:l.findIdx (nmB s)<l.length):dropM l s=l.take (l.findIdx (nmB s))++l.drop (l.findIdx (nmB s)+1):=by
 obtain ⟨i,he⟩:∃ i,l.findIdx (nmB s)=i:=⟨_,rfl⟩
 have h1:=oP hi
 have h2:=fun j=>kI (l:=l) (f:=nmB s) (j:=j)
 rw [he] at hi h1 h2 ⊢
 have e:l=l.take i++l[i]! :: l.drop (i+1):=by rw [mget hi];simp
 have ha:(l.take i).filter (fun x=>!nmB s x)=l.take i:=List.filter_eq_self.2 fun x hx=>by
  obtain ⟨j,hj,rfl⟩:=List.getElem_of_mem hx
  rw [List.length_take] at hj
  have:=h2 j (by omega)
  rw [List.getElem_take,← mget (by omega),this]
  rfl
 have hb:(l.drop (i+1)).filter (fun x=>!nmB s x)=l.drop (i+1):=List.filter_eq_self.2 fun x hx=>by
  obtain ⟨j,hj,rfl⟩:=List.getElem_of_mem hx
  rw [List.length_drop] at hj
  rw [List.getElem_drop,← mget (by omega)]
  have:=iC h (show i<i+1+j by omega) (by omega)
  unfold nmB at h1 ⊢
  have h1':=of_decide_eq_true h1
  rw [h1'] at this
  rw [decide_eq_false (fun g=>by rw [g] at this;exact xW _ this)]
  rfl
 unfold dropM
 conv=>lhs;rw [e]
 rw [List.filter_append,List.filter_cons_of_neg (by rw [h1];decide),ha,hb]
theorem sX {l:List Mrk} {x:Mrk} (h:riseM l=true) (hi:l.findIdx (nmB x.name)<l.length) :
 withM (dropM l x.name) x=l.take (l.findIdx (nmB x.name))++[x]++l.drop (l.findIdx (nmB x.name)+1):=by
 rw [pP h hi]
 obtain ⟨i,he⟩:∃ i,l.findIdx (nmB x.name)=i:=⟨_,rfl⟩
 have h1:=oP hi
 rw [he] at hi h1 ⊢
 have h1':(l[i]!).name=x.name:=of_decide_eq_true h1
 have hlt:(l.take i).length=i:=by rw [List.length_take];omega
 have hj:(l.take i++l.drop (i+1)).findIdx (gtB x.name)=i:=by
  have ha:∀ j,j<i→gtB x.name (l.take i++l.drop (i+1))[j]! = false:=fun j hj=>by
   have ab:j<(l.take i++l.drop (i+1)).length:=by rw [List.length_append,hlt];omega
   rw [mget ab,List.getElem_append_left (by rw [hlt];exact hj),List.getElem_take,← mget (by omega)]
   have:=iC h hj hi
   rw [h1'] at this
   cases hc:gtB x.name l[j]!
   ·rfl
   ·exact absurd (lC this ((lK _ _).1 hc)) (xW _)
  by_cases hn:i+1<l.length
  ·have aa:i<(l.take i++l.drop (i+1)).length:=by rw [List.length_append,hlt,List.length_drop];omega
   refine lF aa ha ?_
   rw [mget aa,List.getElem_append_right (by rw [hlt];omega),List.getElem_drop,← mget (by rw [hlt];omega),lK]
   have:=iC h (show i<i+1 by omega) hn
   rw [h1'] at this
   simpa [hlt] using this
  ·have e2:(l.take i++l.drop (i+1)).length=i:=by rw [List.length_append,hlt,List.length_drop];omega
   have:=nZ (l:=l.take i++l.drop (i+1)) (f:=gtB x.name) (fun j hj=>ha j (by rw [e2] at hj;exact hj))
   rw [this,e2]
 unfold withM putM
 rw [hj]
 congr 1
 ·congr 1
  rw [List.take_append_of_le_length (by rw [hlt];exact Nat.le_refl _),List.take_take,Nat.min_self]
 ·conv=>lhs;rw [show i=(l.take i).length+0 by rw [hlt];rfl]
  rw [List.drop_append]
  simp [hlt]
def shfM (l:List Mrk) (f:Int→Int):List Mrk:=l.map fun x=>⟨x.name,f x.p⟩
theorem GD (l:List Mrk) (f:Int→Int) (k:Nat) (h:k<l.length):shfM (l.take (k+1)) f=shfM (l.take k) f++[⟨(l[k]!).name,f (l[k]!).p⟩]:=by
 unfold shfM
 rw [LT l k h,List.map_append]
 rfl
theorem bT (l:List Mrk) (f:Int→Int):(shfM l f).length=l.length:=by simp [shfM]
theorem gG (l:List Mrk) (f:Int→Int) (i:Nat) (h:i<l.length):(shfM l f)[i]! = ⟨(l[i]!).name,f (l[i]!).p⟩:=by
 rw [mget (by rw [bT];exact h),mget h]
 simp [shfM]
theorem FV (l:List Mrk) (f:Int→Int):riseM (shfM l f)=riseM l:=by
 unfold riseM
 rw [bT]
 unfold allN
 rw [Bool.eq_iff_iff,List.all_eq_true,List.all_eq_true]
 constructor
 ·intro h i hi
  have hi':=List.mem_range.1 hi
  have:=h i hi
  rw [gG l f i (by omega),gG l f (i+1) (by omega)] at this
  exact this
 ·intro h i hi
  have hi':=List.mem_range.1 hi
  rw [gG l f i (by omega),gG l f (i+1) (by omega)]
  exact h i hi
structure KPc where
 a:Option Addr
 l:List Mrk
 c:Nat
instance :Inhabited KPc:=⟨⟨none,[],0⟩⟩
structure KPcs (w:World) (x:KPc):Prop where
 row:Mrks w (·<w.heap.size) x.a x.l
 nil:x.a=none→x.c=0
theorem KPcs.len {x:KPc} (h:KPcs w x) (hn:x.a=none):x.l=[]:=by
 cases hl:x.l with
 | nil=>rfl
 | cons y r =>
  obtain ⟨ad,e,-⟩:=h.row 0 (by rw [hl];simp)
  rw [hn] at e
  cases e
theorem GB (ad:Addr) (k i:Nat) (h:0<i):(⟨(ad.add (k * 2)).block,(ad.add (k * 2)).off+i,none⟩:Addr)=ad.add (k * 2+i):=by
 unfold Addr.add
 by_cases hk:k * 2=0
 ·rw [if_pos hk,if_neg (by omega),hk,Nat.zero_add]
 ·rw [if_neg hk,if_neg (by omega)]
  show (⟨ad.block,ad.off+k * 2+i,none⟩:Addr)=⟨ad.block,ad.off+(k * 2+i),none⟩
  rw [Nat.add_assoc]
theorem yM {B:Nat→Prop} {ad:Addr} {l:List Mrk} (h:Mrks w B (some ad) l):∀ j u,(Mrk.flat l)[j]? = some u→w.cell? (ad.add j)=some u:=fun j u hj=>by
 have hlt:j<l.length * 2:=by
  rcases Nat.lt_or_ge j (l.length * 2) with g|g
  ·exact g
  ·rw [List.getElem?_eq_none (by rw [Mrk.flat_len];exact g)] at hj
   cases hj
 obtain ⟨ad',e,-,q0,q1⟩:=h (j / 2) (by omega)
 obtain rfl:ad=ad':=by injection e
 obtain ⟨g0,g1⟩:=Mrk.flat_get l (j / 2) (by omega)
 rcases (show j=j / 2 * 2∨j=j / 2 * 2+1 by omega) with g|g
 ·rw [g] at hj ⊢
  rw [g0] at hj
  rw [q0]
  exact hj
 ·rw [g] at hj ⊢
  rw [g1] at hj
  rw [← GB _ _ _ (by decide),q1]
  exact hj
theorem FF (l:List Mrk):∀ u∈Mrk.flat l,u.oneCell'=true:=fun u hu=>by
 unfold Mrk.flat at hu
 obtain ⟨x,-,hx⟩:=List.mem_flatMap.1 hu
 exact xB _ _ u hx
structure KRow (w:World) (base:Nat) (x:KPc):Prop where
 row:Mrks w (fun b=>base≤b∧b<w.heap.size) x.a x.l
 nil:x.a=none→x.c=0
 le:x.l.length≤x.c
 cap:x.c≤maxLen
theorem sH {base:Nat} {t:TypeId} {v:Value} {l:List Mrk} (h:w.ownsRow base t 2 v l.length (Mrk.flat l)):∃ a c,v=.slice a l.length c∧KRow w base ⟨a,l,c⟩:=by
 obtain ⟨a,c,e,hr⟩:=uK h
 refine ⟨a,c,e,hr,?_,?_,?_⟩
 ·intro hn
  have hn:a=none:=hn
  rcases h.2 with ⟨rfl,h0⟩|⟨g,cap,cur,rfl,-⟩
  ·injection e with _ _ e3;exact e3.symm
  ·injection e with e1;rw [hn] at e1;cases e1
 ·show l.length≤c
  rcases h.2 with ⟨rfl,h0⟩|⟨g,cap,cur,rfl,_,_,hnc,_⟩
  ·injection e with _ e2 e3;omega
  ·injection e with _ _ e3;omega
 ·show c≤maxLen
  rcases h.2 with ⟨rfl,h0⟩|⟨g,cap,cur,rfl,_,_,hnc,hcm,_⟩
  ·injection e with _ e2 e3;unfold maxLen;omega
  ·injection e with _ _ e3;omega
theorem KPcs.later {W:World} {x:KPc} (h:KPcs w x) (hb:Below w.heap.size w W):KPcs W x:=⟨(h.row.below (fun _ h=>h) hb).more fun b hb2=>Nat.lt_of_lt_of_le hb2 hb.size,h.nil⟩
theorem KPcs.empty (w:World):KPcs w ⟨.none,[],0⟩:=⟨fun k hk=>absurd hk (by simp),fun _=>rfl⟩
theorem MT {l:List Mrk} {s:ByteArray} (hk:k<l.length) (h:∀ j,j<k→nmB s l[j]! = false) (he:(l[k]!).name=s):fndM l s=((l[k]!).p,true):=by
 have e:=lF hk h (by unfold nmB;exact decide_eq_true he)
 unfold fndM
 rw [e,if_pos hk]
theorem OY {l:List Mrk} {s:ByteArray} (h:∀ j,j<l.length→nmB s l[j]! = false):fndM l s=(0,false):=by
 have e:=nZ h
 unfold fndM
 rw [e,if_neg (Nat.lt_irrefl _)]
theorem iX {l:List Mrk} {f:Mrk→Bool} (h:∀ j,j<k→f l[j]! = false) (h2:f l[k]! = false):∀ j,j<k+1→f l[j]! = false:=fun j hj=>by
 rcases Nat.lt_or_ge j k with g|g
 ·exact h j g
 ·rw [show j=k by omega];exact h2
theorem FE {l:List Mrk} (h:∀ i,i+1<k+1→nleB (l[i+1]!).name (l[i]!).name=false) (h2:nleB (l[k+1]!).name (l[k]!).name=false):∀ i,i+1<k+2→nleB (l[i+1]!).name (l[i]!).name=false:=fun i hi=>by
 rcases Nat.lt_or_ge i k with g|g
 ·exact h i (by omega)
 ·rw [show i=k by omega];exact h2
theorem EM {a b:List Mrk} (h:∀ j,j<k→a[j]! = b[j]!) (h2:a[k]! = b[k]!):∀ j,j<k+1→a[j]! = b[j]! :=fun j hj=>by
 rcases Nat.lt_or_ge j k with g|g
 ·exact h j g
 ·rw [show j=k by omega];exact h2
theorem LZ {a b:List Mrk} (hl:a.length=b.length) (h:∀ j,j<a.length→a[j]! = b[j]!):a=b:=
 List.ext_getElem hl fun j h1 h2=>by have:=h j h1;rwa [mget h1,mget h2] at this
instance :DecidableEq Mrk:=fun x y=>if h:x.name=y.name∧x.p=y.p then isTrue (by cases x;cases y;simp at h;simp [h]) else isFalse (fun e=>h (by rw [e];exact ⟨rfl,rfl⟩))
theorem PY {x y:Mrk} (h:¬ x=y):¬ x.name=y.name∨(x.name=y.name∧¬ x.p=y.p):=by
 by_cases h1:x.name=y.name
 ·right
  refine ⟨h1,fun h2=>h ?_⟩
  cases x;cases y
  simp at h1 h2
  simp [h1,h2]
 ·exact .inl h1
theorem MV {l:List Mrk} {t:ByteArray} (h:∀ j,j<k→okM t l[j]! = true) (h2:okM t l[k]! = true):∀ j,j<k+1→okM t l[j]! = true:=fun j hj=>by
 rcases Nat.lt_or_ge j k with g|g
 ·exact h j g
 ·rw [show j=k by omega];exact h2
theorem yV {l:List Mrk} {t:ByteArray} (hk:k<l.length) (h:okM t l[k]! = false):rightM l t=false:=by
 unfold rightM
 rw [xS hk h]
 rfl
end Go.Proofs.YtbagenpobcgjnaaGreat
