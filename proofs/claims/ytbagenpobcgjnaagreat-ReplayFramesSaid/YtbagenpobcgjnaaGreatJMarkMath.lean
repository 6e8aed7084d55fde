/-
  Joined: MarkMath, MrkRow, MarkMath2, MarkMath3.
-/
import Derived.Test.YtbagenpobcgjnaaGreatJChunkRef
import Derived.Sort.Walk0
open Go.ByteArray renaming toList_eq->zm
open Go.Op renaming bytesLess->zk
open List renaming all_eq_true->zq,filter_append->zu,filter_cons_of_neg->Ad,filter_eq_self->Af,getElem_drop->zv,getElem_of_mem->zt,getElem_take->Ah,length_append->zw,length_drop->zn,length_take->Ag,lt_irrefl->zr,lt_trans->zy,mem_range->zp,not_lt->zz,take_succ_eq_append_getElem->zx
open Nat renaming le_refl->Ae,lt_of_lt_of_le->Ab,lt_or_ge->zo
variable {j k:Nat} {w:Go.World}
namespace Go.Proofs.YtbagenpobcgjnaaGreat
open Go.RowKit
set_option linter.unusedVariables false
instance :Inhabited l9:=⟨⟨⟨#[]⟩,0⟩⟩
theorem o3 {l:List l9} (h:k<l.length):l[k]! = l[k]:=getElem!_pos l k h
theorem lG (l:List l9) (k:Nat) (h:k<l.length):l.take (k+1)=l.take k++[l[k]!]:=by
 rw [zx h,o3 h]
def yi (n:Nat) (f:Nat→Bool):Bool:=(List.range n).all f
theorem jZ {n:Nat} {f:Nat→Bool}:yi n f=true↔∀ i,i<n→f i=true:=by
 unfold yi;rw [zq];exact ⟨fun h i hi=>h i (zp.2 hi),fun h i hi=>h i (zp.1 hi)⟩
theorem BO {n i:Nat} {f:Nat→Bool} (hi:i<n) (h:f i=false):yi n f=false:=by
 cases hc:yi n f
 ·rfl
 ·rw [jZ.1 hc i hi] at h;cases h
def qq (s:ByteArray) (x:l9):Bool:=decide (x.name=s)
def rz (a b:ByteArray):Bool:=zk a.toList b.toList || a.toList == b.toList
def sf (s:ByteArray) (x:l9):Bool:=!rz x.name s
def yf (a b:ByteArray):Prop:=a.data.toList<b.data.toList
theorem lS {a b c:ByteArray} (h:yf a b) (k:yf b c):yf a c:=zy h k
theorem BT (a:ByteArray):¬ yf a a:=zr _
theorem rT (a b:ByteArray):zk a.toList b.toList=decide (a.data.toList<b.data.toList):=by
 rw [bytesLess_eq,zm,zm]
theorem fM (a b:ByteArray):rz a b=false↔yf b a:=by
 unfold rz;rw [rT,Bool.or_eq_false_iff,decide_eq_false_iff_not,beq_eq_false_iff_ne,zm,zm];constructor
 ·rintro ⟨h,h2⟩;unfold yf;rcases Decidable.em (b.data.toList<a.data.toList) with g|g
  ·exact g
  ·exact absurd (List.le_antisymm (zz.1 g) (zz.1 h)) h2
 ·intro h;exact ⟨fun g=>zr _ (zy h g),fun g=>by unfold yf at h;rw [g] at h;exact zr _ h⟩
theorem ngeB (a b:ByteArray):(!zk b.toList a.toList)=rz a b:=by
 cases h:rz a b
 ·have:=(fM a b).1 h;unfold yf at this;rw [rT,decide_eq_true this];rfl
 ·rw [rT];by_cases g:b.data.toList<a.data.toList
  ·rw [(fM a b).2 g] at h;cases h
  ·rw [decide_eq_false g];rfl
theorem nQ (s:ByteArray) (x:l9):sf s x=true↔yf s x.name:=by
 unfold sf;rw [← fM,Bool.not_eq_true']
theorem lH {a b:ByteArray} (h:rz a b=true):zk a.toList b.toList=true∨a=b:=by
 unfold rz at h;cases hb:zk a.toList b.toList
 ·right;rw [hb] at h;simp at h;exact ByteArray.ext (by
   have:=h;rw [zm,zm] at this;exact Array.toList_inj.1 this)
 ·exact .inl rfl
theorem oV {a b:ByteArray} (h:rz a b=false):zk a.toList b.toList=false∧(a.toList == b.toList)=false:=by
 unfold rz at h;simpa using h
def qp (l:List l9):Bool:=yi (l.length - 1) fun i=>!rz (l[i+1]!).name (l[i]!).name
def xw (t:ByteArray) (x:l9):Bool:=mv x.name.data.toList && me t.data.toList x.p
def nf (l:List l9) (t:ByteArray):Bool:=yi l.length (fun i=>xw t l[i]!) && (decide (l.length≤16) && qp l)
theorem fV (l:List l9):qp l=true↔∀ i,i+1<l.length→rz (l[i+1]!).name (l[i]!).name=false:=by
 unfold qp;rw [jZ];exact ⟨fun h i hi=>by simpa using h i lg,fun h i hi=>by simpa using h i lg⟩
theorem yV {l:List l9} {i:Nat} (hi:i+1<l.length) (h:rz (l[i+1]!).name (l[i]!).name=true):qp l=false:=by
 unfold qp;exact BO (i:=i) lg (by rw [h];rfl)
theorem jP {l:List l9} (h:qp l=true):∀ {i j:Nat},i<j→j<l.length→yf (l[i]!).name (l[j]!).name:=by
 intro i j hij;obtain ⟨d,rfl⟩:∃ d,j=i+1+d:=⟨j - i - 1,lg⟩;clear hij
 induction d with
 | zero=>exact fun hj=>(fM _ _).1 ((fV l).1 h i hj)
 | succ d ih=>exact fun hj=>lS (ih lg) ((fM _ _).1 ((fV l).1 h (i+1+d) lg))
theorem aZ (l:List l9) (t:ByteArray):nf l t=true↔(∀ i,i<l.length→xw t l[i]! = true)∧l.length≤16∧qp l=true:=by
 unfold nf;rw [Bool.and_eq_true,Bool.and_eq_true,jZ,decide_eq_true_iff]
theorem nC {l:List l9} {f:l9→Bool} (hk:k<l.length) (h:∀ j,j<k→f l[j]! = false) (hx:f l[k]! = true):l.findIdx f=k:=by
 rw [List.findIdx_eq hk];refine ⟨by rw [← o3 hk];exact hx,fun j hj=>?_⟩;have:=h j hj;rw [o3 lg] at this;exact this
theorem qO {l:List l9} {f:l9→Bool} (h:∀ j,j<l.length→f l[j]! = false):l.findIdx f=l.length:=by
 rw [List.findIdx_eq_length];intro x hx;obtain ⟨j,hj,rfl⟩:=zt hx;rw [← o3 hj];exact h j hj
theorem jL (l:List l9) (f:l9→Bool):l.findIdx f≤l.length:=List.findIdx_le_length
theorem fX {l:List l9} {f:l9→Bool} (hj:j<l.findIdx f):f l[j]! = false:=by
 have hl:j<l.length:=Ab hj (jL l f);rw [o3 hl];exact List.not_of_lt_findIdx hj
theorem jU {l:List l9} {f:l9→Bool} (h:l.findIdx f<l.length):f l[l.findIdx f]! = true:=by
 rw [o3 h];exact List.findIdx_getElem (w:=h)
def uq (l:List l9) (s:ByteArray):Int×Bool:=if l.findIdx (qq s)<l.length then ((l[l.findIdx (qq s)]!).p,true) else (0,false)
def qb (l:List l9) (s:ByteArray):List l9:=l.filter fun x=>!qq s x
theorem mS (l:List l9) (s:ByteArray):(qb l s).length≤l.length:=List.length_filter_le _ _
theorem FC (l:List l9) (s:ByteArray) (k:Nat) (h:k<l.length) (h2:(l[k]!).name=s):qb (l.take (k+1)) s=qb (l.take k) s:=by
 unfold qb;rw [lG l k h,zu,Ad (by unfold qq;rw [decide_eq_true h2];decide)];simp
theorem DL (l:List l9) (s:ByteArray) (k:Nat) (h:k<l.length) (h2:¬ (l[k]!).name=s):qb (l.take (k+1)) s=qb (l.take k) s++[l[k]!]:=by
 unfold qb;rw [lG l k h,zu,List.filter_cons_of_pos (by unfold qq;rw [decide_eq_false h2];rfl)];rfl
def xf (l:List l9) (x:l9) (j:Nat):List l9:=l.take j++[x]++l.drop j
def pc (l:List l9) (x:l9):List l9:=xf l x (l.findIdx (sf x.name))
def oa (l:List l9) (x:l9) (j k:Nat):List l9:=if k≤j then l.take k else l.take j++[x]++(l.drop j).take (k - j)
theorem uG (l:List l9) (x:l9) (j k:Nat) (hk:k≤l.length):(oa l x j k).length≤k+1:=by
 unfold oa;split
 ·simp;omega
 ·simp;omega
theorem oE {l:List l9} {x:l9} (hk:k<l.length) (h:k<j):oa l x j (k+1)=oa l x j k++[l[k]!]:=by
 unfold oa;rw [if_pos lg,if_pos lg,lG l k hk]
theorem wI {l:List l9} {x:l9} (hk:k<l.length):oa l x k (k+1)=oa l x k k++[x]++[l[k]!]:=by
 unfold oa;rw [if_neg lg,if_pos lg]
 congr 1
 rw [Nat.add_sub_cancel_left,List.drop_eq_getElem_cons hk,List.take_succ_cons,o3 hk];rfl
theorem mF {l:List l9} {x:l9} (hk:k<l.length) (h:j<k):oa l x j (k+1)=oa l x j k++[l[k]!]:=by
 unfold oa;rw [if_neg lg,if_neg lg,List.append_assoc (l.take j++[x])]
 congr 1
 have hd:k - j<(l.drop j).length:=by rw [zn];omega
 rw [show k+1 - j=(k - j)+1 by omega,zx hd,zv,o3 hk]
 congr 3
 omega
theorem sG {l:List l9} {x:l9} (h:j<l.length):oa l x j l.length=xf l x j:=by
 unfold oa xf;rw [if_neg lg,List.take_of_length_le (l:=l.drop j) (by rw [zn];omega)]
theorem pX {l:List l9} {x:l9}:oa l x l.length l.length++[x]=xf l x l.length:=by
 unfold oa xf;rw [if_pos (Ae _)];simp
def qy (l:List l9) (x:l9):List l9×Int:=
 if mv x.name.data.toList=false then ([],7)
 else if l.findIdx (qq x.name)<l.length then (pc (qb l x.name) x,0)
 else if 16≤l.length then ([],9) else (pc l x,0)
def pk (l:List l9) (s:ByteArray):List l9×Int:=if l.findIdx (qq s)<l.length then (qb l s,0) else ([],8)
theorem tM {l:List l9} {s:ByteArray} (h:qp l=true) (hi:l.findIdx (qq s)<l.length):qb l s=l.take (l.findIdx (qq s))++l.drop (l.findIdx (qq s)+1):=by
 obtain ⟨i,he⟩:∃ i,l.findIdx (qq s)=i:=⟨_,rfl⟩;have h1:=jU hi;have h2:=fun j=>fX (l:=l) (f:=qq s) (j:=j);rw [he] at hi h1 h2 ⊢;have e:l=l.take i++l[i]! :: l.drop (i+1):=by rw [o3 hi];simp
 have ha:(l.take i).filter (fun x=>!qq s x)=l.take i:=Af.2 fun x hx=>by
  obtain ⟨j,hj,rfl⟩:=zt hx;rw [Ag] at hj;have:=h2 j lg;rw [Ah,← o3 lg,this];rfl
 have hb:(l.drop (i+1)).filter (fun x=>!qq s x)=l.drop (i+1):=Af.2 fun x hx=>by
  obtain ⟨j,hj,rfl⟩:=zt hx;rw [zn] at hj;rw [zv,← o3 lg];have:=jP h (show i<i+1+j by omega) lg;unfold qq at h1 ⊢;have h1':=of_decide_eq_true h1;rw [h1'] at this;rw [decide_eq_false (fun g=>by rw [g] at this;exact BT _ this)];rfl
 unfold qb
 conv=>lhs;rw [e]
 rw [zu,Ad (by rw [h1];decide),ha,hb]
theorem yR {l:List l9} {x:l9} (h:qp l=true) (hi:l.findIdx (qq x.name)<l.length) :
 pc (qb l x.name) x=l.take (l.findIdx (qq x.name))++[x]++l.drop (l.findIdx (qq x.name)+1):=by
 rw [tM h hi];obtain ⟨i,he⟩:∃ i,l.findIdx (qq x.name)=i:=⟨_,rfl⟩;have h1:=jU hi;rw [he] at hi h1 ⊢;have h1':(l[i]!).name=x.name:=of_decide_eq_true h1;have hlt:(l.take i).length=i:=by rw [Ag];omega
 have hj:(l.take i++l.drop (i+1)).findIdx (sf x.name)=i:=by
  have ha:∀ j,j<i→sf x.name (l.take i++l.drop (i+1))[j]! = false:=fun j hj=>by
   have ab:j<(l.take i++l.drop (i+1)).length:=by rw [zw,hlt];omega
   rw [o3 ab,List.getElem_append_left (by rw [hlt];exact hj),Ah,← o3 lg];have:=jP h hj hi;rw [h1'] at this;cases hc:sf x.name l[j]!
   ·rfl
   ·exact absurd (lS this ((nQ _ _).1 hc)) (BT _)
  by_cases hn:i+1<l.length
  ·have aa:i<(l.take i++l.drop (i+1)).length:=by rw [zw,hlt,zn];omega
   refine nC aa ha ?_;rw [o3 aa,List.getElem_append_right (by rw [hlt];omega),zv,← o3 (by rw [hlt];omega),nQ];have:=jP h (show i<i+1 by omega) hn;rw [h1'] at this;simpa [hlt] using this
  ·have e2:(l.take i++l.drop (i+1)).length=i:=by rw [zw,hlt,zn];omega
   have:=qO (l:=l.take i++l.drop (i+1)) (f:=sf x.name) (fun j hj=>ha j (by rw [e2] at hj;exact hj));rw [this,e2]
 unfold pc xf;rw [hj]
 congr 1
 ·congr 1
  rw [List.take_append_of_le_length (by rw [hlt];exact Ae _),List.take_take,Nat.min_self]
 ·conv=>lhs;rw [show i=(l.take i).length+0 by rw [hlt];rfl]
  rw [List.drop_append];simp [hlt]
def pb (l:List l9) (f:Int→Int):List l9:=l.map fun x=>⟨x.name,f x.p⟩
theorem sP (l:List l9) (f:Int→Int) (k:Nat) (h:k<l.length):pb (l.take (k+1)) f=pb (l.take k) f++[⟨(l[k]!).name,f (l[k]!).p⟩]:=by
 unfold pb;rw [lG l k h,List.map_append];rfl
theorem bO (l:List l9) (f:Int→Int):(pb l f).length=l.length:=by simp [pb]
theorem iM (l:List l9) (f:Int→Int) (i:Nat) (h:i<l.length):(pb l f)[i]! = ⟨(l[i]!).name,f (l[i]!).p⟩:=by
 rw [o3 (by rw [bO];exact h),o3 h];simp [pb]
theorem JD (l:List l9) (f:Int→Int):qp (pb l f)=qp l:=by
 unfold qp;rw [bO];unfold yi;rw [Bool.eq_iff_iff,zq,zq];constructor
 ·intro h i hi;have hi':=zp.1 hi;have:=h i hi;rw [iM l f i lg,iM l f (i+1) lg] at this;exact this
 ·intro h i hi;have hi':=zp.1 hi;rw [iM l f i lg,iM l f (i+1) lg];exact h i hi
structure qx where
 a:Option Addr
 l:List l9
 c:Nat
instance :Inhabited qx:=⟨⟨none,[],0⟩⟩
structure vf (w:World) (x:qx):Prop where
 row:o4 w (·<w) x.a x.l
 nil:x.a=none→x.c=0
theorem vf.len {x:qx} (h:vf w x) (hn:x.a=none):x.l=[]:=by
 cases hl:x.l with
 | nil=>rfl
 | cons y r =>
  obtain ⟨ad,e,-⟩:=h.row 0 (by rw [hl];simp);rw [hn] at e;cases e
theorem JS (ad:Addr) (k i:Nat) (h:0<i):(⟨(ad.add (k * 2)).block,(ad.add (k * 2)).off+i,none⟩:Addr)=ad.add (k * 2+i):=by
 unfold Addr.add;by_cases hk:k * 2=0
 ·rw [if_pos hk,if_neg lg,hk,Nat.zero_add]
 ·rw [if_neg hk,if_neg lg];show (⟨ad.block,ad.off+k * 2+i,none⟩:Addr)=⟨ad.block,ad.off+(k * 2+i),none⟩;rw [Nat.add_assoc]
theorem GD {B:Nat→Prop} {ad:Addr} {l:List l9} (h:o4 w B (some ad) l):∀ j u,(l9.flat l)[j]? = some u→w (ad.add j)=some u:=fun j u hj=>by
 have hlt:j<l.length * 2:=by
  rcases zo j (l.length * 2) with g|g
  ·exact g
  ·rw [List.getElem?_eq_none (by rw [l9.flat_len];exact g)] at hj;cases hj
 obtain ⟨ad',e,-,q0,q1⟩:=h (j / 2) lg;obtain rfl:ad=ad':=by injection e
 obtain ⟨g0,g1⟩:=l9.flat_get l (j / 2) lg;rcases (show j=j / 2 * 2∨j=j / 2 * 2+1 by omega) with g|g
 ·rw [g] at hj ⊢;rw [g0] at hj;rw [q0];exact hj
 ·rw [g] at hj ⊢;rw [g1] at hj;rw [← JS _ _ _ lj,q1];exact hj
theorem JB (l:List l9):∀ u∈l9.flat l,u.oneCell'=true:=fun u hu=>by
 unfold l9.flat at hu;obtain ⟨x,-,hx⟩:=List.mem_flatMap.1 hu;exact bA _ _ u hx
structure KRow (w:World) (base:Nat) (x:qx):Prop where
 row:o4 w (fun b=>base≤b∧b<w) x.a x.l
 nil:x.a=none→x.c=0
 le:x.l.length≤x.c
 cap:x.c≤maxLen
theorem xS {base:Nat} {t:TypeId} {v:Value} {l:List l9} (h:w.ownsRow base t 2 v l.length (l9.flat l)):∃ a c,v=.slice a l.length c∧KRow w base ⟨a,l,c⟩:=by
 obtain ⟨a,c,e,hr⟩:=wQ h;refine ⟨a,c,e,hr,?_,?_,?_⟩
 ·intro hn;have hn:a=none:=hn;rcases h.2 with ⟨rfl,h0⟩|⟨g,cap,cur,rfl,-⟩
  ·injection e with _ _ e3;exact e3.symm
  ·injection e with e1;rw [hn] at e1;cases e1
 ·show l.length≤c;rcases h.2 with ⟨rfl,h0⟩|⟨g,cap,cur,rfl,_,_,hnc,_⟩
  ·injection e with _ e2 e3;omega
  ·injection e with _ _ e3;omega
 ·show c≤maxLen;rcases h.2 with ⟨rfl,h0⟩|⟨g,cap,cur,rfl,_,_,hnc,hcm,_⟩
  ·injection e with _ e2 e3;unfold maxLen;omega
  ·injection e with _ _ e3;omega
theorem vf.later {W:World} {x:qx} (h:vf w x) (hb:Below w w W):vf W x:=⟨(h.row.below (fun _ h=>h) hb).more fun b hb2=>Ab hb2 hb.size,h.nil⟩
theorem vf.empty (w:World):vf w ⟨.none,[],0⟩:=⟨fun k hk=>absurd hk li,fun _=>rfl⟩
theorem SA {l:List l9} {s:ByteArray} (hk:k<l.length) (h:∀ j,j<k→qq s l[j]! = false) (he:(l[k]!).name=s):uq l s=((l[k]!).p,true):=by
 have e:=nC hk h (by unfold qq;exact decide_eq_true he);unfold uq;rw [e,if_pos hk]
theorem UN {l:List l9} {s:ByteArray} (h:∀ j,j<l.length→qq s l[j]! = false):uq l s=(0,false):=by
 have e:=qO h;unfold uq;rw [e,if_neg (Nat.lt_irrefl _)]
theorem jW {l:List l9} {f:l9→Bool} (h:∀ j,j<k→f l[j]! = false) (h2:f l[k]! = false):∀ j,j<k+1→f l[j]! = false:=fun j hj=>by
 rcases zo j k with g|g
 ·exact h j g
 ·rw [show j=k by omega];exact h2
theorem sH {l:List l9} (h:∀ i,i+1<k+1→rz (l[i+1]!).name (l[i]!).name=false) (h2:rz (l[k+1]!).name (l[k]!).name=false):∀ i,i+1<k+2→rz (l[i+1]!).name (l[i]!).name=false:=fun i hi=>by
 rcases zo i k with g|g
 ·exact h i lg
 ·rw [show i=k by omega];exact h2
theorem IC {a b:List l9} (h:∀ j,j<k→a[j]! = b[j]!) (h2:a[k]! = b[k]!):∀ j,j<k+1→a[j]! = b[j]! :=fun j hj=>by
 rcases zo j k with g|g
 ·exact h j g
 ·rw [show j=k by omega];exact h2
theorem OY {a b:List l9} (hl:a.length=b.length) (h:∀ j,j<a.length→a[j]! = b[j]!):a=b:=
 List.ext_getElem hl fun j h1 h2=>by have:=h j h1;rwa [o3 h1,o3 h2] at this
instance :DecidableEq l9:=fun x y=>if h:x.name=y.name∧x.p=y.p then isTrue (by cases x;cases y;simp at h;simp [h]) else isFalse (fun e=>h (by rw [e];exact ⟨rfl,rfl⟩))
theorem UM {x y:l9} (h:¬ x=y):¬ x.name=y.name∨(x.name=y.name∧¬ x.p=y.p):=by
 by_cases h1:x.name=y.name
 ·right;refine ⟨h1,fun h2=>h ?_⟩;cases x;cases y;simp at h1 h2;simp [h1,h2]
 ·exact .inl h1
theorem BZ {l:List l9} {t:ByteArray} (h:∀ j,j<k→xw t l[j]! = true) (h2:xw t l[k]! = true):∀ j,j<k+1→xw t l[j]! = true:=fun j hj=>by
 rcases zo j k with g|g
 ·exact h j g
 ·rw [show j=k by omega];exact h2
theorem qR {l:List l9} {t:ByteArray} (hk:k<l.length) (h:xw t l[k]! = false):nf l t=false:=by
 unfold nf;rw [BO hk h];rfl
theorem DT {l:List l9} {t:ByteArray} (h:∀ j,j<l.length→xw t l[j]! = true):nf l t=(decide (l.length≤16) && qp l):=by
 unfold nf;rw [jZ.2 h];rfl
end Go.Proofs.YtbagenpobcgjnaaGreat
