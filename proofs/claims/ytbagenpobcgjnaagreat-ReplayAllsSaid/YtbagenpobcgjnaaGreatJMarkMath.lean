/-
  Joined: MarkMath, MrkRow, MarkMath2, MarkMath3.
-/
import Derived.Test.YtbagenpobcgjnaaGreatJChunkRef
import Derived.Sort.Walk0
open Go.ByteArray renaming toList_eq->yw
open Go.Op renaming bytesLess->yv
open List renaming all_eq_true->zd,filter_append->zg,filter_cons_of_neg->zp,filter_eq_self->zr,getElem_drop->zh,getElem_of_mem->zf,getElem_take->zt,length_append->zi,length_drop->yx,length_take->zs,lt_irrefl->ze,lt_trans->zk,mem_range->yz,not_lt->zm,take_succ_eq_append_getElem->zj
open Nat renaming le_refl->zq,lt_of_lt_of_le->zo,lt_or_ge->yy
variable {j k:Nat} {w:Go.World}
namespace Go.Proofs.YtbagenpobcgjnaaGreat
open Go.RowKit
set_option linter.unusedVariables false
instance :Inhabited l8:=⟨⟨⟨#[]⟩,0⟩⟩
theorem o6 {l:List l8} (h:k<l.length):l[k]! = l[k]:=getElem!_pos l k h
theorem jJ (l:List l8) (k:Nat) (h:k<l.length):l.take (k+1)=l.take k++[l[k]!]:=by
 rw [zj h,o6 h]
def xx (n:Nat) (f:Nat→Bool):Bool:=(List.range n).all f
theorem jG {n:Nat} {f:Nat→Bool}:xx n f=true↔∀ i,i<n→f i=true:=by
 unfold xx;rw [zd];exact ⟨fun h i hi=>h i (yz.2 hi),fun h i hi=>h i (yz.1 hi)⟩
theorem AH {n i:Nat} {f:Nat→Bool} (hi:i<n) (h:f i=false):xx n f=false:=by
 cases hc:xx n f
 ·rfl
 ·rw [jG.1 hc i hi] at h;cases h
def qo (s:ByteArray) (x:l8):Bool:=decide (x.name=s)
def ry (a b:ByteArray):Bool:=yv a.toList b.toList || a.toList == b.toList
def se (s:ByteArray) (x:l8):Bool:=!ry x.name s
def xu (a b:ByteArray):Prop:=a.data.toList<b.data.toList
theorem lI {a b c:ByteArray} (h:xu a b) (k:xu b c):xu a c:=zk h k
theorem zZ (a:ByteArray):¬ xu a a:=ze _
theorem qG (a b:ByteArray):yv a.toList b.toList=decide (a.data.toList<b.data.toList):=by
 rw [bytesLess_eq,yw,yw]
theorem eN (a b:ByteArray):ry a b=false↔xu b a:=by
 unfold ry;rw [qG,Bool.or_eq_false_iff,decide_eq_false_iff_not,beq_eq_false_iff_ne,yw,yw];constructor
 ·rintro ⟨h,h2⟩;unfold xu;rcases Decidable.em (b.data.toList<a.data.toList) with g|g
  ·exact g
  ·exact absurd (List.le_antisymm (zm.1 g) (zm.1 h)) h2
 ·intro h;exact ⟨fun g=>ze _ (zk h g),fun g=>by unfold xu at h;rw [g] at h;exact ze _ h⟩
theorem ngeB (a b:ByteArray):(!yv b.toList a.toList)=ry a b:=by
 cases h:ry a b
 ·have:=(eN a b).1 h;unfold xu at this;rw [qG,decide_eq_true this];rfl
 ·rw [qG];by_cases g:b.data.toList<a.data.toList
  ·rw [(eN a b).2 g] at h;cases h
  ·rw [decide_eq_false g];rfl
theorem nA (s:ByteArray) (x:l8):se s x=true↔xu s x.name:=by
 unfold se;rw [← eN,Bool.not_eq_true']
theorem jT {a b:ByteArray} (h:ry a b=true):yv a.toList b.toList=true∨a=b:=by
 unfold ry at h;cases hb:yv a.toList b.toList
 ·right;rw [hb] at h;simp at h;exact ByteArray.ext (by
   have:=h;rw [yw,yw] at this;exact Array.toList_inj.1 this)
 ·exact .inl rfl
theorem oE {a b:ByteArray} (h:ry a b=false):yv a.toList b.toList=false∧(a.toList == b.toList)=false:=by
 unfold ry at h;simpa using h
def qm (l:List l8):Bool:=xx (l.length - 1) fun i=>!ry (l[i+1]!).name (l[i]!).name
def xf (t:ByteArray) (x:l8):Bool:=ng x.name.data.toList && mg t.data.toList x.p
def m9 (l:List l8) (t:ByteArray):Bool:=xx l.length (fun i=>xf t l[i]!) && (decide (l.length≤16) && qm l)
theorem fK (l:List l8):qm l=true↔∀ i,i+1<l.length→ry (l[i+1]!).name (l[i]!).name=false:=by
 unfold qm;rw [jG];exact ⟨fun h i hi=>by simpa using h i lf,fun h i hi=>by simpa using h i lf⟩
theorem vG {l:List l8} {i:Nat} (hi:i+1<l.length) (h:ry (l[i+1]!).name (l[i]!).name=true):qm l=false:=by
 unfold qm;exact AH (i:=i) lf (by rw [h];rfl)
theorem iZ {l:List l8} (h:qm l=true):∀ {i j:Nat},i<j→j<l.length→xu (l[i]!).name (l[j]!).name:=by
 intro i j hij;obtain ⟨d,rfl⟩:∃ d,j=i+1+d:=⟨j - i - 1,lf⟩;clear hij
 induction d with
 | zero=>exact fun hj=>(eN _ _).1 ((fK l).1 h i hj)
 | succ d ih=>exact fun hj=>lI (ih lf) ((eN _ _).1 ((fK l).1 h (i+1+d) lf))
theorem aX (l:List l8) (t:ByteArray):m9 l t=true↔(∀ i,i<l.length→xf t l[i]! = true)∧l.length≤16∧qm l=true:=by
 unfold m9;rw [Bool.and_eq_true,Bool.and_eq_true,jG,decide_eq_true_iff]
theorem mQ {l:List l8} {f:l8→Bool} (hk:k<l.length) (h:∀ j,j<k→f l[j]! = false) (hx:f l[k]! = true):l.findIdx f=k:=by
 rw [List.findIdx_eq hk];refine ⟨by rw [← o6 hk];exact hx,fun j hj=>?_⟩;have:=h j hj;rw [o6 lf] at this;exact this
theorem pE {l:List l8} {f:l8→Bool} (h:∀ j,j<l.length→f l[j]! = false):l.findIdx f=l.length:=by
 rw [List.findIdx_eq_length];intro x hx;obtain ⟨j,hj,rfl⟩:=zf hx;rw [← o6 hj];exact h j hj
theorem iU (l:List l8) (f:l8→Bool):l.findIdx f≤l.length:=List.findIdx_le_length
theorem fL {l:List l8} {f:l8→Bool} (hj:j<l.findIdx f):f l[j]! = false:=by
 have hl:j<l.length:=zo hj (iU l f);rw [o6 hl];exact List.not_of_lt_findIdx hj
theorem iW {l:List l8} {f:l8→Bool} (h:l.findIdx f<l.length):f l[l.findIdx f]! = true:=by
 rw [o6 h];exact List.findIdx_getElem (w:=h)
def tu (l:List l8) (s:ByteArray):Int×Bool:=if l.findIdx (qo s)<l.length then ((l[l.findIdx (qo s)]!).p,true) else (0,false)
def qb (l:List l8) (s:ByteArray):List l8:=l.filter fun x=>!qo s x
theorem lQ (l:List l8) (s:ByteArray):(qb l s).length≤l.length:=List.length_filter_le _ _
theorem BN (l:List l8) (s:ByteArray) (k:Nat) (h:k<l.length) (h2:(l[k]!).name=s):qb (l.take (k+1)) s=qb (l.take k) s:=by
 unfold qb;rw [jJ l k h,zg,zp (by unfold qo;rw [decide_eq_true h2];decide)];simp
theorem BQ (l:List l8) (s:ByteArray) (k:Nat) (h:k<l.length) (h2:¬ (l[k]!).name=s):qb (l.take (k+1)) s=qb (l.take k) s++[l[k]!]:=by
 unfold qb;rw [jJ l k h,zg,List.filter_cons_of_pos (by unfold qo;rw [decide_eq_false h2];rfl)];rfl
def wl (l:List l8) (x:l8) (j:Nat):List l8:=l.take j++[x]++l.drop j
def pf (l:List l8) (x:l8):List l8:=wl l x (l.findIdx (se x.name))
def n8 (l:List l8) (x:l8) (j k:Nat):List l8:=if k≤j then l.take k else l.take j++[x]++(l.drop j).take (k - j)
theorem tE (l:List l8) (x:l8) (j k:Nat) (hk:k≤l.length):(n8 l x j k).length≤k+1:=by
 unfold n8;split
 ·simp;omega
 ·simp;omega
theorem nQ {l:List l8} {x:l8} (hk:k<l.length) (h:k<j):n8 l x j (k+1)=n8 l x j k++[l[k]!]:=by
 unfold n8;rw [if_pos lf,if_pos lf,jJ l k hk]
theorem tU {l:List l8} {x:l8} (hk:k<l.length):n8 l x k (k+1)=n8 l x k k++[x]++[l[k]!]:=by
 unfold n8;rw [if_neg lf,if_pos lf]
 congr 1
 rw [Nat.add_sub_cancel_left,List.drop_eq_getElem_cons hk,List.take_succ_cons,o6 hk];rfl
theorem lX {l:List l8} {x:l8} (hk:k<l.length) (h:j<k):n8 l x j (k+1)=n8 l x j k++[l[k]!]:=by
 unfold n8;rw [if_neg lf,if_neg lf,List.append_assoc (l.take j++[x])]
 congr 1
 have hd:k - j<(l.drop j).length:=by rw [yx];omega
 rw [show k+1 - j=(k - j)+1 by omega,zj hd,zh,o6 hk]
 congr 3
 omega
theorem sO {l:List l8} {x:l8} (h:j<l.length):n8 l x j l.length=wl l x j:=by
 unfold n8 wl;rw [if_neg lf,List.take_of_length_le (l:=l.drop j) (by rw [yx];omega)]
theorem pN {l:List l8} {x:l8}:n8 l x l.length l.length++[x]=wl l x l.length:=by
 unfold n8 wl;rw [if_pos (zq _)];simp
def qx (l:List l8) (x:l8):List l8×Int:=
 if ng x.name.data.toList=false then ([],7)
 else if l.findIdx (qo x.name)<l.length then (pf (qb l x.name) x,0)
 else if 16≤l.length then ([],9) else (pf l x,0)
def pm (l:List l8) (s:ByteArray):List l8×Int:=if l.findIdx (qo s)<l.length then (qb l s,0) else ([],8)
theorem sR {l:List l8} {s:ByteArray} (h:qm l=true) (hi:l.findIdx (qo s)<l.length):qb l s=l.take (l.findIdx (qo s))++l.drop (l.findIdx (qo s)+1):=by
 obtain ⟨i,he⟩:∃ i,l.findIdx (qo s)=i:=⟨_,rfl⟩;have h1:=iW hi;have h2:=fun j=>fL (l:=l) (f:=qo s) (j:=j);rw [he] at hi h1 h2 ⊢;have e:l=l.take i++l[i]! :: l.drop (i+1):=by rw [o6 hi];simp
 have ha:(l.take i).filter (fun x=>!qo s x)=l.take i:=zr.2 fun x hx=>by
  obtain ⟨j,hj,rfl⟩:=zf hx;rw [zs] at hj;have:=h2 j lf;rw [zt,← o6 lf,this];rfl
 have hb:(l.drop (i+1)).filter (fun x=>!qo s x)=l.drop (i+1):=zr.2 fun x hx=>by
  obtain ⟨j,hj,rfl⟩:=zf hx;rw [yx] at hj;rw [zh,← o6 lf];have:=iZ h (show i<i+1+j by omega) lf;unfold qo at h1 ⊢;have h1':=of_decide_eq_true h1;rw [h1'] at this;rw [decide_eq_false (fun g=>by rw [g] at this;exact zZ _ this)];rfl
 unfold qb
 conv=>lhs;rw [e]
 rw [zg,zp (by rw [h1];decide),ha,hb]
theorem uB {l:List l8} {x:l8} (h:qm l=true) (hi:l.findIdx (qo x.name)<l.length) :
 pf (qb l x.name) x=l.take (l.findIdx (qo x.name))++[x]++l.drop (l.findIdx (qo x.name)+1):=by
 rw [sR h hi];obtain ⟨i,he⟩:∃ i,l.findIdx (qo x.name)=i:=⟨_,rfl⟩;have h1:=iW hi;rw [he] at hi h1 ⊢;have h1':(l[i]!).name=x.name:=of_decide_eq_true h1;have hlt:(l.take i).length=i:=by rw [zs];omega
 have hj:(l.take i++l.drop (i+1)).findIdx (se x.name)=i:=by
  have ha:∀ j,j<i→se x.name (l.take i++l.drop (i+1))[j]! = false:=fun j hj=>by
   have ab:j<(l.take i++l.drop (i+1)).length:=by rw [zi,hlt];omega
   rw [o6 ab,List.getElem_append_left (by rw [hlt];exact hj),zt,← o6 lf];have:=iZ h hj hi;rw [h1'] at this;cases hc:se x.name l[j]!
   ·rfl
   ·exact absurd (lI this ((nA _ _).1 hc)) (zZ _)
  by_cases hn:i+1<l.length
  ·have aa:i<(l.take i++l.drop (i+1)).length:=by rw [zi,hlt,yx];omega
   refine mQ aa ha ?_;rw [o6 aa,List.getElem_append_right (by rw [hlt];omega),zh,← o6 (by rw [hlt];omega),nA];have:=iZ h (show i<i+1 by omega) hn;rw [h1'] at this;simpa [hlt] using this
  ·have e2:(l.take i++l.drop (i+1)).length=i:=by rw [zi,hlt,yx];omega
   have:=pE (l:=l.take i++l.drop (i+1)) (f:=se x.name) (fun j hj=>ha j (by rw [e2] at hj;exact hj));rw [this,e2]
 unfold pf wl;rw [hj]
 congr 1
 ·congr 1
  rw [List.take_append_of_le_length (by rw [hlt];exact zq _),List.take_take,Nat.min_self]
 ·conv=>lhs;rw [show i=(l.take i).length+0 by rw [hlt];rfl]
  rw [List.drop_append];simp [hlt]
def pd (l:List l8) (f:Int→Int):List l8:=l.map fun x=>⟨x.name,f x.p⟩
theorem rB (l:List l8) (f:Int→Int) (k:Nat) (h:k<l.length):pd (l.take (k+1)) f=pd (l.take k) f++[⟨(l[k]!).name,f (l[k]!).p⟩]:=by
 unfold pd;rw [jJ l k h,List.map_append];rfl
theorem bJ (l:List l8) (f:Int→Int):(pd l f).length=l.length:=by simp [pd]
theorem iE (l:List l8) (f:Int→Int) (i:Nat) (h:i<l.length):(pd l f)[i]! = ⟨(l[i]!).name,f (l[i]!).p⟩:=by
 rw [o6 (by rw [bJ];exact h),o6 h];simp [pd]
theorem FT (l:List l8) (f:Int→Int):qm (pd l f)=qm l:=by
 unfold qm;rw [bJ];unfold xx;rw [Bool.eq_iff_iff,zd,zd];constructor
 ·intro h i hi;have hi':=yz.1 hi;have:=h i hi;rw [iE l f i lf,iE l f (i+1) lf] at this;exact this
 ·intro h i hi;have hi':=yz.1 hi;rw [iE l f i lf,iE l f (i+1) lf];exact h i hi
structure qv where
 a:Option Addr
 l:List l8
 c:Nat
instance :Inhabited qv:=⟨⟨none,[],0⟩⟩
structure uv (w:World) (x:qv):Prop where
 row:o7 w (·<w) x.a x.l
 nil:x.a=none→x.c=0
theorem uv.len {x:qv} (h:uv w x) (hn:x.a=none):x.l=[]:=by
 cases hl:x.l with
 | nil=>rfl
 | cons y r =>
  obtain ⟨ad,e,-⟩:=h.row 0 (by rw [hl];simp);rw [hn] at e;cases e
theorem JU (ad:Addr) (k i:Nat) (h:0<i):(⟨(ad.add (k * 2)).block,(ad.add (k * 2)).off+i,none⟩:Addr)=ad.add (k * 2+i):=by
 unfold Addr.add;by_cases hk:k * 2=0
 ·rw [if_pos hk,if_neg lf,hk,Nat.zero_add]
 ·rw [if_neg hk,if_neg lf];show (⟨ad.block,ad.off+k * 2+i,none⟩:Addr)=⟨ad.block,ad.off+(k * 2+i),none⟩;rw [Nat.add_assoc]
theorem EB {B:Nat→Prop} {ad:Addr} {l:List l8} (h:o7 w B (some ad) l):∀ j u,(l8.flat l)[j]? = some u→w (ad.add j)=some u:=fun j u hj=>by
 have hlt:j<l.length * 2:=by
  rcases yy j (l.length * 2) with g|g
  ·exact g
  ·rw [List.getElem?_eq_none (by rw [l8.flat_len];exact g)] at hj;cases hj
 obtain ⟨ad',e,-,q0,q1⟩:=h (j / 2) lf;obtain rfl:ad=ad':=by injection e
 obtain ⟨g0,g1⟩:=l8.flat_get l (j / 2) lf;rcases (show j=j / 2 * 2∨j=j / 2 * 2+1 by omega) with g|g
 ·rw [g] at hj ⊢;rw [g0] at hj;rw [q0];exact hj
 ·rw [g] at hj ⊢;rw [g1] at hj;rw [← JU _ _ _ li,q1];exact hj
theorem FV (l:List l8):∀ u∈l8.flat l,u.oneCell'=true:=fun u hu=>by
 unfold l8.flat at hu;obtain ⟨x,-,hx⟩:=List.mem_flatMap.1 hu;exact aY _ _ u hx
structure KRow (w:World) (base:Nat) (x:qv):Prop where
 row:o7 w (fun b=>base≤b∧b<w) x.a x.l
 nil:x.a=none→x.c=0
 le:x.l.length≤x.c
 cap:x.c≤maxLen
theorem tY {base:Nat} {t:TypeId} {v:Value} {l:List l8} (h:w.ownsRow base t 2 v l.length (l8.flat l)):∃ a c,v=.slice a l.length c∧KRow w base ⟨a,l,c⟩:=by
 obtain ⟨a,c,e,hr⟩:=uW h;refine ⟨a,c,e,hr,?_,?_,?_⟩
 ·intro hn;have hn:a=none:=hn;rcases h.2 with ⟨rfl,h0⟩|⟨g,cap,cur,rfl,-⟩
  ·injection e with _ _ e3;exact e3.symm
  ·injection e with e1;rw [hn] at e1;cases e1
 ·show l.length≤c;rcases h.2 with ⟨rfl,h0⟩|⟨g,cap,cur,rfl,_,_,hnc,_⟩
  ·injection e with _ e2 e3;omega
  ·injection e with _ _ e3;omega
 ·show c≤maxLen;rcases h.2 with ⟨rfl,h0⟩|⟨g,cap,cur,rfl,_,_,hnc,hcm,_⟩
  ·injection e with _ e2 e3;unfold maxLen;omega
  ·injection e with _ _ e3;omega
theorem uv.later {W:World} {x:qv} (h:uv w x) (hb:Below w w W):uv W x:=⟨(h.row.below (fun _ h=>h) hb).more fun b hb2=>zo hb2 hb.size,h.nil⟩
theorem uv.empty (w:World):uv w ⟨.none,[],0⟩:=⟨fun k hk=>absurd hk lh,fun _=>rfl⟩
theorem QH {l:List l8} {s:ByteArray} (hk:k<l.length) (h:∀ j,j<k→qo s l[j]! = false) (he:(l[k]!).name=s):tu l s=((l[k]!).p,true):=by
 have e:=mQ hk h (by unfold qo;exact decide_eq_true he);unfold tu;rw [e,if_pos hk]
theorem RB {l:List l8} {s:ByteArray} (h:∀ j,j<l.length→qo s l[j]! = false):tu l s=(0,false):=by
 have e:=pE h;unfold tu;rw [e,if_neg (Nat.lt_irrefl _)]
theorem jO {l:List l8} {f:l8→Bool} (h:∀ j,j<k→f l[j]! = false) (h2:f l[k]! = false):∀ j,j<k+1→f l[j]! = false:=fun j hj=>by
 rcases yy j k with g|g
 ·exact h j g
 ·rw [show j=k by omega];exact h2
theorem tA {l:List l8} (h:∀ i,i+1<k+1→ry (l[i+1]!).name (l[i]!).name=false) (h2:ry (l[k+1]!).name (l[k]!).name=false):∀ i,i+1<k+2→ry (l[i+1]!).name (l[i]!).name=false:=fun i hi=>by
 rcases yy i k with g|g
 ·exact h i lf
 ·rw [show i=k by omega];exact h2
theorem IP {a b:List l8} (h:∀ j,j<k→a[j]! = b[j]!) (h2:a[k]! = b[k]!):∀ j,j<k+1→a[j]! = b[j]! :=fun j hj=>by
 rcases yy j k with g|g
 ·exact h j g
 ·rw [show j=k by omega];exact h2
theorem OI {a b:List l8} (hl:a.length=b.length) (h:∀ j,j<a.length→a[j]! = b[j]!):a=b:=
 List.ext_getElem hl fun j h1 h2=>by have:=h j h1;rwa [o6 h1,o6 h2] at this
instance :DecidableEq l8:=fun x y=>if h:x.name=y.name∧x.p=y.p then isTrue (by cases x;cases y;simp at h;simp [h]) else isFalse (fun e=>h (by rw [e];exact ⟨rfl,rfl⟩))
theorem RP {x y:l8} (h:¬ x=y):¬ x.name=y.name∨(x.name=y.name∧¬ x.p=y.p):=by
 by_cases h1:x.name=y.name
 ·right;refine ⟨h1,fun h2=>h ?_⟩;cases x;cases y;simp at h1 h2;simp [h1,h2]
 ·exact .inl h1
theorem zS {l:List l8} {t:ByteArray} (h:∀ j,j<k→xf t l[j]! = true) (h2:xf t l[k]! = true):∀ j,j<k+1→xf t l[j]! = true:=fun j hj=>by
 rcases yy j k with g|g
 ·exact h j g
 ·rw [show j=k by omega];exact h2
theorem pF {l:List l8} {t:ByteArray} (hk:k<l.length) (h:xf t l[k]! = false):m9 l t=false:=by
 unfold m9;rw [AH hk h];rfl
theorem BD {l:List l8} {t:ByteArray} (h:∀ j,j<l.length→xf t l[j]! = true):m9 l t=(decide (l.length≤16) && qm l):=by
 unfold m9;rw [jG.2 h];rfl
end Go.Proofs.YtbagenpobcgjnaaGreat
