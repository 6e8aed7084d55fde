/-
  Joined: UtfMath, Common, NumMath, Obj.
-/
import GoSem.Core.Utf8
import Derived.WalkKit
import Derived.WalkSpells
import Derived.WalkLawsBesides
import Derived.Lib.Hide
import Derived.OpenShut
import Derived.Test.YtbagenpobcgjnaaGreatSq3
open Go renaming World->yx,strOfNums->zf
open Go.ByteArray renaming toList_eq->zg
open Go.Ending renaming returned->yw
open List renaming drop_append_of_le_length->zj,eq_nil_of_length_eq_zero->zi,getD_eq_getElem?_getD->yv,getElem?_append->zh,getElem?_eq_getElem->yz,length_filter_le->zk
open Nat renaming add_zero->ze,le_refl->zd,lt_of_lt_of_le->zo
variable {S:List Nat} {a w:Go.World}
namespace Go.Proofs.YtbagenpobcgjnaaGreat
theorem cE {l:List UInt8} (h:l≠[]):0<l.length:=by cases l with|nil=>exact absurd rfl h|cons=>simp
def sz (c:Int):Nat:=
 if c<0∨1114111<c∨(55296≤c∧c≤57343) then 0 else if c<128 then 1 else if c<2048 then 2 else if c<65536 then 3 else 4
def tk (b0 b1 b2 b3:Nat):Nat×Nat:=
 if b0<128 then (b0,1)
 else if 194≤b0∧b0<224∧128≤b1∧b1≤191 then ((b0 - 192) * 64+(b1 - 128),2)
 else if 224≤b0∧b0<240∧128≤b1∧b1≤191∧128≤b2∧b2≤191∧(b0=224→160≤b1)∧(b0=237→b1<160) then ((b0 - 224) * 4096+(b1 - 128) * 64+(b2 - 128),3)
 else if 240≤b0∧b0<245∧128≤b1∧b1≤191∧128≤b2∧b2≤191∧128≤b3∧b3≤191∧(b0=240→144≤b1)∧(b0=244→b1<144) then ((b0 - 240) * 262144+(b1 - 128) * 4096+(b2 - 128) * 64+(b3 - 128),4)
 else (0,0)
def bt (l:List UInt8) (i:Nat):Nat:=(l.getD i 0).toNat
theorem mX (l:List UInt8) (i:Nat):bt l i<256:=(l.getD i 0).toNat_lt
theorem eP (l:List UInt8) (i:Nat) (h:l.length≤i):bt l i=0:=by
 unfold bt;rw [yv,List.getElem?_eq_none h];rfl
theorem mR (l:List UInt8) (k i:Nat):bt (l.drop k) i=bt l (k+i):=by
 unfold bt;simp [yv]
theorem OP (l:List UInt8) (k i:Nat) (h:i<k):bt (l.take k) i=bt l i:=by
 unfold bt;simp [yv,h]
theorem bC (a b:List UInt8) (i:Nat) (h:i<a.length):bt (a++b) i=bt a i:=by
 unfold bt;simp [yv,zh,h]
theorem dA (a b:List UInt8) (i:Nat) (h:a.length≤i):bt (a++b) i=bt b (i - a.length):=by
 unfold bt;simp [yv,zh,Nat.not_lt.2 h]
def pz (l:List UInt8):Nat×Nat:=if l=[] then (0,0) else tk (bt l 0) (bt l 1) (bt l 2) (bt l 3)
theorem eR (b0 b1 b2 b3:Nat) :
 (b0<128∧tk b0 b1 b2 b3=(b0,1)) ∨
 (194≤b0∧b0<224∧128≤b1∧b1≤191∧tk b0 b1 b2 b3=((b0 - 192) * 64+(b1 - 128),2)) ∨
 (224≤b0∧b0<240∧128≤b1∧b1≤191∧128≤b2∧b2≤191∧(b0=224→160≤b1)∧(b0=237→b1<160)∧tk b0 b1 b2 b3=((b0 - 224) * 4096+(b1 - 128) * 64+(b2 - 128),3)) ∨
 (240≤b0∧b0<245∧128≤b1∧b1≤191∧128≤b2∧b2≤191∧128≤b3∧b3≤191∧(b0=240→144≤b1)∧(b0=244→b1<144)∧tk b0 b1 b2 b3=((b0 - 240) * 262144+(b1 - 128) * 4096+(b2 - 128) * 64+(b3 - 128),4)) ∨
 (128≤b0∧¬ (194≤b0∧b0<224∧128≤b1∧b1≤191)∧¬ (224≤b0∧b0<240∧128≤b1∧b1≤191∧128≤b2∧b2≤191∧(b0=224→160≤b1)∧(b0=237→b1<160))∧¬ (240≤b0∧b0<245∧128≤b1∧b1≤191∧128≤b2∧b2≤191∧128≤b3∧b3≤191∧(b0=240→144≤b1)∧(b0=244→b1<144))∧tk b0 b1 b2 b3=(0,0)):=by
 unfold tk;by_cases h1:b0<128
 ·simp [h1]
 by_cases h2:194≤b0∧b0<224∧128≤b1∧b1≤191
 ·rw [if_neg h1,if_pos h2];exact .inr (.inl ⟨h2.1,h2.2.1,h2.2.2.1,h2.2.2.2,rfl⟩)
 by_cases h3:224≤b0∧b0<240∧128≤b1∧b1≤191∧128≤b2∧b2≤191∧(b0=224→160≤b1)∧(b0=237→b1<160)
 ·rw [if_neg h1,if_neg h2,if_pos h3];obtain ⟨a,b,c,d,e,f,g,i⟩:=h3;exact .inr (.inr (.inl ⟨a,b,c,d,e,f,g,i,rfl⟩))
 by_cases h4:240≤b0∧b0<245∧128≤b1∧b1≤191∧128≤b2∧b2≤191∧128≤b3∧b3≤191∧(b0=240→144≤b1)∧(b0=244→b1<144)
 ·rw [if_neg h1,if_neg h2,if_neg h3,if_pos h4];obtain ⟨a,b,c,d,e,f,g,i,j,k⟩:=h4;exact .inr (.inr (.inr (.inl ⟨a,b,c,d,e,f,g,i,j,k,rfl⟩)))
 ·rw [if_neg h1,if_neg h2,if_neg h3,if_neg h4];exact .inr (.inr (.inr (.inr ⟨lf,h2,h3,h4,rfl⟩)))
theorem pK (b0 b1 b2 b3:Nat):(tk b0 b1 b2 b3).2≤4:=by
 rcases eR b0 b1 b2 b3 with ⟨_,e⟩|⟨_,_,_,_,e⟩|⟨_,_,_,_,_,_,_,_,e⟩|⟨_,_,_,_,_,_,_,_,_,_,e⟩|⟨_,_,_,_,e⟩ <;> rw [e] <;> simp
theorem AB (b0 b1 b2 b3 c1 c2 c3:Nat) (h1:1<(tk b0 b1 b2 b3).2→c1=b1) (h2:2<(tk b0 b1 b2 b3).2→c2=b2) (h3:3<(tk b0 b1 b2 b3).2→c3=b3)
 (h:(tk b0 b1 b2 b3).2≠0):tk b0 c1 c2 c3=tk b0 b1 b2 b3:=by
 rcases eR b0 b1 b2 b3 with ⟨g1,e⟩|⟨g1,g2,g3,g4,e⟩|⟨g1,g2,g3,g4,g5,g6,g7,g8,e⟩|⟨g1,g2,g3,g4,g5,g6,g7,g8,g9,g10,e⟩|⟨_,_,_,_,e⟩
 all_goals rw [e] at h h1 h2 h3 ⊢;simp at h h1 h2 h3
 ·simp [tk,g1]
 ·subst h1;simp only [tk];rw [if_neg lf,if_pos ⟨g1,g2,g3,g4⟩]
 ·subst h1 h2;simp only [tk];rw [if_neg lf,if_neg lf,if_pos ⟨g1,g2,g3,g4,g5,g6,g7,g8⟩]
 ·subst h1 h2 h3;simp only [tk];rw [if_neg lf,if_neg lf,if_neg lf,if_pos ⟨g1,g2,g3,g4,g5,g6,g7,g8,g9,g10⟩]
theorem tS (b0 b1 b2 b3:Nat) (h:(tk b0 b1 b2 b3).2≠0) :
 ¬ (128≤b0∧b0≤191)∧(1<(tk b0 b1 b2 b3).2→128≤b1∧b1≤191)∧(2<(tk b0 b1 b2 b3).2→128≤b2∧b2≤191)∧(3<(tk b0 b1 b2 b3).2→128≤b3∧b3≤191):=by
 rcases eR b0 b1 b2 b3 with ⟨g1,e⟩|⟨g1,g2,g3,g4,e⟩|⟨g1,g2,g3,g4,g5,g6,g7,g8,e⟩|⟨g1,g2,g3,g4,g5,g6,g7,g8,g9,g10,e⟩|⟨_,_,_,_,e⟩
 all_goals rw [e] at h ⊢;simp at h ⊢ <;> omega
theorem dR (l:List UInt8):(pz l).2≤l.length:=by
 unfold pz;split
 ·simp
 ·rename_i hl
  have h0:0<l.length:=cE hl;by_cases hz:(tk (bt l 0) (bt l 1) (bt l 2) (bt l 3)).2=0
  ·omega
  obtain ⟨_,g1,g2,g3⟩:=tS _ _ _ _ hz;have h4:=pK (bt l 0) (bt l 1) (bt l 2) (bt l 3);have z1:=eP l 1;have z2:=eP l 2;have z3:=eP l 3;omega
def sh:Nat→List UInt8→Nat→Int
 | 0,_,_=>-1
 | f+1,l,p=>if l=[] then -1 else if (pz l).2=0 then p else sh f (l.drop (pz l).2) (p+(pz l).2)
def yp (l:List UInt8):Int:=sh (l.length+1) l 0
theorem sF (f:Nat):∀ (l:List UInt8) (p g:Nat),l.length<f→l.length<g→sh f l p=sh g l p:=by
 induction f with
 | zero=>intro l p g h;omega
 | succ f ih =>
  intro l p g hf hg;cases g with
  | zero=>omega
  | succ g =>
   simp only [sh];split
   ·rfl
   split
   ·rfl
   ·rename_i hl hz
    have:=cE hl;exact ih _ _ _ lq lq
theorem AQ (f:Nat):∀ (l:List UInt8) (p:Nat),sh f l p=-1∨(p≤sh f l p∧sh f l p<p+l.length):=by
 induction f with
 | zero=>intro l p;exact .inl rfl
 | succ f ih =>
  intro l p;simp only [sh];split
  ·exact .inl rfl
  rename_i hl
  have h0:=cE hl;split
  ·right;omega
  ·have h1:=dR l;rcases ih (l.drop (pz l).2) (p+(pz l).2) with h|h
   ·exact .inl h
   ·right;simp only [List.length_drop] at h;omega
theorem EQ (f:Nat):∀ (l:List UInt8) (p:Nat),(sh f l p=-1)↔(sh f l 0=-1):=by
 induction f with
 | zero=>intro l p;simp [sh]
 | succ f ih =>
  intro l p;simp only [sh];split
  ·simp
  split
  ·simp
  ·rw [ih _ (p+_),ih _ (0+_)]
def rp (l:List UInt8):Prop:=yp l=-1
theorem gJ:rp []:=rfl
theorem eO (l:List UInt8) (h:l≠[]):rp l↔((pz l).2≠0∧rp (l.drop (pz l).2)):=by
 unfold rp yp;have h0:=cE h
 conv=>lhs;rw [show sh (l.length+1) l 0=if l=[] then -1 else if (pz l).2=0 then 0 else sh l.length (l.drop (pz l).2) (0+(pz l).2) from rfl]
 rw [if_neg h];by_cases hz:(pz l).2=0
 ·simp [hz]
 ·rw [if_neg hz,EQ];have e:sh l.length (l.drop (pz l).2) 0=sh ((l.drop (pz l).2).length+1) (l.drop (pz l).2) 0:=sF _ _ _ _ lq lh;rw [e];simp [hz]
def tx (l:List UInt8):Prop:=l=[]∨¬ (128≤bt l 0∧bt l 0≤191)
theorem eF (l:List UInt8) (h:rp l):tx l:=by
 by_cases hl:l=[]
 ·exact .inl hl
 ·right;obtain ⟨h1,_⟩:=(eO l hl).1 h;simp only [pz,if_neg hl] at h1;exact (tS _ _ _ _ h1).1
theorem AJ (a b:List UInt8) (h:(pz a).2≠0):pz (a++b)=pz a:=by
 have hle:=dR a;by_cases ha:a=[]
 ·subst ha;simp [pz] at h
 have h0:=cE ha;simp only [pz,if_neg ha] at h hle ⊢;rw [if_neg (by simp [ha]),bC a b 0 h0];refine AB _ _ _ _ _ _ _ (fun k=>bC _ _ _ ?_) (fun k=>bC _ _ _ ?_) (fun k=>bC _ _ _ ?_) h <;> omega
theorem QM (a b:List UInt8) (ha:a≠[]) (hb:tx b) (h:(pz (a++b)).2≠0):pz a=pz (a++b):=by
 have h0:=cE ha;have hle:(pz (a++b)).2≤a.length:=by
  have hall:=dR (a++b);rcases hb with rfl|hb
  ·simpa using hall
  simp only [pz] at h ⊢;rw [if_neg (by simp [ha])] at h ⊢;obtain ⟨_,g1,g2,g3⟩:=tS _ _ _ _ h;have h4:=pK (bt (a++b) 0) (bt (a++b) 1) (bt (a++b) 2) (bt (a++b) 3);have e:=dA a b a.length (zd _);rw [Nat.sub_self] at e;rw [← e] at hb;by_cases k1:a.length=1
  ·rw [k1] at hb ⊢;omega
  by_cases k2:a.length=2
  ·rw [k2] at hb ⊢;omega
  by_cases k3:a.length=3
  ·rw [k3] at hb ⊢;omega
  omega
 simp only [pz] at h hle ⊢;rw [if_neg (by simp [ha])] at h hle;rw [if_neg ha,if_neg (by simp [ha]),← bC a b 0 h0];refine AB _ _ _ _ _ _ _ (fun k=>(bC _ _ _ ?_).symm) (fun k=>(bC _ _ _ ?_).symm) (fun k=>(bC _ _ _ ?_).symm) h <;> omega
theorem wO (n:Nat):∀ (a b:List UInt8),a.length≤n→rp a→rp b→rp (a++b):=by
 induction n with
 | zero =>
  intro a b hn _ hb;have h:a=[]:=zi lf;subst h;simpa using hb
 | succ n ih =>
  intro a b hn ha hb;by_cases h:a=[]
  ·subst h;simpa using hb
  obtain ⟨h1,h2⟩:=(eO a h).1 ha;have hle:=dR a;have h0:=cE h;rw [eO _ (by simp [h]),AJ a b h1];refine ⟨h1,?_⟩;rw [zj hle];exact ih _ _ lq h2 hb
theorem eV (a b:List UInt8) (ha:rp a) (hb:rp b):rp (a++b):=wO a.length a b (zd _) ha hb
theorem wL (n:Nat):∀ (a b:List UInt8),a.length≤n→tx b→rp (a++b)→rp a∧rp b:=by
 induction n with
 | zero =>
  intro a b hn _ h;have ha:a=[]:=zi lf;subst ha;exact ⟨gJ,by simpa using h⟩
 | succ n ih =>
  intro a b hn hb h;by_cases ha:a=[]
  ·subst ha;exact ⟨gJ,by simpa using h⟩
  obtain ⟨h1,h2⟩:=(eO (a++b) (by simp [ha])).1 h;have e:=QM a b ha hb h1;have hp:(pz a).2≠0:=by rw [e];exact h1
  rw [← e] at h1 h2;have hle:=dR a;have h0:=cE ha;rw [zj hle] at h2;have i:=ih _ _ lq hb h2;exact ⟨(eO a ha).2 ⟨h1,i.1⟩,i.2⟩
theorem PB (a b:List UInt8) (hb:tx b) (h:rp (a++b)):rp a∧rp b:=wL a.length a b (zd _) hb h
def op (l:List UInt8):Nat:=(l.filter fun c=>!(decide (128≤c.toNat) && decide (c.toNat≤191))).length
theorem sA (a b:List UInt8):op (a++b)=op a+op b:=by simp [op]
theorem wQ (l:List UInt8):op l≤l.length:=zk _ _
def oq (l:List UInt8):Nat:=(l.filter fun c=>decide (c.toNat=10)).length
theorem sC (a b:List UInt8):oq (a++b)=oq a+oq b:=by simp [oq]
theorem xC (l:List UInt8):oq l≤l.length:=zk _ _
theorem qZ (l:List UInt8) (k:Nat) (h:k<l.length):l.take (k+1)=l.take k++[l.getD k 0]:=by
 rw [List.take_succ_eq_append_getElem h,yv,yz h];rfl
theorem kU (l:List UInt8) (k:Nat) (h:k<l.length):op (l.take (k+1))=op (l.take k)+if 128≤bt l k∧bt l k≤191 then 0 else 1:=by
 rw [qZ l k h,sA];unfold bt;generalize l.getD k 0=c;by_cases g:128≤c.toNat∧c.toNat≤191
 ·rw [if_pos g];simp [op,g]
 ·rw [if_neg g];simp only [op,List.filter_cons,List.filter_nil];rw [if_pos lq];rfl
theorem jU (l:List UInt8) (k:Nat) (h:k<l.length):oq (l.take (k+1))=oq (l.take k)+if bt l k=10 then 1 else 0:=by
 rw [qZ l k h,sC];unfold bt;generalize l.getD k 0=c;by_cases g:c.toNat=10
 ·rw [if_pos g];simp [oq,g]
 ·rw [if_neg g];simp [oq,g]
def o9 (l:List UInt8) (k:Nat):Prop:=k=0∨k=l.length∨(k<l.length∧¬ (128≤bt l k∧bt l k≤191))
instance (l:List UInt8) (k:Nat):Decidable (o9 l k):=by unfold o9;exact inferInstance
def qt (l:List UInt8):Nat→Nat
 | 0=>0
 | k+1=>if o9 l (k+1) then k+1 else qt l k
theorem jE (l:List UInt8) (k:Nat):qt l k≤k:=by
 induction k with
 | zero=>simp [qt]
 | succ k ih=>simp only [qt];split <;> omega
theorem dE (l:List UInt8) (k:Nat) (h:o9 l k):qt l k=k:=by
 cases k with
 | zero=>rfl
 | succ k=>simp only [qt];rw [if_pos h]
theorem gY (l:List UInt8) (k:Nat) (h:¬ o9 l (k+1)):qt l (k+1)=qt l k:=by
 simp only [qt];rw [if_neg h]
def ld (b:Nat):Nat×Nat:=
 if b<128 then (b,1) else if b<192 then (0,0) else if b<224 then (b % 32,2) else if b<240 then (b % 16,3) else if b<248 then (b % 8,4) else (0,0)
theorem gV (b:Nat):(b<128∧ld b=(b,1))∨(192≤b∧b<224∧ld b=(b % 32,2))∨(224≤b∧b<240∧ld b=(b % 16,3))∨(240≤b∧b<248∧ld b=(b % 8,4))∨((128≤b∧b<192∨248≤b)∧ld b=(0,0)):=by
 unfold ld;by_cases h1:b<128
 ·simp [h1]
 by_cases h2:b<192
 ·simp [h1,h2];omega
 by_cases h3:b<224
 ·simp [h1,h2,h3];omega
 by_cases h4:b<240
 ·simp [h1,h2,h3,h4];omega
 by_cases h5:b<248
 ·simp [h1,h2,h3,h4,h5];omega
 ·simp [h1,h2,h3,h4,h5];omega
def s9 (l:List UInt8) (k v:Nat):Nat→Nat
 | 0=>v
 | j+1=>s9 l k v j * 64+bt l (k+1+j) % 64
theorem eQ (l:List UInt8) (k:Nat) (h:k<l.length):pz (l.drop k)=tk (bt l k) (bt l (k+1)) (bt l (k+1+1)) (bt l (k+1+2)):=by
 unfold pz;rw [if_neg lq];simp only [mR];rfl
theorem FG (l:List UInt8) (k j:Nat) (h:j+1<(ld (bt l k)).2):s9 l k (ld (bt l k)).1 j<32768:=by
 rcases gV (bt l k) with ⟨g,e⟩|⟨g,g',e⟩|⟨g,g',e⟩|⟨g,g',e⟩|⟨g,e⟩
 all_goals rw [e] at h ⊢;simp only at h
 ·omega
 ·obtain rfl:j=0:=lf;simp only [s9];omega
 ·obtain rfl|rfl:j=0∨j=1:=lf
  all_goals simp only [s9];omega
 ·obtain rfl|rfl|rfl:j=0∨j=1∨j=2:=lf
  all_goals simp only [s9];omega
 ·omega
theorem SM (b:Nat):(ld b).2≤4∧(ld b).1<128:=by
 rcases gV b with ⟨g,e⟩|⟨g,g',e⟩|⟨g,g',e⟩|⟨g,g',e⟩|⟨g,e⟩ <;> rw [e] <;> simp <;> omega
theorem JB (l:List UInt8) (k:Nat) (h:k<l.length) (e:(ld (bt l k)).2=0):pz (l.drop k)=(0,0):=by
 rw [eQ l k h];rcases gV (bt l k) with ⟨g,e'⟩|⟨g,g',e'⟩|⟨g,g',e'⟩|⟨g,g',e'⟩|⟨g,e'⟩
 all_goals rw [e'] at e;simp only at e
 all_goals first|omega|skip
 have:=mX l k;unfold tk;rw [if_neg lf,if_neg lf,if_neg lf,if_neg lf]
theorem tZ (l:List UInt8) (k j:Nat) (h:k<l.length) (hj:j+1<(ld (bt l k)).2) (hn:¬ (128≤bt l (k+1+j)∧bt l (k+1+j)≤191)):pz (l.drop k)=(0,0):=by
 rw [eQ l k h];rcases gV (bt l k) with ⟨g,e⟩|⟨g,g',e⟩|⟨g,g',e⟩|⟨g,g',e⟩|⟨g,e⟩
 all_goals rw [e] at hj;simp only at hj
 ·omega
 ·obtain rfl:j=0:=lf;rw [ze] at hn;unfold tk;rw [if_neg lf,if_neg lf,if_neg lf,if_neg lf]
 ·obtain rfl|rfl:j=0∨j=1:=lf
  ·replace hn:¬ (128≤bt l (k+1)∧bt l (k+1)≤191):=hn;unfold tk;rw [if_neg lf,if_neg lf,if_neg lf,if_neg lf]
  ·replace hn:¬ (128≤bt l (k+1+1)∧bt l (k+1+1)≤191):=hn;unfold tk;rw [if_neg lf,if_neg lf,if_neg lf,if_neg lf]
 ·obtain rfl|rfl|rfl:j=0∨j=1∨j=2:=lf
  ·replace hn:¬ (128≤bt l (k+1)∧bt l (k+1)≤191):=hn;unfold tk;rw [if_neg lf,if_neg lf,if_neg lf,if_neg lf]
  ·replace hn:¬ (128≤bt l (k+1+1)∧bt l (k+1+1)≤191):=hn;unfold tk;rw [if_neg lf,if_neg lf,if_neg lf,if_neg lf]
  ·replace hn:¬ (128≤bt l (k+1+2)∧bt l (k+1+2)≤191):=hn;unfold tk;rw [if_neg lf,if_neg lf,if_neg lf,if_neg lf]
 ·omega
theorem DG (l:List UInt8) (k:Nat) (h:k<l.length) (hs:l.length<k+(ld (bt l k)).2):pz (l.drop k)=(0,0):=by
 have h1:l.length - k - 1+1<(ld (bt l k)).2:=lf;have e:=eP l (k+1+(l.length - k - 1)) lf;exact tZ l k (l.length - k - 1) h h1 (by rw [e];omega)
theorem NG (l:List UInt8) (k:Nat) (h:k<l.length) (hz:(ld (bt l k)).2≠0) (hon:∀ j,j+1<(ld (bt l k)).2→128≤bt l (k+1+j)∧bt l (k+1+j)≤191) :
 pz (l.drop k)=if sz (s9 l k (ld (bt l k)).1 ((ld (bt l k)).2 - 1):Nat)=(ld (bt l k)).2 then (s9 l k (ld (bt l k)).1 ((ld (bt l k)).2 - 1),(ld (bt l k)).2) else (0,0):=by
 rw [eQ l k h];rcases gV (bt l k) with ⟨g,e⟩|⟨g,g',e⟩|⟨g,g',e⟩|⟨g,g',e⟩|⟨g,e⟩
 all_goals rw [e] at hon hz ⊢;simp only at hon hz ⊢
 ·have s:sz ((bt l k:Nat):Int)=1:=by unfold sz;rw [if_neg lf,if_pos lf]
  show _=if sz ((bt l k:Nat):Int)=1 then (bt l k,1) else (0,0);rw [if_pos s];unfold tk;rw [if_pos g]
 ·have a0:=hon 0 lf;rw [ze] at a0;show _=if sz ((bt l k % 32 * 64+bt l (k+1) % 64:Nat):Int)=2 then (bt l k % 32 * 64+bt l (k+1) % 64,2) else (0,0);generalize bt l k=b0 at *;generalize bt l (k+1)=b1 at *;have E:(b0 % 32 * 64+b1 % 64:Nat)=(b0 - 192) * 64+(b1 - 128):=lf;rw [E];unfold tk;rw [if_neg lf];by_cases c1:194≤b0
  ·have s:sz ((b0 - 192) * 64+(b1 - 128):Nat)=2:=by unfold sz;rw [if_neg lf,if_neg lf,if_pos lf]
   rw [if_pos lf,if_pos s]
  ·have s:sz ((b0 - 192) * 64+(b1 - 128):Nat)≠2:=by unfold sz;rw [if_neg lf,if_pos lf];omega
   rw [if_neg lf,if_neg lf,if_neg lf,if_neg s]
 ·have a0:=hon 0 lf;have a1:=hon 1 lf;rw [ze] at a0;show _=if sz (((bt l k % 16 * 64+bt l (k+1) % 64) * 64+bt l (k+1+1) % 64:Nat):Int)=3 then ((bt l k % 16 * 64+bt l (k+1) % 64) * 64+bt l (k+1+1) % 64,3) else (0,0);generalize bt l k=b0 at *;generalize bt l (k+1)=b1 at *;generalize bt l (k+1+1)=b2 at *;have E:((b0 % 16 * 64+b1 % 64) * 64+b2 % 64:Nat)=(b0 - 224) * 4096+(b1 - 128) * 64+(b2 - 128):=lf;rw [E];unfold tk;rw [if_neg lf,if_neg lf];by_cases c1:(b0=224→160≤b1)∧(b0=237→b1<160)
  ·rw [if_pos lf];have s:sz ((b0 - 224) * 4096+(b1 - 128) * 64+(b2 - 128):Nat)=3:=by
    unfold sz;rw [if_neg lf,if_neg lf,if_neg lf,if_pos lf]
   rw [s,if_pos rfl]
  ·rw [if_neg lf,if_neg lf];have s:sz ((b0 - 224) * 4096+(b1 - 128) * 64+(b2 - 128):Nat)≠3:=by
    unfold sz;repeat' split
    all_goals omega
   rw [if_neg s]
 ·have a0:=hon 0 lf;have a1:=hon 1 lf;have a2:=hon 2 lf;rw [ze] at a0;show _=if sz ((((bt l k % 8 * 64+bt l (k+1) % 64) * 64+bt l (k+1+1) % 64) * 64+bt l (k+1+2) % 64:Nat):Int)=4 then (((bt l k % 8 * 64+bt l (k+1) % 64) * 64+bt l (k+1+1) % 64) * 64+bt l (k+1+2) % 64,4) else (0,0);generalize bt l k=b0 at *;generalize bt l (k+1)=b1 at *;generalize bt l (k+1+1)=b2 at *;generalize bt l (k+1+2)=b3 at *;have E:(((b0 % 8 * 64+b1 % 64) * 64+b2 % 64) * 64+b3 % 64:Nat)=(b0 - 240) * 262144+(b1 - 128) * 4096+(b2 - 128) * 64+(b3 - 128):=lf;rw [E];unfold tk;rw [if_neg lf,if_neg lf,if_neg lf];by_cases c1:(b0<245∧(b0=240→144≤b1)∧(b0=244→b1<144))
  ·rw [if_pos lf];have s:sz ((b0 - 240) * 262144+(b1 - 128) * 4096+(b2 - 128) * 64+(b3 - 128):Nat)=4:=by
    unfold sz;rw [if_neg lf,if_neg lf,if_neg lf,if_neg lf]
   rw [s,if_pos rfl]
  ·rw [if_neg lf];have s:sz ((b0 - 240) * 262144+(b1 - 128) * 4096+(b2 - 128) * 64+(b3 - 128):Nat)≠4:=by
    unfold sz;repeat' split
    all_goals omega
   rw [if_neg s]
 ·simp at hz
theorem gX (l:List UInt8) (k:Nat) (h:rp l) (e:o9 l k):rp (l.take k)∧rp (l.drop k):=by
 rcases e with rfl|rfl|⟨hk,he⟩
 ·simpa using ⟨gJ,h⟩
 ·simpa using ⟨h,gJ⟩
 ·refine PB _ _ (.inr ?_) (by rw [List.take_append_drop];exact h);rw [mR];simpa using he
end Go.Proofs.YtbagenpobcgjnaaGreat
namespace Go.Proofs.YtbagenpobcgjnaaGreat
open Go.RowKit
theorem aK {k:IntKind} {a b:Int} (h:a=b):yw (.int k a)=yw (.int k b):=by rw [h]
theorem aN {a b:Bool} (h:a=b):yw (.bool a)=yw (.bool b):=by rw [h]
theorem PR {a b:ByteArray} (h:a=b):yw (.string a)=yw (.string b):=by rw [h]
theorem gG {a b c d:Int} (h1:a=c) (h2:b=d):yw (.tuple #[.int .i32 a,.int .i64 b])=yw (.tuple #[.int .i32 c,.int .i64 d]):=by rw [h1,h2]
theorem cF (s:ByteArray) (k:Nat) (h:k<s.size):bt s.data.toList k=(s[k]'h).toNat:=by
 unfold bt;have h':k<s.data.toList.length:=by simpa using h
 rw [yv,yz h'];rfl
theorem pY (a b:List UInt8) (h:a.length=b.length) (e:∀ i,i<a.length→bt a i=bt b i):a=b:=by
 refine List.ext_getElem h fun i h1 h2=>?_;have:=e i h1;unfold bt at this;rw [yv,yv,yz h1,yz h2] at this;exact UInt8.toNat_inj.1 this
theorem bD (xs:List Int) (i:Nat) (h:i<xs.length):bt (zf xs).data.toList i=(xs.getD i 0).toNat % 256:=by
 unfold bt zf;simp [yv,yz h]
theorem iI (xs:List Int):(zf xs).size=xs.length:=by simp [zf,ByteArray.size]
theorem aF (a b:ByteArray):(a++b).data.toList=a.data.toList++b.data.toList:=lh
theorem aE (s:ByteArray) (a b:Nat):(s.extract a b).data.toList=(s.data.toList.drop a).take (b - a):=by
 rw [ByteArray.data_extract,Array.toList_extract]
theorem dG {a b:ByteArray} (h:¬ a=b):(a.toList == b.toList)=false:=by
 rw [beq_eq_false_iff_ne,zg,zg];exact fun e=>h (ByteArray.ext (Array.toList_inj.1 e))
theorem mB (s:ByteArray):s.toList.isEmpty=decide (s.size=0):=by
 have h:s.toList.length=s.size:=by rw [zg];simp
 rw [← h];cases s.toList <;> simp
theorem aU {a b:ByteArray} (h:a.data.toList=b.data.toList):a=b:=ByteArray.ext (Array.toList_inj.1 h)
theorem aB {B:Nat} (h:Below B a w) (n:Nat):Below B a (w.drewN n):=⟨h.os,h.tape,h.output,h.size,h.block⟩
theorem my {P:Program} {f:FuncId} {args:Array Value} {v:Value} {w0:yx} (h:Below w0 w0 w)
 (c:Calls P f args w fun e w'=>e=yw v∧Below w w w'):Calls P f args w fun e w'=>e=yw v∧Below w0 w0 w':=
 c.mono fun _ _ ⟨he,hb⟩=>⟨he,h.trans (hb.mono h.size)⟩
structure lu (S:List Nat) (w w':yx):Prop where
 os:w'.os=w.os
 tape:w'.tape=w.tape
 output:w'.output=w.output
 size:w.heap.size≤w'
 block:∀ k,k<w.heap.size→k ∉ S→w'.heap[k]? = w.heap[k]?
theorem lu.refl (S:List Nat) (w:yx):lu S w w:=⟨rfl,rfl,rfl,zd _,fun _ _ _=>rfl⟩
theorem lu.trans {S':List Nat} {b c:yx} (h:lu S a b) (k:lu S' b c) (hs:∀ x∈S',x∈S∨a.heap.size≤x):lu S a c:=
 ⟨k.os.trans h.os,k.tape.trans h.tape,k.output.trans h.output,Nat.le_trans h.size k.size,fun i hi hn=>(k.block i (zo hi h.size) (fun g=>by
  rcases hs i g with g|g
  ·exact hn g
  ·omega)).trans (h.block i hi hn)⟩
theorem lu.more {S S':List Nat} {w w':yx} (h:lu S w w') (hs:∀ x∈S,x∈S'):lu S' w w':=⟨h.os,h.tape,h.output,h.size,fun i hi hn=>h.block i hi (fun g=>hn (hs i g))⟩
theorem lu.of_below {w':yx} (h:Below w w w'):lu S w w':=⟨h.os,h.tape,h.output,h.size,fun i hi _=>h.block i hi⟩
theorem lu.to_below {B:Nat} {w':yx} (h:lu S w w') (hs:∀ x∈S,B≤x) (hB:B≤w):Below B w w':=
 ⟨h.os,h.tape,h.output,h.size,fun i hi=>h.block i (zo hi hB) (fun g=>by have:=hs i g;omega)⟩
theorem lu.cell {w':yx} (h:lu S w w') {p:Addr} (hp:p.block<w) (hn:p.block ∉ S):w' p=w p:=World.cell?_of_block (w:=w) (h.block p.block hp hn)
theorem lu.drewN (h:lu S a w) (n:Nat):lu S a (w.drewN n):=⟨h.os,h.tape,h.output,h.size,h.block⟩
theorem lu.setCell (h:lu S a w) {p:Addr} (hp:p.block∈S∨a≤p.block) (u:Value):lu S a (w.setCell p u):=
 ⟨h.os,h.tape,h.output,by simpa [World.setCell] using h.size,fun i hi hn=>(Below.heap_setCell w p u i (fun e=>by
  rcases hp with g|g
  ·exact hn (e ▸ g)
  ·omega)).trans (h.block i hi hn)⟩
end Go.Proofs.YtbagenpobcgjnaaGreat
