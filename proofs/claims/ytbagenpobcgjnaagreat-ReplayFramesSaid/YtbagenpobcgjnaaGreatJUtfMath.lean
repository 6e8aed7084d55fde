/-
  Joined: UtfMath, Common, NumMath, Obj.
-/
import GoSem.Core.Utf8
import Derived.WalkKit
import Derived.WalkSpells
import Derived.WalkLawsBesides
import Derived.Lib.Hide
import Derived.OpenShut
import Derived.Test.YtbagenpobcgjnaaGreatSq3
open Go renaming World->zn,strOfNums->zt
open Go.ByteArray renaming toList_eq->zu
open Go.Ending renaming returned->zm
open List renaming drop_append_of_le_length->zx,eq_nil_of_length_eq_zero->zw,getD_eq_getElem?_getD->zk,getElem?_append->zv,getElem?_eq_getElem->zp,length_filter_le->zy
open Nat renaming add_zero->zr,le_refl->zq,lt_of_lt_of_le->Ab
variable {S:List Nat} {a w:Go.World}
namespace Go.Proofs.YtbagenpobcgjnaaGreat
theorem cK {l:List UInt8} (h:l≠[]):0<l.length:=by cases l with|nil=>exact absurd rfl h|cons=>simp
def sz (c:Int):Nat:=
 if c<0∨1114111<c∨(55296≤c∧c≤57343) then 0 else if c<128 then 1 else if c<2048 then 2 else if c<65536 then 3 else 4
def tk (b0 b1 b2 b3:Nat):Nat×Nat:=
 if b0<128 then (b0,1)
 else if 194≤b0∧b0<224∧128≤b1∧b1≤191 then ((b0 - 192) * 64+(b1 - 128),2)
 else if 224≤b0∧b0<240∧128≤b1∧b1≤191∧128≤b2∧b2≤191∧(b0=224→160≤b1)∧(b0=237→b1<160) then ((b0 - 224) * 4096+(b1 - 128) * 64+(b2 - 128),3)
 else if 240≤b0∧b0<245∧128≤b1∧b1≤191∧128≤b2∧b2≤191∧128≤b3∧b3≤191∧(b0=240→144≤b1)∧(b0=244→b1<144) then ((b0 - 240) * 262144+(b1 - 128) * 4096+(b2 - 128) * 64+(b3 - 128),4)
 else (0,0)
def bt (l:List UInt8) (i:Nat):Nat:=(l.getD i 0).toNat
theorem jV (l:List UInt8) (i:Nat):bt l i<256:=(l.getD i 0).toNat_lt
theorem fB (l:List UInt8) (i:Nat) (h:l.length≤i):bt l i=0:=by
 unfold bt;rw [zk,List.getElem?_eq_none h];rfl
theorem nE (l:List UInt8) (k i:Nat):bt (l.drop k) i=bt l (k+i):=by
 unfold bt;simp [zk]
theorem RO (l:List UInt8) (k i:Nat) (h:i<k):bt (l.take k) i=bt l i:=by
 unfold bt;simp [zk,h]
theorem bF (a b:List UInt8) (i:Nat) (h:i<a.length):bt (a++b) i=bt a i:=by
 unfold bt;simp [zk,zv,h]
theorem dJ (a b:List UInt8) (i:Nat) (h:a.length≤i):bt (a++b) i=bt b (i - a.length):=by
 unfold bt;simp [zk,zv,Nat.not_lt.2 h]
def px (l:List UInt8):Nat×Nat:=if l=[] then (0,0) else tk (bt l 0) (bt l 1) (bt l 2) (bt l 3)
theorem fL (b0 b1 b2 b3:Nat) :
 (b0<128∧tk b0 b1 b2 b3=(b0,1)) ∨
 (194≤b0∧b0<224∧128≤b1∧b1≤191∧tk b0 b1 b2 b3=((b0 - 192) * 64+(b1 - 128),2)) ∨
 (224≤b0∧b0<240∧128≤b1∧b1≤191∧128≤b2∧b2≤191∧(b0=224→160≤b1)∧(b0=237→b1<160)∧tk b0 b1 b2 b3=((b0 - 224) * 4096+(b1 - 128) * 64+(b2 - 128),3)) ∨
 (240≤b0∧b0<245∧128≤b1∧b1≤191∧128≤b2∧b2≤191∧128≤b3∧b3≤191∧(b0=240→144≤b1)∧(b0=244→b1<144)∧tk b0 b1 b2 b3=((b0 - 240) * 262144+(b1 - 128) * 4096+(b2 - 128) * 64+(b3 - 128),4)) ∨
 (128≤b0∧¬ (194≤b0∧b0<224∧128≤b1∧b1≤191)∧¬ (224≤b0∧b0<240∧128≤b1∧b1≤191∧128≤b2∧b2≤191∧(b0=224→160≤b1)∧(b0=237→b1<160))∧¬ (240≤b0∧b0<245∧128≤b1∧b1≤191∧128≤b2∧b2≤191∧128≤b3∧b3≤191∧(b0=240→144≤b1)∧(b0=244→b1<144))∧tk b0 b1 b2 b3=(0,0)):=by
 unfold tk;by_cases h1:b0<128
 ·simp [h1]
 by_cases h2:194≤b0∧b0<224∧128≤b1∧b1≤191
 ·rw [if_neg h1,if_pos h2];exact .inr (.inl ⟨h2.1,h2.2.1,h2.2.2.1,h2.2.2.2,rfl⟩)
 by_cases h3:224≤b0∧b0<240∧128≤b1∧b1≤191∧128≤b2∧b2≤191∧(b0=224→160≤b1)∧(b0=237→b1<160)
 ·rw [if_neg h1,if_neg h2,if_pos h3];obtain ⟨a,b,c,d,e,f,g,i⟩:=h3;exact .inr (.inr (.inl ⟨a,b,c,d,e,f,g,i,rfl⟩))
 by_cases h4:240≤b0∧b0<245∧128≤b1∧b1≤191∧128≤b2∧b2≤191∧128≤b3∧b3≤191∧(b0=240→144≤b1)∧(b0=244→b1<144)
 ·rw [if_neg h1,if_neg h2,if_neg h3,if_pos h4];obtain ⟨a,b,c,d,e,f,g,i,j,k⟩:=h4;exact .inr (.inr (.inr (.inl ⟨a,b,c,d,e,f,g,i,j,k,rfl⟩)))
 ·rw [if_neg h1,if_neg h2,if_neg h3,if_neg h4];exact .inr (.inr (.inr (.inr ⟨lg,h2,h3,h4,rfl⟩)))
theorem qU (b0 b1 b2 b3:Nat):(tk b0 b1 b2 b3).2≤4:=by
 rcases fL b0 b1 b2 b3 with ⟨_,e⟩|⟨_,_,_,_,e⟩|⟨_,_,_,_,_,_,_,_,e⟩|⟨_,_,_,_,_,_,_,_,_,_,e⟩|⟨_,_,_,_,e⟩ <;> rw [e] <;> simp
theorem BL (b0 b1 b2 b3 c1 c2 c3:Nat) (h1:1<(tk b0 b1 b2 b3).2→c1=b1) (h2:2<(tk b0 b1 b2 b3).2→c2=b2) (h3:3<(tk b0 b1 b2 b3).2→c3=b3)
 (h:(tk b0 b1 b2 b3).2≠0):tk b0 c1 c2 c3=tk b0 b1 b2 b3:=by
 rcases fL b0 b1 b2 b3 with ⟨g1,e⟩|⟨g1,g2,g3,g4,e⟩|⟨g1,g2,g3,g4,g5,g6,g7,g8,e⟩|⟨g1,g2,g3,g4,g5,g6,g7,g8,g9,g10,e⟩|⟨_,_,_,_,e⟩
 all_goals rw [e] at h h1 h2 h3 ⊢;simp at h h1 h2 h3
 ·simp [tk,g1]
 ·subst h1;simp only [tk];rw [if_neg lg,if_pos ⟨g1,g2,g3,g4⟩]
 ·subst h1 h2;simp only [tk];rw [if_neg lg,if_neg lg,if_pos ⟨g1,g2,g3,g4,g5,g6,g7,g8⟩]
 ·subst h1 h2 h3;simp only [tk];rw [if_neg lg,if_neg lg,if_neg lg,if_pos ⟨g1,g2,g3,g4,g5,g6,g7,g8,g9,g10⟩]
theorem uU (b0 b1 b2 b3:Nat) (h:(tk b0 b1 b2 b3).2≠0) :
 ¬ (128≤b0∧b0≤191)∧(1<(tk b0 b1 b2 b3).2→128≤b1∧b1≤191)∧(2<(tk b0 b1 b2 b3).2→128≤b2∧b2≤191)∧(3<(tk b0 b1 b2 b3).2→128≤b3∧b3≤191):=by
 rcases fL b0 b1 b2 b3 with ⟨g1,e⟩|⟨g1,g2,g3,g4,e⟩|⟨g1,g2,g3,g4,g5,g6,g7,g8,e⟩|⟨g1,g2,g3,g4,g5,g6,g7,g8,g9,g10,e⟩|⟨_,_,_,_,e⟩
 all_goals rw [e] at h ⊢;simp at h ⊢ <;> omega
theorem eD (l:List UInt8):(px l).2≤l.length:=by
 unfold px;split
 ·simp
 ·rename_i hl
  have h0:0<l.length:=cK hl;by_cases hz:(tk (bt l 0) (bt l 1) (bt l 2) (bt l 3)).2=0
  ·omega
  obtain ⟨_,g1,g2,g3⟩:=uU _ _ _ _ hz;have h4:=qU (bt l 0) (bt l 1) (bt l 2) (bt l 3);have z1:=fB l 1;have z2:=fB l 2;have z3:=fB l 3;omega
def sj:Nat→List UInt8→Nat→Int
 | 0,_,_=>-1
 | f+1,l,p=>if l=[] then -1 else if (px l).2=0 then p else sj f (l.drop (px l).2) (p+(px l).2)
def zg (l:List UInt8):Int:=sj (l.length+1) l 0
theorem sN (f:Nat):∀ (l:List UInt8) (p g:Nat),l.length<f→l.length<g→sj f l p=sj g l p:=by
 induction f with
 | zero=>intro l p g h;omega
 | succ f ih =>
  intro l p g hf hg;cases g with
  | zero=>omega
  | succ g =>
   simp only [sj];split
   ·rfl
   split
   ·rfl
   ·rename_i hl hz
    have:=cK hl;exact ih _ _ _ lr lr
theorem FJ (f:Nat):∀ (l:List UInt8) (p:Nat),sj f l p=-1∨(p≤sj f l p∧sj f l p<p+l.length):=by
 induction f with
 | zero=>intro l p;exact .inl rfl
 | succ f ih =>
  intro l p;simp only [sj];split
  ·exact .inl rfl
  rename_i hl
  have h0:=cK hl;split
  ·right;omega
  ·have h1:=eD l;rcases ih (l.drop (px l).2) (p+(px l).2) with h|h
   ·exact .inl h
   ·right;simp only [List.length_drop] at h;omega
theorem DG (f:Nat):∀ (l:List UInt8) (p:Nat),(sj f l p=-1)↔(sj f l 0=-1):=by
 induction f with
 | zero=>intro l p;simp [sj]
 | succ f ih =>
  intro l p;simp only [sj];split
  ·simp
  split
  ·simp
  ·rw [ih _ (p+_),ih _ (0+_)]
def rm (l:List UInt8):Prop:=zg l=-1
theorem hG:rm []:=rfl
theorem eZ (l:List UInt8) (h:l≠[]):rm l↔((px l).2≠0∧rm (l.drop (px l).2)):=by
 unfold rm zg;have h0:=cK h
 conv=>lhs;rw [show sj (l.length+1) l 0=if l=[] then -1 else if (px l).2=0 then 0 else sj l.length (l.drop (px l).2) (0+(px l).2) from rfl]
 rw [if_neg h];by_cases hz:(px l).2=0
 ·simp [hz]
 ·rw [if_neg hz,DG];have e:sj l.length (l.drop (px l).2) 0=sj ((l.drop (px l).2).length+1) (l.drop (px l).2) 0:=sN _ _ _ _ lr li;rw [e];simp [hz]
def uu (l:List UInt8):Prop:=l=[]∨¬ (128≤bt l 0∧bt l 0≤191)
theorem eM (l:List UInt8) (h:rm l):uu l:=by
 by_cases hl:l=[]
 ·exact .inl hl
 ·right;obtain ⟨h1,_⟩:=(eZ l hl).1 h;simp only [px,if_neg hl] at h1;exact (uU _ _ _ _ h1).1
theorem BQ (a b:List UInt8) (h:(px a).2≠0):px (a++b)=px a:=by
 have hle:=eD a;by_cases ha:a=[]
 ·subst ha;simp [px] at h
 have h0:=cK ha;simp only [px,if_neg ha] at h hle ⊢;rw [if_neg (by simp [ha]),bF a b 0 h0];refine BL _ _ _ _ _ _ _ (fun k=>bF _ _ _ ?_) (fun k=>bF _ _ _ ?_) (fun k=>bF _ _ _ ?_) h <;> omega
theorem SM (a b:List UInt8) (ha:a≠[]) (hb:uu b) (h:(px (a++b)).2≠0):px a=px (a++b):=by
 have h0:=cK ha;have hle:(px (a++b)).2≤a.length:=by
  have hall:=eD (a++b);rcases hb with rfl|hb
  ·simpa using hall
  simp only [px] at h ⊢;rw [if_neg (by simp [ha])] at h ⊢;obtain ⟨_,g1,g2,g3⟩:=uU _ _ _ _ h;have h4:=qU (bt (a++b) 0) (bt (a++b) 1) (bt (a++b) 2) (bt (a++b) 3);have e:=dJ a b a.length (zq _);rw [Nat.sub_self] at e;rw [← e] at hb;by_cases k1:a.length=1
  ·rw [k1] at hb ⊢;omega
  by_cases k2:a.length=2
  ·rw [k2] at hb ⊢;omega
  by_cases k3:a.length=3
  ·rw [k3] at hb ⊢;omega
  omega
 simp only [px] at h hle ⊢;rw [if_neg (by simp [ha])] at h hle;rw [if_neg ha,if_neg (by simp [ha]),← bF a b 0 h0];refine BL _ _ _ _ _ _ _ (fun k=>(bF _ _ _ ?_).symm) (fun k=>(bF _ _ _ ?_).symm) (fun k=>(bF _ _ _ ?_).symm) h <;> omega
theorem yB (n:Nat):∀ (a b:List UInt8),a.length≤n→rm a→rm b→rm (a++b):=by
 induction n with
 | zero =>
  intro a b hn _ hb;have h:a=[]:=zw lg;subst h;simpa using hb
 | succ n ih =>
  intro a b hn ha hb;by_cases h:a=[]
  ·subst h;simpa using hb
  obtain ⟨h1,h2⟩:=(eZ a h).1 ha;have hle:=eD a;have h0:=cK h;rw [eZ _ (by simp [h]),BQ a b h1];refine ⟨h1,?_⟩;rw [zx hle];exact ih _ _ lr h2 hb
theorem fD (a b:List UInt8) (ha:rm a) (hb:rm b):rm (a++b):=yB a.length a b (zq _) ha hb
theorem yM (n:Nat):∀ (a b:List UInt8),a.length≤n→uu b→rm (a++b)→rm a∧rm b:=by
 induction n with
 | zero =>
  intro a b hn _ h;have ha:a=[]:=zw lg;subst ha;exact ⟨hG,by simpa using h⟩
 | succ n ih =>
  intro a b hn hb h;by_cases ha:a=[]
  ·subst ha;exact ⟨hG,by simpa using h⟩
  obtain ⟨h1,h2⟩:=(eZ (a++b) (by simp [ha])).1 h;have e:=SM a b ha hb h1;have hp:(px a).2≠0:=by rw [e];exact h1
  rw [← e] at h1 h2;have hle:=eD a;have h0:=cK ha;rw [zx hle] at h2;have i:=ih _ _ lr hb h2;exact ⟨(eZ a ha).2 ⟨h1,i.1⟩,i.2⟩
theorem RN (a b:List UInt8) (hb:uu b) (h:rm (a++b)):rm a∧rm b:=yM a.length a b (zq _) hb h
def oo (l:List UInt8):Nat:=(l.filter fun c=>!(decide (128≤c.toNat) && decide (c.toNat≤191))).length
theorem tY (a b:List UInt8):oo (a++b)=oo a+oo b:=by simp [oo]
theorem uX (l:List UInt8):oo l≤l.length:=zy _ _
def op (l:List UInt8):Nat:=(l.filter fun c=>decide (c.toNat=10)).length
theorem uE (a b:List UInt8):op (a++b)=op a+op b:=by simp [op]
theorem xF (l:List UInt8):op l≤l.length:=zy _ _
theorem sK (l:List UInt8) (k:Nat) (h:k<l.length):l.take (k+1)=l.take k++[l.getD k 0]:=by
 rw [List.take_succ_eq_append_getElem h,zk,zp h];rfl
theorem kW (l:List UInt8) (k:Nat) (h:k<l.length):oo (l.take (k+1))=oo (l.take k)+if 128≤bt l k∧bt l k≤191 then 0 else 1:=by
 rw [sK l k h,tY];unfold bt;generalize l.getD k 0=c;by_cases g:128≤c.toNat∧c.toNat≤191
 ·rw [if_pos g];simp [oo,g]
 ·rw [if_neg g];simp only [oo,List.filter_cons,List.filter_nil];rw [if_pos lr];rfl
theorem lN (l:List UInt8) (k:Nat) (h:k<l.length):op (l.take (k+1))=op (l.take k)+if bt l k=10 then 1 else 0:=by
 rw [sK l k h,uE];unfold bt;generalize l.getD k 0=c;by_cases g:c.toNat=10
 ·rw [if_pos g];simp [op,g]
 ·rw [if_neg g];simp [op,g]
def o6 (l:List UInt8) (k:Nat):Prop:=k=0∨k=l.length∨(k<l.length∧¬ (128≤bt l k∧bt l k≤191))
instance (l:List UInt8) (k:Nat):Decidable (o6 l k):=by unfold o6;exact inferInstance
def qv (l:List UInt8):Nat→Nat
 | 0=>0
 | k+1=>if o6 l (k+1) then k+1 else qv l k
theorem jM (l:List UInt8) (k:Nat):qv l k≤k:=by
 induction k with
 | zero=>simp [qv]
 | succ k ih=>simp only [qv];split <;> omega
theorem dM (l:List UInt8) (k:Nat) (h:o6 l k):qv l k=k:=by
 cases k with
 | zero=>rfl
 | succ k=>simp only [qv];rw [if_pos h]
theorem iO (l:List UInt8) (k:Nat) (h:¬ o6 l (k+1)):qv l (k+1)=qv l k:=by
 simp only [qv];rw [if_neg h]
def ld (b:Nat):Nat×Nat:=
 if b<128 then (b,1) else if b<192 then (0,0) else if b<224 then (b % 32,2) else if b<240 then (b % 16,3) else if b<248 then (b % 8,4) else (0,0)
theorem iK (b:Nat):(b<128∧ld b=(b,1))∨(192≤b∧b<224∧ld b=(b % 32,2))∨(224≤b∧b<240∧ld b=(b % 16,3))∨(240≤b∧b<248∧ld b=(b % 8,4))∨((128≤b∧b<192∨248≤b)∧ld b=(0,0)):=by
 unfold ld;by_cases h1:b<128
 ·simp [h1]
 by_cases h2:b<192
 ·simp [h1,h2];omega
 by_cases h3:b<224
 ·simp [h1,h2,h3];omega
 by_cases h4:b<240
 ·simp [h1,h2,h3,h4];omega
 by_cases h5:b<248
 ·simp [h1,h2,h3,h4,h5];omega
 ·simp [h1,h2,h3,h4,h5];omega
def ti (l:List UInt8) (k v:Nat):Nat→Nat
 | 0=>v
 | j+1=>ti l k v j * 64+bt l (k+1+j) % 64
theorem fA (l:List UInt8) (k:Nat) (h:k<l.length):px (l.drop k)=tk (bt l k) (bt l (k+1)) (bt l (k+1+1)) (bt l (k+1+2)):=by
 unfold px;rw [if_neg lr];simp only [nE];rfl
theorem LF (l:List UInt8) (k j:Nat) (h:j+1<(ld (bt l k)).2):ti l k (ld (bt l k)).1 j<32768:=by
 rcases iK (bt l k) with ⟨g,e⟩|⟨g,g',e⟩|⟨g,g',e⟩|⟨g,g',e⟩|⟨g,e⟩
 all_goals rw [e] at h ⊢;simp only at h
 ·omega
 ·obtain rfl:j=0:=lg;simp only [ti];omega
 ·obtain rfl|rfl:j=0∨j=1:=lg
  all_goals simp only [ti];omega
 ·obtain rfl|rfl|rfl:j=0∨j=1∨j=2:=lg
  all_goals simp only [ti];omega
 ·omega
theorem UT (b:Nat):(ld b).2≤4∧(ld b).1<128:=by
 rcases iK b with ⟨g,e⟩|⟨g,g',e⟩|⟨g,g',e⟩|⟨g,g',e⟩|⟨g,e⟩ <;> rw [e] <;> simp <;> omega
theorem JL (l:List UInt8) (k:Nat) (h:k<l.length) (e:(ld (bt l k)).2=0):px (l.drop k)=(0,0):=by
 rw [fA l k h];rcases iK (bt l k) with ⟨g,e'⟩|⟨g,g',e'⟩|⟨g,g',e'⟩|⟨g,g',e'⟩|⟨g,e'⟩
 all_goals rw [e'] at e;simp only at e
 all_goals first|omega|skip
 have:=jV l k;unfold tk;rw [if_neg lg,if_neg lg,if_neg lg,if_neg lg]
theorem xA (l:List UInt8) (k j:Nat) (h:k<l.length) (hj:j+1<(ld (bt l k)).2) (hn:¬ (128≤bt l (k+1+j)∧bt l (k+1+j)≤191)):px (l.drop k)=(0,0):=by
 rw [fA l k h];rcases iK (bt l k) with ⟨g,e⟩|⟨g,g',e⟩|⟨g,g',e⟩|⟨g,g',e⟩|⟨g,e⟩
 all_goals rw [e] at hj;simp only at hj
 ·omega
 ·obtain rfl:j=0:=lg;rw [zr] at hn;unfold tk;rw [if_neg lg,if_neg lg,if_neg lg,if_neg lg]
 ·obtain rfl|rfl:j=0∨j=1:=lg
  ·replace hn:¬ (128≤bt l (k+1)∧bt l (k+1)≤191):=hn;unfold tk;rw [if_neg lg,if_neg lg,if_neg lg,if_neg lg]
  ·replace hn:¬ (128≤bt l (k+1+1)∧bt l (k+1+1)≤191):=hn;unfold tk;rw [if_neg lg,if_neg lg,if_neg lg,if_neg lg]
 ·obtain rfl|rfl|rfl:j=0∨j=1∨j=2:=lg
  ·replace hn:¬ (128≤bt l (k+1)∧bt l (k+1)≤191):=hn;unfold tk;rw [if_neg lg,if_neg lg,if_neg lg,if_neg lg]
  ·replace hn:¬ (128≤bt l (k+1+1)∧bt l (k+1+1)≤191):=hn;unfold tk;rw [if_neg lg,if_neg lg,if_neg lg,if_neg lg]
  ·replace hn:¬ (128≤bt l (k+1+2)∧bt l (k+1+2)≤191):=hn;unfold tk;rw [if_neg lg,if_neg lg,if_neg lg,if_neg lg]
 ·omega
theorem DI (l:List UInt8) (k:Nat) (h:k<l.length) (hs:l.length<k+(ld (bt l k)).2):px (l.drop k)=(0,0):=by
 have h1:l.length - k - 1+1<(ld (bt l k)).2:=lg;have e:=fB l (k+1+(l.length - k - 1)) lg;exact xA l k (l.length - k - 1) h h1 (by rw [e];omega)
theorem NK (l:List UInt8) (k:Nat) (h:k<l.length) (hz:(ld (bt l k)).2≠0) (hon:∀ j,j+1<(ld (bt l k)).2→128≤bt l (k+1+j)∧bt l (k+1+j)≤191) :
 px (l.drop k)=if sz (ti l k (ld (bt l k)).1 ((ld (bt l k)).2 - 1):Nat)=(ld (bt l k)).2 then (ti l k (ld (bt l k)).1 ((ld (bt l k)).2 - 1),(ld (bt l k)).2) else (0,0):=by
 rw [fA l k h];rcases iK (bt l k) with ⟨g,e⟩|⟨g,g',e⟩|⟨g,g',e⟩|⟨g,g',e⟩|⟨g,e⟩
 all_goals rw [e] at hon hz ⊢;simp only at hon hz ⊢
 ·have s:sz ((bt l k:Nat):Int)=1:=by unfold sz;rw [if_neg lg,if_pos lg]
  show _=if sz ((bt l k:Nat):Int)=1 then (bt l k,1) else (0,0);rw [if_pos s];unfold tk;rw [if_pos g]
 ·have a0:=hon 0 lg;rw [zr] at a0;show _=if sz ((bt l k % 32 * 64+bt l (k+1) % 64:Nat):Int)=2 then (bt l k % 32 * 64+bt l (k+1) % 64,2) else (0,0);generalize bt l k=b0 at *;generalize bt l (k+1)=b1 at *;have E:(b0 % 32 * 64+b1 % 64:Nat)=(b0 - 192) * 64+(b1 - 128):=lg;rw [E];unfold tk;rw [if_neg lg];by_cases c1:194≤b0
  ·have s:sz ((b0 - 192) * 64+(b1 - 128):Nat)=2:=by unfold sz;rw [if_neg lg,if_neg lg,if_pos lg]
   rw [if_pos lg,if_pos s]
  ·have s:sz ((b0 - 192) * 64+(b1 - 128):Nat)≠2:=by unfold sz;rw [if_neg lg,if_pos lg];omega
   rw [if_neg lg,if_neg lg,if_neg lg,if_neg s]
 ·have a0:=hon 0 lg;have a1:=hon 1 lg;rw [zr] at a0;show _=if sz (((bt l k % 16 * 64+bt l (k+1) % 64) * 64+bt l (k+1+1) % 64:Nat):Int)=3 then ((bt l k % 16 * 64+bt l (k+1) % 64) * 64+bt l (k+1+1) % 64,3) else (0,0);generalize bt l k=b0 at *;generalize bt l (k+1)=b1 at *;generalize bt l (k+1+1)=b2 at *;have E:((b0 % 16 * 64+b1 % 64) * 64+b2 % 64:Nat)=(b0 - 224) * 4096+(b1 - 128) * 64+(b2 - 128):=lg;rw [E];unfold tk;rw [if_neg lg,if_neg lg];by_cases c1:(b0=224→160≤b1)∧(b0=237→b1<160)
  ·rw [if_pos lg];have s:sz ((b0 - 224) * 4096+(b1 - 128) * 64+(b2 - 128):Nat)=3:=by
    unfold sz;rw [if_neg lg,if_neg lg,if_neg lg,if_pos lg]
   rw [s,if_pos rfl]
  ·rw [if_neg lg,if_neg lg];have s:sz ((b0 - 224) * 4096+(b1 - 128) * 64+(b2 - 128):Nat)≠3:=by
    unfold sz;repeat' split
    all_goals omega
   rw [if_neg s]
 ·have a0:=hon 0 lg;have a1:=hon 1 lg;have a2:=hon 2 lg;rw [zr] at a0;show _=if sz ((((bt l k % 8 * 64+bt l (k+1) % 64) * 64+bt l (k+1+1) % 64) * 64+bt l (k+1+2) % 64:Nat):Int)=4 then (((bt l k % 8 * 64+bt l (k+1) % 64) * 64+bt l (k+1+1) % 64) * 64+bt l (k+1+2) % 64,4) else (0,0);generalize bt l k=b0 at *;generalize bt l (k+1)=b1 at *;generalize bt l (k+1+1)=b2 at *;generalize bt l (k+1+2)=b3 at *;have E:(((b0 % 8 * 64+b1 % 64) * 64+b2 % 64) * 64+b3 % 64:Nat)=(b0 - 240) * 262144+(b1 - 128) * 4096+(b2 - 128) * 64+(b3 - 128):=lg;rw [E];unfold tk;rw [if_neg lg,if_neg lg,if_neg lg];by_cases c1:(b0<245∧(b0=240→144≤b1)∧(b0=244→b1<144))
  ·rw [if_pos lg];have s:sz ((b0 - 240) * 262144+(b1 - 128) * 4096+(b2 - 128) * 64+(b3 - 128):Nat)=4:=by
    unfold sz;rw [if_neg lg,if_neg lg,if_neg lg,if_neg lg]
   rw [s,if_pos rfl]
  ·rw [if_neg lg];have s:sz ((b0 - 240) * 262144+(b1 - 128) * 4096+(b2 - 128) * 64+(b3 - 128):Nat)≠4:=by
    unfold sz;repeat' split
    all_goals omega
   rw [if_neg s]
 ·simp at hz
theorem iJ (l:List UInt8) (k:Nat) (h:rm l) (e:o6 l k):rm (l.take k)∧rm (l.drop k):=by
 rcases e with rfl|rfl|⟨hk,he⟩
 ·simpa using ⟨hG,h⟩
 ·simpa using ⟨h,hG⟩
 ·refine RN _ _ (.inr ?_) (by rw [List.take_append_drop];exact h);rw [nE];simpa using he
end Go.Proofs.YtbagenpobcgjnaaGreat
namespace Go.Proofs.YtbagenpobcgjnaaGreat
open Go.RowKit
theorem aM {k:IntKind} {a b:Int} (h:a=b):zm (.int k a)=zm (.int k b):=by rw [h]
theorem aA {a b:Bool} (h:a=b):zm (.bool a)=zm (.bool b):=by rw [h]
theorem RX {a b:ByteArray} (h:a=b):zm (.string a)=zm (.string b):=by rw [h]
theorem gT {a b c d:Int} (h1:a=c) (h2:b=d):zm (.tuple #[.int .i32 a,.int .i64 b])=zm (.tuple #[.int .i32 c,.int .i64 d]):=by rw [h1,h2]
theorem bD (s:ByteArray) (k:Nat) (h:k<s.size):bt s.data.toList k=(s[k]'h).toNat:=by
 unfold bt;have h':k<s.data.toList.length:=by simpa using h
 rw [zk,zp h'];rfl
theorem qF (a b:List UInt8) (h:a.length=b.length) (e:∀ i,i<a.length→bt a i=bt b i):a=b:=by
 refine List.ext_getElem h fun i h1 h2=>?_;have:=e i h1;unfold bt at this;rw [zk,zk,zp h1,zp h2] at this;exact UInt8.toNat_inj.1 this
theorem bH (xs:List Int) (i:Nat) (h:i<xs.length):bt (zt xs).data.toList i=(xs.getD i 0).toNat % 256:=by
 unfold bt zt;simp [zk,zp h]
theorem jA (xs:List Int):(zt xs).size=xs.length:=by simp [zt,ByteArray.size]
theorem aI (a b:ByteArray):(a++b).data.toList=a.data.toList++b.data.toList:=li
theorem aH (s:ByteArray) (a b:Nat):(s.extract a b).data.toList=(s.data.toList.drop a).take (b - a):=by
 rw [ByteArray.data_extract,Array.toList_extract]
theorem dQ {a b:ByteArray} (h:¬ a=b):(a.toList == b.toList)=false:=by
 rw [beq_eq_false_iff_ne,zu,zu];exact fun e=>h (ByteArray.ext (Array.toList_inj.1 e))
theorem aE (s:ByteArray):s.toList.isEmpty=decide (s.size=0):=by
 have h:s.toList.length=s.size:=by rw [zu];simp
 rw [← h];cases s.toList <;> simp
theorem aW {a b:ByteArray} (h:a.data.toList=b.data.toList):a=b:=ByteArray.ext (Array.toList_inj.1 h)
theorem aC {B:Nat} (h:Below B a w) (n:Nat):Below B a (w.drewN n):=⟨h.os,h.tape,h.output,h.size,h.block⟩
theorem mw {P:Program} {f:FuncId} {args:Array Value} {v:Value} {w0:zn} (h:Below w0 w0 w)
 (c:Calls P f args w fun e w'=>e=zm v∧Below w w w'):Calls P f args w fun e w'=>e=zm v∧Below w0 w0 w':=
 c.mono fun _ _ ⟨he,hb⟩=>⟨he,h.trans (hb.mono h.size)⟩
def tp (l:List UInt8):Nat→Nat→Nat
 | _,0=>0
 | k,m+1=>bt l k+256 * tp l (k+1) m
theorem hP (l:List UInt8) (m:Nat):∀ k,tp l k m<256 ^ m:=by
 induction m with
 | zero=>intro k;simp [tp]
 | succ m ih =>
  intro k;have h1:=ih (k+1);have h2:=jV l k;simp only [tp];rw [Nat.pow_succ];omega
def sa (l:List UInt8) (p:Int) (m:Nat):Nat×Bool:=if p<0∨(l.length:Int) - m<p then (0,false) else (tp l p.toNat m,true)
structure lx (S:List Nat) (w w':zn):Prop where
 os:w'.os=w.os
 tape:w'.tape=w.tape
 output:w'.output=w.output
 size:w.heap.size≤w'
 block:∀ k,k<w.heap.size→k ∉ S→w'.heap[k]? = w.heap[k]?
theorem lx.refl (S:List Nat) (w:zn):lx S w w:=⟨rfl,rfl,rfl,zq _,fun _ _ _=>rfl⟩
theorem lx.trans {S':List Nat} {b c:zn} (h:lx S a b) (k:lx S' b c) (hs:∀ x∈S',x∈S∨a.heap.size≤x):lx S a c:=
 ⟨k.os.trans h.os,k.tape.trans h.tape,k.output.trans h.output,Nat.le_trans h.size k.size,fun i hi hn=>(k.block i (Ab hi h.size) (fun g=>by
  rcases hs i g with g|g
  ·exact hn g
  ·omega)).trans (h.block i hi hn)⟩
theorem lx.more {S S':List Nat} {w w':zn} (h:lx S w w') (hs:∀ x∈S,x∈S'):lx S' w w':=⟨h.os,h.tape,h.output,h.size,fun i hi hn=>h.block i hi (fun g=>hn (hs i g))⟩
theorem lx.of_below {w':zn} (h:Below w w w'):lx S w w':=⟨h.os,h.tape,h.output,h.size,fun i hi _=>h.block i hi⟩
theorem lx.to_below {B:Nat} {w':zn} (h:lx S w w') (hs:∀ x∈S,B≤x) (hB:B≤w):Below B w w':=
 ⟨h.os,h.tape,h.output,h.size,fun i hi=>h.block i (Ab hi hB) (fun g=>by have:=hs i g;omega)⟩
theorem lx.cell {w':zn} (h:lx S w w') {p:Addr} (hp:p.block<w) (hn:p.block ∉ S):w' p=w p:=World.cell?_of_block (w:=w) (h.block p.block hp hn)
theorem lx.drewN (h:lx S a w) (n:Nat):lx S a (w.drewN n):=⟨h.os,h.tape,h.output,h.size,h.block⟩
theorem lx.setCell (h:lx S a w) {p:Addr} (hp:p.block∈S∨a≤p.block) (u:Value):lx S a (w.setCell p u):=
 ⟨h.os,h.tape,h.output,by simpa [World.setCell] using h.size,fun i hi hn=>(Below.heap_setCell w p u i (fun e=>by
  rcases hp with g|g
  ·exact hn (e ▸ g)
  ·omega)).trans (h.block i hi hn)⟩
end Go.Proofs.YtbagenpobcgjnaaGreat
