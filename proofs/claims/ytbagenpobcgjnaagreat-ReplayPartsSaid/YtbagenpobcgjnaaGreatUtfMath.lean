/-
  UtfMath
-/
import GoSem.Core.Utf8
namespace Go.Proofs.YtbagenpobcgjnaaGreat
theorem bX {l:List UInt8} (h:l≠[]):0<l.length:=by cases l with|nil=>exact absurd rfl h|cons=>simp
def sz (c:Int):Nat:=
 if c<0∨1114111<c∨(55296≤c∧c≤57343) then 0 else if c<128 then 1 else if c<2048 then 2 else if c<65536 then 3 else 4
def tk (b0 b1 b2 b3:Nat):Nat×Nat:=
 if b0<128 then (b0,1)
 else if 194≤b0∧b0<224∧128≤b1∧b1≤191 then ((b0 - 192) * 64+(b1 - 128),2)
 else if 224≤b0∧b0<240∧128≤b1∧b1≤191∧128≤b2∧b2≤191∧(b0=224→160≤b1)∧(b0=237→b1<160) then ((b0 - 224) * 4096+(b1 - 128) * 64+(b2 - 128),3)
 else if 240≤b0∧b0<245∧128≤b1∧b1≤191∧128≤b2∧b2≤191∧128≤b3∧b3≤191∧(b0=240→144≤b1)∧(b0=244→b1<144) then ((b0 - 240) * 262144+(b1 - 128) * 4096+(b2 - 128) * 64+(b3 - 128),4)
 else (0,0)
def bt (l:List UInt8) (i:Nat):Nat:=(l.getD i 0).toNat
theorem iG (l:List UInt8) (i:Nat):bt l i<256:=(l.getD i 0).toNat_lt
theorem dY (l:List UInt8) (i:Nat) (h:l.length≤i):bt l i=0:=by
 unfold bt;rw [List.getD_eq_getElem?_getD,List.getElem?_eq_none h];rfl
theorem lO (l:List UInt8) (k i:Nat):bt (l.drop k) i=bt l (k+i):=by
 unfold bt;simp [List.getD_eq_getElem?_getD]
theorem NI (l:List UInt8) (k i:Nat) (h:i<k):bt (l.take k) i=bt l i:=by
 unfold bt;simp [List.getD_eq_getElem?_getD,h]
theorem aV (a b:List UInt8) (i:Nat) (h:i<a.length):bt (a++b) i=bt a i:=by
 unfold bt;simp [List.getD_eq_getElem?_getD,List.getElem?_append,h]
theorem bJ (a b:List UInt8) (i:Nat) (h:a.length≤i):bt (a++b) i=bt b (i - a.length):=by
 unfold bt;simp [List.getD_eq_getElem?_getD,List.getElem?_append,Nat.not_lt.2 h]
def tkl (l:List UInt8):Nat×Nat:=if l=[] then (0,0) else tk (bt l 0) (bt l 1) (bt l 2) (bt l 3)
theorem eE (b0 b1 b2 b3:Nat) :
 (b0<128∧tk b0 b1 b2 b3=(b0,1)) ∨
 (194≤b0∧b0<224∧128≤b1∧b1≤191∧tk b0 b1 b2 b3=((b0 - 192) * 64+(b1 - 128),2)) ∨
 (224≤b0∧b0<240∧128≤b1∧b1≤191∧128≤b2∧b2≤191∧(b0=224→160≤b1)∧(b0=237→b1<160)∧tk b0 b1 b2 b3=((b0 - 224) * 4096+(b1 - 128) * 64+(b2 - 128),3)) ∨
 (240≤b0∧b0<245∧128≤b1∧b1≤191∧128≤b2∧b2≤191∧128≤b3∧b3≤191∧(b0=240→144≤b1)∧(b0=244→b1<144)∧tk b0 b1 b2 b3=((b0 - 240) * 262144+(b1 - 128) * 4096+(b2 - 128) * 64+(b3 - 128),4)) ∨
 (128≤b0∧¬ (194≤b0∧b0<224∧128≤b1∧b1≤191)∧¬ (224≤b0∧b0<240∧128≤b1∧b1≤191∧128≤b2∧b2≤191∧(b0=224→160≤b1)∧(b0=237→b1<160))∧¬ (240≤b0∧b0<245∧128≤b1∧b1≤191∧128≤b2∧b2≤191∧128≤b3∧b3≤191∧(b0=240→144≤b1)∧(b0=244→b1<144))∧tk b0 b1 b2 b3=(0,0)):=by
 unfold tk
 by_cases h1:b0<128
 ·simp [h1]
 by_cases h2:194≤b0∧b0<224∧128≤b1∧b1≤191
 ·rw [if_neg h1,if_pos h2];exact .inr (.inl ⟨h2.1,h2.2.1,h2.2.2.1,h2.2.2.2,rfl⟩)
 by_cases h3:224≤b0∧b0<240∧128≤b1∧b1≤191∧128≤b2∧b2≤191∧(b0=224→160≤b1)∧(b0=237→b1<160)
 ·rw [if_neg h1,if_neg h2,if_pos h3]
  obtain ⟨a,b,c,d,e,f,g,i⟩:=h3
  exact .inr (.inr (.inl ⟨a,b,c,d,e,f,g,i,rfl⟩))
 by_cases h4:240≤b0∧b0<245∧128≤b1∧b1≤191∧128≤b2∧b2≤191∧128≤b3∧b3≤191∧(b0=240→144≤b1)∧(b0=244→b1<144)
 ·rw [if_neg h1,if_neg h2,if_neg h3,if_pos h4]
  obtain ⟨a,b,c,d,e,f,g,i,j,k⟩:=h4
  exact .inr (.inr (.inr (.inl ⟨a,b,c,d,e,f,g,i,j,k,rfl⟩)))
 ·rw [if_neg h1,if_neg h2,if_neg h3,if_neg h4]
  exact .inr (.inr (.inr (.inr ⟨by omega,h2,h3,h4,rfl⟩)))
theorem nX (b0 b1 b2 b3:Nat):(tk b0 b1 b2 b3).2≤4:=by
 rcases eE b0 b1 b2 b3 with ⟨_,e⟩|⟨_,_,_,_,e⟩|⟨_,_,_,_,_,_,_,_,e⟩|⟨_,_,_,_,_,_,_,_,_,_,e⟩|⟨_,_,_,_,e⟩ <;> rw [e] <;> simp
theorem xY (b0 b1 b2 b3 c1 c2 c3:Nat) (h1:1<(tk b0 b1 b2 b3).2→c1=b1) (h2:2<(tk b0 b1 b2 b3).2→c2=b2) (h3:3<(tk b0 b1 b2 b3).2→c3=b3)
 (h:(tk b0 b1 b2 b3).2≠0):tk b0 c1 c2 c3=tk b0 b1 b2 b3:=by
 rcases eE b0 b1 b2 b3 with ⟨g1,e⟩|⟨g1,g2,g3,g4,e⟩|⟨g1,g2,g3,g4,g5,g6,g7,g8,e⟩|⟨g1,g2,g3,g4,g5,g6,g7,g8,g9,g10,e⟩|⟨_,_,_,_,e⟩
 all_goals rw [e] at h h1 h2 h3 ⊢;simp at h h1 h2 h3
 ·simp [tk,g1]
 ·subst h1;simp only [tk];rw [if_neg (by omega),if_pos ⟨g1,g2,g3,g4⟩]
 ·subst h1 h2;simp only [tk];rw [if_neg (by omega),if_neg (by omega),if_pos ⟨g1,g2,g3,g4,g5,g6,g7,g8⟩]
 ·subst h1 h2 h3;simp only [tk];rw [if_neg (by omega),if_neg (by omega),if_neg (by omega),if_pos ⟨g1,g2,g3,g4,g5,g6,g7,g8,g9,g10⟩]
theorem sG (b0 b1 b2 b3:Nat) (h:(tk b0 b1 b2 b3).2≠0) :
 ¬ (128≤b0∧b0≤191)∧(1<(tk b0 b1 b2 b3).2→128≤b1∧b1≤191)∧(2<(tk b0 b1 b2 b3).2→128≤b2∧b2≤191)∧(3<(tk b0 b1 b2 b3).2→128≤b3∧b3≤191):=by
 rcases eE b0 b1 b2 b3 with ⟨g1,e⟩|⟨g1,g2,g3,g4,e⟩|⟨g1,g2,g3,g4,g5,g6,g7,g8,e⟩|⟨g1,g2,g3,g4,g5,g6,g7,g8,g9,g10,e⟩|⟨_,_,_,_,e⟩
 all_goals rw [e] at h ⊢;simp at h ⊢ <;> omega
theorem dI (l:List UInt8):(tkl l).2≤l.length:=by
 unfold tkl
 split
 ·simp
 ·rename_i hl
  have h0:0<l.length:=bX hl
  by_cases hz:(tk (bt l 0) (bt l 1) (bt l 2) (bt l 3)).2=0
  ·omega
  obtain ⟨_,g1,g2,g3⟩:=sG _ _ _ _ hz
  have h4:=nX (bt l 0) (bt l 1) (bt l 2) (bt l 3)
  have z1:=dY l 1;have z2:=dY l 2;have z3:=dY l 3
  omega
def badF:Nat→List UInt8→Nat→Int
 | 0,_,_=>-1
 | f+1,l,p=>if l=[] then -1 else if (tkl l).2=0 then p else badF f (l.drop (tkl l).2) (p+(tkl l).2)
def bad (l:List UInt8):Int:=badF (l.length+1) l 0
theorem qC (f:Nat):∀ (l:List UInt8) (p g:Nat),l.length<f→l.length<g→badF f l p=badF g l p:=by
 induction f with
 | zero=>intro l p g h;omega
 | succ f ih =>
  intro l p g hf hg
  cases g with
  | zero=>omega
  | succ g =>
   simp only [badF]
   split
   ·rfl
   split
   ·rfl
   ·rename_i hl hz
    have:=bX hl
    exact ih _ _ _ (by simp;omega) (by simp;omega)
theorem zO (f:Nat):∀ (l:List UInt8) (p:Nat),badF f l p=-1∨(p≤badF f l p∧badF f l p<p+l.length):=by
 induction f with
 | zero=>intro l p;exact .inl rfl
 | succ f ih =>
  intro l p
  simp only [badF]
  split
  ·exact .inl rfl
  rename_i hl
  have h0:=bX hl
  split
  ·right;omega
  ·have h1:=dI l
   rcases ih (l.drop (tkl l).2) (p+(tkl l).2) with h|h
   ·exact .inl h
   ·right;simp only [List.length_drop] at h;omega
theorem BI (f:Nat):∀ (l:List UInt8) (p:Nat),(badF f l p=-1)↔(badF f l 0=-1):=by
 induction f with
 | zero=>intro l p;simp [badF]
 | succ f ih =>
  intro l p
  simp only [badF]
  split
  ·simp
  split
  ·simp
  ·rw [ih _ (p+_),ih _ (0+_)]
def vld (l:List UInt8):Prop:=bad l=-1
theorem fQ:vld []:=rfl
theorem eA (l:List UInt8) (h:l≠[]):vld l↔((tkl l).2≠0∧vld (l.drop (tkl l).2)):=by
 unfold vld bad
 have h0:=bX h
 conv=>lhs;rw [show badF (l.length+1) l 0=if l=[] then -1 else if (tkl l).2=0 then 0 else badF l.length (l.drop (tkl l).2) (0+(tkl l).2) from rfl]
 rw [if_neg h]
 by_cases hz:(tkl l).2=0
 ·simp [hz]
 ·rw [if_neg hz,BI]
  have e:badF l.length (l.drop (tkl l).2) 0=badF ((l.drop (tkl l).2).length+1) (l.drop (tkl l).2) 0:=qC _ _ _ _ (by simp;omega) (by simp)
  rw [e];simp [hz]
def clean (l:List UInt8):Prop:=l=[]∨¬ (128≤bt l 0∧bt l 0≤191)
theorem dQ (l:List UInt8) (h:vld l):clean l:=by
 by_cases hl:l=[]
 ·exact .inl hl
 ·right
  obtain ⟨h1,_⟩:=(eA l hl).1 h
  simp only [tkl,if_neg hl] at h1
  exact (sG _ _ _ _ h1).1
theorem xV (a b:List UInt8) (h:(tkl a).2≠0):tkl (a++b)=tkl a:=by
 have hle:=dI a
 by_cases ha:a=[]
 ·subst ha;simp [tkl] at h
 have h0:=bX ha
 simp only [tkl,if_neg ha] at h hle ⊢
 rw [if_neg (by simp [ha]),aV a b 0 h0]
 refine xY _ _ _ _ _ _ _ (fun k=>aV _ _ _ ?_) (fun k=>aV _ _ _ ?_) (fun k=>aV _ _ _ ?_) h <;> omega
theorem MI (a b:List UInt8) (ha:a≠[]) (hb:clean b) (h:(tkl (a++b)).2≠0):tkl a=tkl (a++b):=by
 have h0:=bX ha
 have hle:(tkl (a++b)).2≤a.length:=by
  have hall:=dI (a++b)
  rcases hb with rfl|hb
  ·simpa using hall
  simp only [tkl] at h ⊢
  rw [if_neg (by simp [ha])] at h ⊢
  obtain ⟨_,g1,g2,g3⟩:=sG _ _ _ _ h
  have h4:=nX (bt (a++b) 0) (bt (a++b) 1) (bt (a++b) 2) (bt (a++b) 3)
  have e:=bJ a b a.length (Nat.le_refl _)
  rw [Nat.sub_self] at e
  rw [← e] at hb
  by_cases k1:a.length=1
  ·rw [k1] at hb ⊢;omega
  by_cases k2:a.length=2
  ·rw [k2] at hb ⊢;omega
  by_cases k3:a.length=3
  ·rw [k3] at hb ⊢;omega
  omega
 simp only [tkl] at h hle ⊢
 rw [if_neg (by simp [ha])] at h hle
 rw [if_neg ha,if_neg (by simp [ha]),← aV a b 0 h0]
 refine xY _ _ _ _ _ _ _ (fun k=>(aV _ _ _ ?_).symm) (fun k=>(aV _ _ _ ?_).symm) (fun k=>(aV _ _ _ ?_).symm) h <;> omega
theorem sT (n:Nat):∀ (a b:List UInt8),a.length≤n→vld a→vld b→vld (a++b):=by
 induction n with
 | zero =>
  intro a b hn _ hb
  have h:a=[]:=List.eq_nil_of_length_eq_zero (by omega)
  subst h;simpa using hb
 | succ n ih =>
  intro a b hn ha hb
  by_cases h:a=[]
  ·subst h;simpa using hb
  obtain ⟨h1,h2⟩:=(eA a h).1 ha
  have hle:=dI a
  have h0:=bX h
  rw [eA _ (by simp [h]),xV a b h1]
  refine ⟨h1,?_⟩
  rw [List.drop_append_of_le_length hle]
  exact ih _ _ (by simp;omega) h2 hb
theorem dW (a b:List UInt8) (ha:vld a) (hb:vld b):vld (a++b):=sT a.length a b (Nat.le_refl _) ha hb
theorem tR (n:Nat):∀ (a b:List UInt8),a.length≤n→clean b→vld (a++b)→vld a∧vld b:=by
 induction n with
 | zero =>
  intro a b hn _ h
  have ha:a=[]:=List.eq_nil_of_length_eq_zero (by omega)
  subst ha;exact ⟨fQ,by simpa using h⟩
 | succ n ih =>
  intro a b hn hb h
  by_cases ha:a=[]
  ·subst ha;exact ⟨fQ,by simpa using h⟩
  obtain ⟨h1,h2⟩:=(eA (a++b) (by simp [ha])).1 h
  have e:=MI a b ha hb h1
  have hp:(tkl a).2≠0:=by rw [e];exact h1
  rw [← e] at h1 h2
  have hle:=dI a
  have h0:=bX ha
  rw [List.drop_append_of_le_length hle] at h2
  have i:=ih _ _ (by simp;omega) hb h2
  exact ⟨(eA a ha).2 ⟨h1,i.1⟩,i.2⟩
theorem NP (a b:List UInt8) (hb:clean b) (h:vld (a++b)):vld a∧vld b:=tR a.length a b (Nat.le_refl _) hb h
def runes (l:List UInt8):Nat:=(l.filter fun c=>!(decide (128≤c.toNat) && decide (c.toNat≤191))).length
theorem pQ (a b:List UInt8):runes (a++b)=runes a+runes b:=by simp [runes]
theorem vD (l:List UInt8):runes l≤l.length:=List.length_filter_le _ _
def lines (l:List UInt8):Nat:=(l.filter fun c=>decide (c.toNat=10)).length
theorem qU (a b:List UInt8):lines (a++b)=lines a+lines b:=by simp [lines]
theorem tL (l:List UInt8):lines l≤l.length:=List.length_filter_le _ _
theorem qJ (l:List UInt8) (k:Nat) (h:k<l.length):l.take (k+1)=l.take k++[l.getD k 0]:=by
 rw [List.take_succ_eq_append_getElem h,List.getD_eq_getElem?_getD,List.getElem?_eq_getElem h];rfl
theorem iP (l:List UInt8) (k:Nat) (h:k<l.length):runes (l.take (k+1))=runes (l.take k)+if 128≤bt l k∧bt l k≤191 then 0 else 1:=by
 rw [qJ l k h,pQ]
 unfold bt
 generalize l.getD k 0=c
 by_cases g:128≤c.toNat∧c.toNat≤191
 ·rw [if_pos g];simp [runes,g]
 ·rw [if_neg g];simp only [runes,List.filter_cons,List.filter_nil]
  rw [if_pos (by simp;omega)];rfl
theorem iY (l:List UInt8) (k:Nat) (h:k<l.length):lines (l.take (k+1))=lines (l.take k)+if bt l k=10 then 1 else 0:=by
 rw [qJ l k h,qU]
 unfold bt
 generalize l.getD k 0=c
 by_cases g:c.toNat=10
 ·rw [if_pos g];simp [lines,g]
 ·rw [if_neg g];simp [lines,g]
def edge (l:List UInt8) (k:Nat):Prop:=k=0∨k=l.length∨(k<l.length∧¬ (128≤bt l k∧bt l k≤191))
instance (l:List UInt8) (k:Nat):Decidable (edge l k):=by unfold edge;exact inferInstance
def back (l:List UInt8):Nat→Nat
 | 0=>0
 | k+1=>if edge l (k+1) then k+1 else back l k
theorem iA (l:List UInt8) (k:Nat):back l k≤k:=by
 induction k with
 | zero=>simp [back]
 | succ k ih=>simp only [back];split <;> omega
theorem dE (l:List UInt8) (k:Nat) (h:edge l k):back l k=k:=by
 cases k with
 | zero=>rfl
 | succ k=>simp only [back];rw [if_pos h]
theorem gI (l:List UInt8) (k:Nat) (h:¬ edge l (k+1)):back l (k+1)=back l k:=by
 simp only [back];rw [if_neg h]
def ld (b:Nat):Nat×Nat:=
 if b<128 then (b,1) else if b<192 then (0,0) else if b<224 then (b % 32,2) else if b<240 then (b % 16,3) else if b<248 then (b % 8,4) else (0,0)
theorem gH (b:Nat):(b<128∧ld b=(b,1))∨(192≤b∧b<224∧ld b=(b % 32,2))∨(224≤b∧b<240∧ld b=(b % 16,3))∨(240≤b∧b<248∧ld b=(b % 8,4))∨((128≤b∧b<192∨248≤b)∧ld b=(0,0)):=by
 unfold ld
 by_cases h1:b<128
 ·simp [h1]
 by_cases h2:b<192
 ·simp [h1,h2];omega
 by_cases h3:b<224
 ·simp [h1,h2,h3];omega
 by_cases h4:b<240
 ·simp [h1,h2,h3,h4];omega
 by_cases h5:b<248
 ·simp [h1,h2,h3,h4,h5];omega
 ·simp [h1,h2,h3,h4,h5];omega
def acc (l:List UInt8) (k v:Nat):Nat→Nat
 | 0=>v
 | j+1=>acc l k v j * 64+bt l (k+1+j) % 64
theorem eC (l:List UInt8) (k:Nat) (h:k<l.length):tkl (l.drop k)=tk (bt l k) (bt l (k+1)) (bt l (k+1+1)) (bt l (k+1+2)):=by
 unfold tkl
 rw [if_neg (by simp;omega)]
 simp only [lO]
 rfl
theorem BO (l:List UInt8) (k j:Nat) (h:j+1<(ld (bt l k)).2):acc l k (ld (bt l k)).1 j<32768:=by
 rcases gH (bt l k) with ⟨g,e⟩|⟨g,g',e⟩|⟨g,g',e⟩|⟨g,g',e⟩|⟨g,e⟩
 all_goals rw [e] at h ⊢;simp only at h
 ·omega
 ·obtain rfl:j=0:=by omega
  simp only [acc];omega
 ·obtain rfl|rfl:j=0∨j=1:=by omega
  all_goals simp only [acc];omega
 ·obtain rfl|rfl|rfl:j=0∨j=1∨j=2:=by omega
  all_goals simp only [acc];omega
 ·omega
theorem QD (b:Nat):(ld b).2≤4∧(ld b).1<128:=by
 rcases gH b with ⟨g,e⟩|⟨g,g',e⟩|⟨g,g',e⟩|⟨g,g',e⟩|⟨g,e⟩ <;> rw [e] <;> simp <;> omega
theorem EP (l:List UInt8) (k:Nat) (h:k<l.length) (e:(ld (bt l k)).2=0):tkl (l.drop k)=(0,0):=by
 rw [eC l k h]
 rcases gH (bt l k) with ⟨g,e'⟩|⟨g,g',e'⟩|⟨g,g',e'⟩|⟨g,g',e'⟩|⟨g,e'⟩
 all_goals rw [e'] at e;simp only at e
 all_goals first|omega|skip
 have:=iG l k
 unfold tk
 rw [if_neg (by omega),if_neg (by omega),if_neg (by omega),if_neg (by omega)]
theorem uB (l:List UInt8) (k j:Nat) (h:k<l.length) (hj:j+1<(ld (bt l k)).2) (hn:¬ (128≤bt l (k+1+j)∧bt l (k+1+j)≤191)):tkl (l.drop k)=(0,0):=by
 rw [eC l k h]
 rcases gH (bt l k) with ⟨g,e⟩|⟨g,g',e⟩|⟨g,g',e⟩|⟨g,g',e⟩|⟨g,e⟩
 all_goals rw [e] at hj;simp only at hj
 ·omega
 ·obtain rfl:j=0:=by omega
  rw [Nat.add_zero] at hn
  unfold tk;rw [if_neg (by omega),if_neg (by omega),if_neg (by omega),if_neg (by omega)]
 ·obtain rfl|rfl:j=0∨j=1:=by omega
  ·replace hn:¬ (128≤bt l (k+1)∧bt l (k+1)≤191):=hn
   unfold tk;rw [if_neg (by omega),if_neg (by omega),if_neg (by omega),if_neg (by omega)]
  ·replace hn:¬ (128≤bt l (k+1+1)∧bt l (k+1+1)≤191):=hn
   unfold tk;rw [if_neg (by omega),if_neg (by omega),if_neg (by omega),if_neg (by omega)]
 ·obtain rfl|rfl|rfl:j=0∨j=1∨j=2:=by omega
  ·replace hn:¬ (128≤bt l (k+1)∧bt l (k+1)≤191):=hn
   unfold tk;rw [if_neg (by omega),if_neg (by omega),if_neg (by omega),if_neg (by omega)]
  ·replace hn:¬ (128≤bt l (k+1+1)∧bt l (k+1+1)≤191):=hn
   unfold tk;rw [if_neg (by omega),if_neg (by omega),if_neg (by omega),if_neg (by omega)]
  ·replace hn:¬ (128≤bt l (k+1+2)∧bt l (k+1+2)≤191):=hn
   unfold tk;rw [if_neg (by omega),if_neg (by omega),if_neg (by omega),if_neg (by omega)]
 ·omega
theorem zQ (l:List UInt8) (k:Nat) (h:k<l.length) (hs:l.length<k+(ld (bt l k)).2):tkl (l.drop k)=(0,0):=by
 have h1:l.length - k - 1+1<(ld (bt l k)).2:=by omega
 have e:=dY l (k+1+(l.length - k - 1)) (by omega)
 exact uB l k (l.length - k - 1) h h1 (by rw [e];omega)
theorem II (l:List UInt8) (k:Nat) (h:k<l.length) (hz:(ld (bt l k)).2≠0) (hon:∀ j,j+1<(ld (bt l k)).2→128≤bt l (k+1+j)∧bt l (k+1+j)≤191) :
 tkl (l.drop k)=if sz (acc l k (ld (bt l k)).1 ((ld (bt l k)).2 - 1):Nat)=(ld (bt l k)).2 then (acc l k (ld (bt l k)).1 ((ld (bt l k)).2 - 1),(ld (bt l k)).2) else (0,0):=by
 rw [eC l k h]
 rcases gH (bt l k) with ⟨g,e⟩|⟨g,g',e⟩|⟨g,g',e⟩|⟨g,g',e⟩|⟨g,e⟩
 all_goals rw [e] at hon hz ⊢;simp only at hon hz ⊢
 ·have s:sz ((bt l k:Nat):Int)=1:=by unfold sz;rw [if_neg (by omega),if_pos (by omega)]
  show _=if sz ((bt l k:Nat):Int)=1 then (bt l k,1) else (0,0)
  rw [if_pos s];unfold tk;rw [if_pos g]
 ·have a0:=hon 0 (by omega)
  rw [Nat.add_zero] at a0
  show _=if sz ((bt l k % 32 * 64+bt l (k+1) % 64:Nat):Int)=2 then (bt l k % 32 * 64+bt l (k+1) % 64,2) else (0,0)
  generalize bt l k=b0 at *
  generalize bt l (k+1)=b1 at *
  have E:(b0 % 32 * 64+b1 % 64:Nat)=(b0 - 192) * 64+(b1 - 128):=by omega
  rw [E]
  unfold tk
  rw [if_neg (by omega)]
  by_cases c1:194≤b0
  ·have s:sz ((b0 - 192) * 64+(b1 - 128):Nat)=2:=by unfold sz;rw [if_neg (by omega),if_neg (by omega),if_pos (by omega)]
   rw [if_pos (by omega),if_pos s]
  ·have s:sz ((b0 - 192) * 64+(b1 - 128):Nat)≠2:=by unfold sz;rw [if_neg (by omega),if_pos (by omega)];omega
   rw [if_neg (by omega),if_neg (by omega),if_neg (by omega),if_neg s]
 ·have a0:=hon 0 (by omega)
  have a1:=hon 1 (by omega)
  rw [Nat.add_zero] at a0
  show _=if sz (((bt l k % 16 * 64+bt l (k+1) % 64) * 64+bt l (k+1+1) % 64:Nat):Int)=3 then ((bt l k % 16 * 64+bt l (k+1) % 64) * 64+bt l (k+1+1) % 64,3) else (0,0)
  generalize bt l k=b0 at *
  generalize bt l (k+1)=b1 at *
  generalize bt l (k+1+1)=b2 at *
  have E:((b0 % 16 * 64+b1 % 64) * 64+b2 % 64:Nat)=(b0 - 224) * 4096+(b1 - 128) * 64+(b2 - 128):=by omega
  rw [E]
  unfold tk
  rw [if_neg (by omega),if_neg (by omega)]
  by_cases c1:(b0=224→160≤b1)∧(b0=237→b1<160)
  ·rw [if_pos (by omega)]
   have s:sz ((b0 - 224) * 4096+(b1 - 128) * 64+(b2 - 128):Nat)=3:=by
    unfold sz;rw [if_neg (by omega),if_neg (by omega),if_neg (by omega),if_pos (by omega)]
   rw [s,if_pos rfl]
  ·rw [if_neg (by omega),if_neg (by omega)]
   have s:sz ((b0 - 224) * 4096+(b1 - 128) * 64+(b2 - 128):Nat)≠3:=by
    unfold sz;repeat' split
    all_goals omega
   rw [if_neg s]
 ·have a0:=hon 0 (by omega)
  have a1:=hon 1 (by omega)
  have a2:=hon 2 (by omega)
  rw [Nat.add_zero] at a0
  show _=if sz ((((bt l k % 8 * 64+bt l (k+1) % 64) * 64+bt l (k+1+1) % 64) * 64+bt l (k+1+2) % 64:Nat):Int)=4 then (((bt l k % 8 * 64+bt l (k+1) % 64) * 64+bt l (k+1+1) % 64) * 64+bt l (k+1+2) % 64,4) else (0,0)
  generalize bt l k=b0 at *
  generalize bt l (k+1)=b1 at *
  generalize bt l (k+1+1)=b2 at *
  generalize bt l (k+1+2)=b3 at *
  have E:(((b0 % 8 * 64+b1 % 64) * 64+b2 % 64) * 64+b3 % 64:Nat)=(b0 - 240) * 262144+(b1 - 128) * 4096+(b2 - 128) * 64+(b3 - 128):=by omega
  rw [E]
  unfold tk
  rw [if_neg (by omega),if_neg (by omega),if_neg (by omega)]
  by_cases c1:(b0<245∧(b0=240→144≤b1)∧(b0=244→b1<144))
  ·rw [if_pos (by omega)]
   have s:sz ((b0 - 240) * 262144+(b1 - 128) * 4096+(b2 - 128) * 64+(b3 - 128):Nat)=4:=by
    unfold sz;rw [if_neg (by omega),if_neg (by omega),if_neg (by omega),if_neg (by omega)]
   rw [s,if_pos rfl]
  ·rw [if_neg (by omega)]
   have s:sz ((b0 - 240) * 262144+(b1 - 128) * 4096+(b2 - 128) * 64+(b3 - 128):Nat)≠4:=by
    unfold sz;repeat' split
    all_goals omega
   rw [if_neg s]
 ·simp at hz
theorem fU (l:List UInt8) (k:Nat) (h:vld l) (e:edge l k):vld (l.take k)∧vld (l.drop k):=by
 rcases e with rfl|rfl|⟨hk,he⟩
 ·simpa using ⟨fQ,h⟩
 ·simpa using ⟨h,fQ⟩
 ·refine NP _ _ (.inr ?_) (by rw [List.take_append_drop];exact h)
  rw [lO];simpa using he
end Go.Proofs.YtbagenpobcgjnaaGreat
