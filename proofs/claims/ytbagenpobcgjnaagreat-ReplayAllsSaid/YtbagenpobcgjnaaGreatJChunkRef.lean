/-
  Joined: ChunkRef, ChunkRef2, ChunkDev, ChunkJoin, Mrk, EditRow.
-/
import Derived.Test.YtbagenpobcgjnaaGreatJUtfRTake
import Derived.Test.YtbagenpobcgjnaaGreatJStrs
open Bool renaming eq_false_iff->zk
open ByteArray renaming empty->zm,size_append->zs
open Go renaming Addr->yy,Calls->zj,Value->yz,World->yv,maxLen->zd
open Go.Addr renaming add->zi
open Go.Ending renaming returned->zg
open Go.Value renaming int->ze,slice->zh,string->yw
open List renaming map_append->zq,sum_append->zr
open Nat renaming add_assoc->zn,le_trans->zo,lt_of_lt_of_le->zp
variable {a b:ByteArray} {base:Nat} {t:Go.TypeId} {w:Go.World}
namespace Go.Proofs.YtbagenpobcgjnaaGreat
open Go.RowKit
set_option linter.unusedVariables false
theorem DT (s:ByteArray) (h:¬ 1≤s.size):oe s=false:=by unfold oe;rw [decide_eq_false h];rfl
theorem GZ (s:ByteArray) (h:¬ s.size≤16):oe s=false:=by unfold oe;rw [decide_eq_false h,Bool.false_and,Bool.and_false]
theorem MO (s:ByteArray) (h1:1≤s.size) (h2:s.size≤16):oe s=oa s.data.toList:=by unfold oe;rw [decide_eq_true h1,decide_eq_true h2];rfl
set_option linter.unusedSimpArgs false
structure C2 (w:yv) (p q:yy) (u v:yz) (w':yv):Prop where
 B:Below w w w'
 p:w' p=some u
 q:w' q=some v
open Go.Proofs.Tryz
set_option maxRecDepth 100000
open Lib (hid)
theorem mJ {s:ByteArray} (h:s.size=0):s=⟨#[]⟩:=by
 apply aU;rw [List.eq_nil_of_length_eq_zero (l:=s.data.toList) (by simpa using h)]
theorem lG {s:ByteArray} (h:1≤s.size):(s.toList != [])=true:=by
 have e:=mB s;rw [decide_eq_false lf] at e;cases hl:s.toList with
 | nil=>rw [hl] at e;cases e
 | cons a l=>rfl
theorem eW {s:ByteArray} (h:1≤s.size):s.toList.isEmpty=false:=by
 rw [mB];exact decide_eq_false lf
theorem eE (s:ByteArray) (h:s.size≤16) (w:yv) :
 zj prog 189 #[yw s] w fun e w'=>e=zg (.bool true)∧w=w':=by
 go_enter func189,ntmps189;go_wp2;go_ret;exact ⟨aN lq,rfl⟩
theorem kZ (s:ByteArray) (h:¬ s.size≤16) (w:yv) :
 zj prog 189 #[yw s] w fun e w'=>e=zg (.bool false)∧w=w':=by
 go_enter func189,ntmps189;go_wp2;go_ret;exact ⟨aN lq,rfl⟩
set_option maxHeartbeats 400000 in
theorem eT (s:ByteArray) (hs:s.size≤zd) (w:yv) :
 zj prog 188 #[yw s] w fun e w'=>e=zg (.bool (oe s))∧Below w w w':=by
 have hv:=eC s hs;by_cases h1:1≤s.size
 ·have t1:=lG h1;have t2:=eW h1;by_cases h2:s.size≤16
  ·rw [MO s h1 h2];have c1:=eE s h2;obtain ⟨b,hb⟩:∃ b,oa s.data.toList=b:=⟨_,rfl⟩;rw [hb] at hv ⊢;have HV:=hid hv;have C1:=hid c1;clear hv hb c1;go_enter func188,ntmps188;go_wp2_with fail;refine (C1.out _).mono ?_;rintro e w' ⟨rfl,rfl⟩;go_wp2_with fail;refine (HV.out _).mono ?_;rintro e w' ⟨rfl,aa⟩;go_wp2;go_ret;exact ⟨aN lh,aa⟩
  ·rw [GZ s h2];have c1:=kZ s h2;have C1:=hid c1;clear hv c1;go_enter func188,ntmps188;go_wp2_with fail;refine (C1.out _).mono ?_;rintro e w' ⟨rfl,rfl⟩;go_wp2;go_ret;exact ⟨aN lh,Below.refl _ _⟩
 ·rw [DT s h1];obtain rfl:=mJ (s:=s) lf;clear hv h1;go_enter func188,ntmps188;go_wp2;go_ret;exact ⟨aN lh,Below.refl _ _⟩
set_option maxHeartbeats 400000 in
theorem LP (s:ByteArray) (hs:s.size≤1000000) (w:yv) :
 zj prog 190 #[yw s] w fun e w'=>e=zg (.tuple #[yw (s.extract 0 (qg s)),yw (s.extract (qg s) s.size)])∧Below w w w':=by
 have hb:=jY s ln ((s.size:Int) - (s.size:Int) / 2);have e:mi s.data.toList ((s.size:Int) - (s.size:Int) / 2)=qg s:=by
  rw [show (s.size:Int) - (s.size:Int) / 2=(((s.size+1) / 2:Nat):Int) by omega,lJ _ _ lq];rfl
 rw [e] at hb;have hn:=pA s;obtain ⟨n,hh⟩:∃ n,qg s=n:=⟨_,rfl⟩;rw [hh] at hb hn ⊢;have HB:=hid hb;clear hb hh e;go_enter func190,ntmps190;go_wp2_with fail;refine (HB.out _).mono ?_;rintro e w' ⟨rfl,rfl⟩;go_wp2;go_quiet (fail);go_wp2;go_ret2;exact ⟨rfl,aB (Below.refl _ _) _⟩
theorem uM (h:¬ (oe a=true∧oe b=true)):rg a b=[]:=by unfold rg;rw [if_neg h]
theorem MN (h:oe a=true∧oe b=true) (h1:(a++b).size≤16):rg a b=[a++b]:=by unfold rg;rw [if_pos h,if_pos h1]
theorem EU (h:oe a=true∧oe b=true) (h1:¬ (a++b).size≤16) (h2:oe ((a++b).extract 0 (qg (a++b)))=true∧oe ((a++b).extract (qg (a++b)) (a++b).size)=true) :
 rg a b=[(a++b).extract 0 (qg (a++b)),(a++b).extract (qg (a++b)) (a++b).size]:=by unfold rg;rw [if_pos h,if_neg h1,if_pos h2]
theorem GR (h:oe a=true∧oe b=true) (h1:¬ (a++b).size≤16) (h2:¬ (oe ((a++b).extract 0 (qg (a++b)))=true∧oe ((a++b).extract (qg (a++b)) (a++b).size)=true)) :
 rg a b=[a,b]:=by unfold rg;rw [if_pos h,if_neg h1,if_neg h2]
theorem qF {w':yv} (h:Below w w w'):sj w [] (zg (zh none 0 0)) w':=⟨none,0,rfl,fun k hk=>absurd hk lh,h⟩
theorem QA {w1:yv} {x:ByteArray} (h:Below w w w1):sj w [x] (zg (zh (some ⟨w1,0,none⟩) 1 1)) (w1.alloc (.cells #[yw x] t)):=
 ⟨_,1,rfl,MM (Below.refl _ _),h.alloc h.size _⟩
theorem oN {w1:yv} {x y:ByteArray} (h:Below w w w1):sj w [x,y] (zg (zh (some ⟨w1,0,none⟩) 2 2)) (w1.alloc (.cells #[yw x,yw y] t)):=
 ⟨_,2,rfl,KQ (Below.refl _ _),h.alloc h.size _⟩
set_option maxHeartbeats 800000 in
theorem uC (a b:ByteArray) (ha:a.size≤1000000) (hb:b.size≤1000000) (w:yv) :
 zj prog 163 #[yw a,yw b] w (sj w (rg a b)):=by
 have ca:=eT a (by first|omega|(unfold zd;omega));have cb:=eT b (by first|omega|(unfold zd;omega));have ac:=Below.refl w w;by_cases h1:oe a=true
 ·by_cases h2:oe b=true
  ·have s1:=((aQ _).1 h1).2.1;have s2:=((aQ _).1 h2).2.1;have hz:(a++b).size=a.size+b.size:=zs;by_cases h3:(a++b).size≤16
   ·rw [MN ⟨h1,h2⟩ h3];rw [h1] at ca;rw [h2] at cb;have d1:a.size+b.size≤16:=lf;have d2:(a.size:Int)+(b.size:Int)≤16:=lf;have CA:=hid ca;have CB:=hid cb;have CS:=hid (eE (a++b) h3);clear ca cb h1 h2 h3 hz;go_enter func163,ntmps163;go_wp2_with fail;refine (my (w0:=w) ac (CA.out _)).mono ?_;rintro e w1 ⟨rfl,aa⟩;go_wp2_with fail;refine (my (w0:=w) aa (CB.out _)).mono ?_;rintro e w2 ⟨rfl,ab⟩;go_wp2_with fail;refine (CS.out _).mono ?_;rintro e w9 ⟨rfl,rfl⟩;go_wp2;go_ret;exact QA ab
   ·have ch:=LP (a++b) lf;have hx:=bF (a++b) (qg (a++b)) (pA _);have hy:=cL (a++b) (qg (a++b));have hn:=pA (a++b);have cx:=eT ((a++b).extract 0 (qg (a++b))) (by first|omega|(unfold zd;omega));have cy:=eT ((a++b).extract (qg (a++b)) (a++b).size) (by first|omega|(unfold zd;omega));have j1:=fun h=>EU ⟨h1,h2⟩ h3 h;have j2:=fun h=>GR ⟨h1,h2⟩ h3 h;obtain ⟨x,hxx⟩:∃ x,(a++b).extract 0 (qg (a++b))=x:=⟨_,rfl⟩;obtain ⟨y,hyy⟩:∃ y,(a++b).extract (qg (a++b)) (a++b).size=y:=⟨_,rfl⟩;simp only [hxx] at ch cx j1 j2;simp only [hyy] at ch cy j1 j2;rw [h1] at ca;rw [h2] at cb;have d1:¬ a.size+b.size≤16:=lf;have d2:¬ (a.size:Int)+(b.size:Int)≤16:=lf;have CA:=hid ca;have CB:=hid cb;have CH:=hid ch;have CS:=hid (kZ (a++b) h3);clear ca cb ch h1 h2 h3 hz hx hy hn hxx hyy;by_cases g1:oe x=true
    ·rw [g1] at cx;by_cases g2:oe y=true
     ·rw [j1 ⟨g1,g2⟩];rw [g2] at cy;have CX:=hid cx;have CY:=hid cy;clear cx cy g1 g2 j1 j2;go_enter func163,ntmps163;go_wp2_with fail;refine (my (w0:=w) ac (CA.out _)).mono ?_;rintro e w1 ⟨rfl,aa⟩;go_wp2_with fail;refine (my (w0:=w) aa (CB.out _)).mono ?_;rintro e w2 ⟨rfl,ab⟩;go_wp2_with fail;refine (CS.out _).mono ?_;rintro e w9 ⟨rfl,rfl⟩;go_wp2_with fail;refine (my (w0:=w) ab (CH.out _)).mono ?_;rintro e w3 ⟨rfl,ad⟩;go_wp2_with fail;refine (my (w0:=w) ad (CX.out _)).mono ?_;rintro e w4 ⟨rfl,ae⟩;go_wp2_with fail;refine (my (w0:=w) ae (CY.out _)).mono ?_;rintro e w5 ⟨rfl,af⟩;go_wp2;go_ret;exact oN af
     ·rw [j2 (fun h=>g2 h.2)];rw [zk.2 g2] at cy;have CX:=hid cx;have CY:=hid cy;clear cx cy g1 g2 j1 j2;go_enter func163,ntmps163;go_wp2_with fail;refine (my (w0:=w) ac (CA.out _)).mono ?_;rintro e w1 ⟨rfl,aa⟩;go_wp2_with fail;refine (my (w0:=w) aa (CB.out _)).mono ?_;rintro e w2 ⟨rfl,ab⟩;go_wp2_with fail;refine (CS.out _).mono ?_;rintro e w9 ⟨rfl,rfl⟩;go_wp2_with fail;refine (my (w0:=w) ab (CH.out _)).mono ?_;rintro e w3 ⟨rfl,ad⟩;go_wp2_with fail;refine (my (w0:=w) ad (CX.out _)).mono ?_;rintro e w4 ⟨rfl,ae⟩;go_wp2_with fail;refine (my (w0:=w) ae (CY.out _)).mono ?_;rintro e w5 ⟨rfl,af⟩;go_wp2;go_ret;exact oN af
    ·rw [j2 (fun h=>g1 h.1)];rw [zk.2 g1] at cx;have CX:=hid cx;clear cx cy g1 j1 j2;go_enter func163,ntmps163;go_wp2_with fail;refine (my (w0:=w) ac (CA.out _)).mono ?_;rintro e w1 ⟨rfl,aa⟩;go_wp2_with fail;refine (my (w0:=w) aa (CB.out _)).mono ?_;rintro e w2 ⟨rfl,ab⟩;go_wp2_with fail;refine (CS.out _).mono ?_;rintro e w9 ⟨rfl,rfl⟩;go_wp2_with fail;refine (my (w0:=w) ab (CH.out _)).mono ?_;rintro e w3 ⟨rfl,ad⟩;go_wp2_with fail;refine (my (w0:=w) ad (CX.out _)).mono ?_;rintro e w4 ⟨rfl,ae⟩;go_wp2;go_ret;exact oN ae
  ·rw [uM (fun h=>h2 h.2)];rw [h1] at ca;rw [zk.2 h2] at cb;have CA:=hid ca;have CB:=hid cb;clear ca cb h1 h2;go_enter func163,ntmps163;go_wp2_with fail;refine (my (w0:=w) ac (CA.out _)).mono ?_;rintro e w1 ⟨rfl,aa⟩;go_wp2_with fail;refine (my (w0:=w) aa (CB.out _)).mono ?_;rintro e w2 ⟨rfl,ab⟩;go_wp2;go_ret;exact qF ab
 ·rw [uM (fun h=>h1 h.1)];rw [zk.2 h1] at ca;have CA:=hid ca;clear ca cb h1;go_enter func163,ntmps163;go_wp2_with fail;refine (my (w0:=w) ac (CA.out _)).mono ?_;rintro e w1 ⟨rfl,aa⟩;go_wp2;go_ret;exact qF aa
end Go.Proofs.YtbagenpobcgjnaaGreat
namespace Go.Proofs.YtbagenpobcgjnaaGreat
open Go.Proofs.Tryz
open Go.RowKit Go.ChangeShapes Go.WideShapes Go.Deep
set_option linter.unusedVariables false
structure l8 where
 name:ByteArray
 p:Int
def l8.fits (x:l8):Prop:=x.name.size≤zd∧(-9223372036854775808≤x.p∧x.p≤9223372036854775807)
abbrev l8.v (x:l8):yz:=.agg #[yw x.name,ze .i64 x.p]
def o7 (w:yv) (B:Nat→Prop) (a:Option yy) (l:List l8):Prop:=
 ∀ (k:Nat) (h:k<l.length),∃ ad,a=some ad∧B ad.block∧w (ad.add (k * 2))=some (yw (l[k]).name)∧w ⟨(ad.add (k * 2)).block,(ad.add (k * 2)).off+1,none⟩=some (ze .i64 (l[k]).p)
theorem o7.keep {w':yv} {B:Nat→Prop} {a:Option yy} {l:List l8} (h:o7 w B a l) (hk:∀ p:yy,B p.block→w' p=w p):o7 w' B a l:=fun k hl=>by
 obtain ⟨ad,e,hb,q0,q1⟩:=h k hl;exact ⟨ad,e,hb,(hk _ (by rw [show (ad.add (k * 2)).block=ad.block by unfold zi;split <;> rfl];exact hb)).trans q0,(hk _ (by show B (ad.add (k * 2)).block;rw [show (ad.add (k * 2)).block=ad.block by unfold zi;split <;> rfl];exact hb)).trans q1⟩
theorem o7.below {w':yv} {B:Nat→Prop} {N:Nat} {a:Option yy} {l:List l8} (h:o7 w B a l) (hN:∀ b,B b→b<N) (hb:Below N w w'):o7 w' B a l:=h.keep fun _ hp=>hb.cell (hN _ hp)
theorem o7.more {w:yv} {B B':Nat→Prop} {a:Option yy} {l:List l8} (h:o7 w B a l) (hB:∀ b,B b→B' b):o7 w B' a l:=fun k hl=>by
 obtain ⟨ad,e,hb,h1⟩:=h k hl;exact ⟨ad,e,hB _ hb,h1⟩
section
variable {H : Type} {enc : TypeId × Value → H} {w : World} {base : Nat} {spare : Nat → Bool} {held : Bool}
theorem rJ:prog.cellsOf 90=2:=lg
end
def l8.flat (l:List l8):List yz:=l.flatMap fun x=>[yw x.name,ze .i64 x.p]
theorem l8.flat_len (l:List l8):(l8.flat l).length=l.length * 2:=by
 unfold l8.flat
 induction l with
 | nil=>rfl
 | cons a r ih=>rw [List.flatMap_cons,List.length_append,ih];simp;omega
theorem l8.flat_app (a b:List l8):l8.flat (a++b)=l8.flat a++l8.flat b:=by simp [l8.flat]
theorem l8.flat_get (l:List l8) (k:Nat) (h:k<l.length):(l8.flat l)[k * 2]? = some (yw (l[k]'h).name)∧(l8.flat l)[k * 2+1]? = some (ze .i64 (l[k]'h).p):=by
 induction l generalizing k with
 | nil=>simp at h
 | cons a r ih =>
  have e:l8.flat (a::r)=([yw a.name,ze .i64 a.p]:List yz)++l8.flat r:=by simp [l8.flat]
  rw [e]
  match k,h with
  | 0,_=>simp
  | k+1,h =>
   have hr:=ih k (by simpa using h);rw [show (k+1) * 2=([yw a.name,ze .i64 a.p]:List yz).length+k * 2 from lq];simp only [zn,List.getElem?_append_right (Nat.le_add_right _ _),Nat.add_sub_cancel_left];exact hr
theorem dK:(prog.info? 90).map (fun i=>(i.zero,i.size,i.bytes))=some (some (.agg #[yw zm,ze .i64 0]),2,24):=lg
theorem aW (w:yv) (name:ByteArray) (p:Int) (t:TypeId):∀ j u,([yw name,ze .i64 p]:List yz)[j]? = some u→(w.alloc (.cells #[yw name,ze .i64 p] t)) ((⟨w,0,none⟩:yy).add j)=some u:=by
 intro j u hj
 match j,hj with
 | 0,hj=>simp at hj;subst hj;simp [zi]
 | 1,hj=>simp at hj;subst hj;simp [zi,World.cell?_alloc_new]
theorem aY (name:ByteArray) (p:Int):∀ u∈([yw name,ze .i64 p]:List yz),u.oneCell'=true:=by
 intro u hu;simp at hu;rcases hu with rfl|rfl <;> rfl
theorem uW {v:yz} {l:List l8} (h:w.ownsRow base t 2 v l.length (l8.flat l)):∃ a c,v=zh a l.length c∧o7 w (fun b=>base≤b∧b<w) a l:=by
 rcases h.2 with ⟨rfl,h0⟩|⟨g,cap,cur,rfl,hgb,hg,_⟩
 ·exact ⟨none,0,by rw [h0],fun k hk=>absurd hk lf⟩
 ·refine ⟨_,_,rfl,fun k hk=>⟨_,rfl,⟨hgb,(h.lt g rfl).2⟩,?_,?_⟩⟩
  ·exact h.cells (g:=g) rfl (k * 2) _ (l8.flat_get l k hk).1
  ·have:=h.cells (g:=g) rfl (k * 2+1) _ (l8.flat_get l k hk).2;have e:(⟨((⟨g,0,none⟩:yy).add (k * 2)).block,((⟨g,0,none⟩:yy).add (k * 2)).off+1,none⟩:yy)=(⟨g,0,none⟩:yy).add (k * 2+1):=by
    unfold zi;by_cases hk0:k * 2=0 <;> simp [hk0]
   rw [e];exact this
structure sx (w:yv) (base:Nat) (a:Option yy) (l:List l8) (c:Nat):Prop where
 row:o7 w (fun b=>base≤b∧b<w) a l
 nil:a=none→c=0
 le:l.length≤c
 cap:c≤zd
theorem sx.more {w:yv} {base b2:Nat} {a:Option yy} {l:List l8} {c:Nat} (h:sx w base a l c) (hb:b2≤base):sx w b2 a l c:=⟨h.row.more fun b hb2=>⟨zo hb hb2.1,hb2.2⟩,h.nil,h.le,h.cap⟩
theorem sx.none (w:yv) (base:Nat):sx w base .none [] 0:=⟨fun k hk=>absurd hk lh,fun _=>rfl,Nat.le_refl _,Nat.zero_le _⟩
theorem cK {v:yz} {l:List l8} (h:w.ownsRow base t 2 v l.length (l8.flat l)):∃ a c,v=zh a l.length c∧sx w base a l c:=by
 obtain ⟨a,c,e,hr⟩:=uW h;refine ⟨a,c,e,hr,?_,?_,?_⟩
 ·intro hn;rcases h.2 with ⟨rfl,h0⟩|⟨g,cap,cur,rfl,-⟩
  ·injection e with _ _ e3;exact e3.symm
  ·injection e with e1;rw [hn] at e1;cases e1
 ·rcases h.2 with ⟨rfl,h0⟩|⟨g,cap,cur,rfl,_,_,hnc,_⟩
  ·injection e with _ e2 e3;omega
  ·injection e with _ _ e3;omega
 ·rcases h.2 with ⟨rfl,h0⟩|⟨g,cap,cur,rfl,_,_,hnc,hcm,_⟩
  ·injection e with _ e2 e3;unfold zd;omega
  ·injection e with _ _ e3;omega
def sa (w:yv) (l:List l8) (e:Ending) (w':yv):Prop:=∃ a c,e=zg (zh a l.length c)∧sx w' w a l c∧Below w w w'
end Go.Proofs.YtbagenpobcgjnaaGreat
namespace Go.Proofs.YtbagenpobcgjnaaGreat
open Go.RowKit
set_option linter.unusedVariables false
instance :Inhabited l7:=⟨⟨0,zm,zm⟩⟩
structure mo where
 a:Option yy
 l:List l7
 c:Nat
instance :Inhabited mo:=⟨⟨none,[],0⟩⟩
def mo.v (x:mo):yz:=zh x.a x.l.length x.c
structure o4 (w:yv) (x:mo):Prop where
 row:qd w (·<w) x.a x.l
 nil:x.a=none→x.c=0
theorem o4.len {x:mo} (h:o4 w x) (hn:x.a=none):x.l=[]:=by
 cases hl:x.l with
 | nil=>rfl
 | cons y r =>
  obtain ⟨ad,e,-⟩:=h.row 0 (by rw [hl];simp);rw [hn] at e;cases e
theorem tj {l:List l7} {k:Nat} (h:k<l.length):l[k]! = l[k]:=getElem!_pos l k h
theorem rT (ad:yy) (k i:Nat) (h:0<i):(⟨(ad.add (k * 3)).block,(ad.add (k * 3)).off+i,none⟩:yy)=ad.add (k * 3+i):=by
 unfold zi;by_cases hk:k * 3=0
 ·rw [if_pos hk,if_neg lf,hk,Nat.zero_add]
 ·rw [if_neg hk,if_neg lf];show (⟨ad.block,ad.off+k * 3+i,none⟩:yy)=⟨ad.block,ad.off+(k * 3+i),none⟩;rw [zn]
theorem lP {B:Nat→Prop} {ad:yy} {l:List l7} (h:qd w B (some ad) l):∀ j u,(l7.flat l)[j]? = some u→w (ad.add j)=some u:=fun j u hj=>by
 have hlt:j<l.length * 3:=by
  rcases Nat.lt_or_ge j (l.length * 3) with g|g
  ·exact g
  ·rw [List.getElem?_eq_none (by rw [l7.flat_len];exact g)] at hj;cases hj
 obtain ⟨ad',e,-,q0,q1,q2⟩:=h (j / 3) lf;obtain rfl:ad=ad':=by injection e
 obtain ⟨g0,g1,g2⟩:=l7.flat_get l (j / 3) lf;rcases (show j=j / 3 * 3∨j=j / 3 * 3+1∨j=j / 3 * 3+2 by omega) with g|g|g
 ·rw [g] at hj ⊢;rw [g0] at hj;rw [q0];exact hj
 ·rw [g] at hj ⊢;rw [g1] at hj;rw [← rT _ _ _ li,q1];exact hj
 ·rw [g] at hj ⊢;rw [g2] at hj;rw [← rT _ _ _ li,q2];exact hj
theorem mC (l:List l7):∀ u∈l7.flat l,u.oneCell'=true:=fun u hu=>by
 unfold l7.flat at hu;obtain ⟨x,-,hx⟩:=List.mem_flatMap.1 hu;exact mV _ _ _ u hx
structure rm (w:yv) (base:Nat) (x:mo):Prop where
 row:qd w (fun b=>base≤b∧b<w) x.a x.l
 nil:x.a=none→x.c=0
 le:x.l.length≤x.c
 cap:x.c≤zd
theorem dH {v:yz} {l:List l7} (h:w.ownsRow base t 3 v l.length (l7.flat l)):∃ a c,v=zh a l.length c∧rm w base ⟨a,l,c⟩:=by
 obtain ⟨a,c,e,hr⟩:=LI h;refine ⟨a,c,e,hr,?_,?_,?_⟩
 ·intro hn;have hn:a=none:=hn;rcases h.2 with ⟨rfl,h0⟩|⟨g,cap,cur,rfl,-⟩
  ·injection e with _ _ e3;exact e3.symm
  ·injection e with e1;rw [hn] at e1;cases e1
 ·show l.length≤c;rcases h.2 with ⟨rfl,h0⟩|⟨g,cap,cur,rfl,_,_,hnc,_⟩
  ·injection e with _ e2 e3;omega
  ·injection e with _ _ e3;omega
 ·show c≤zd;rcases h.2 with ⟨rfl,h0⟩|⟨g,cap,cur,rfl,_,_,hnc,hcm,_⟩
  ·injection e with _ e2 e3;unfold zd;omega
  ·injection e with _ _ e3;omega
theorem rm.in {x:mo} (h:rm w base x):o4 w x:=⟨h.row.more fun _ hb=>hb.2,h.nil⟩
theorem rm.below {W:yv} {x:mo} (h:rm w base x) (hb:Below w w W):rm W base x:=
 ⟨(h.row.below (fun _ h=>h.2) hb).more fun _ aa=>⟨aa.1,zp aa.2 hb.size⟩,h.nil,h.le,h.cap⟩
theorem rm.mono {b2:Nat} {x:mo} (h:rm w base x) (hb:b2≤base):rm w b2 x:=⟨h.row.more fun _ hb2=>⟨zo hb hb2.1,hb2.2⟩,h.nil,h.le,h.cap⟩
def yf (w:yv) (l:List l7) (e:Ending) (w':yv):Prop:=∃ a c,e=zg (zh a l.length c)∧rm w' w ⟨a,l,c⟩∧Below w w w'
theorem o4.later {W:yv} {x:mo} (h:o4 w x) (hb:Below w w W):o4 W x:=⟨(h.row.below (fun _ h=>h) hb).more fun b hb2=>zp hb2 hb.size,h.nil⟩
theorem o4.empty (w:yv):o4 w ⟨.none,[],0⟩:=⟨fun k hk=>absurd hk lh,fun _=>rfl⟩
def r6 (ps:List mo):Nat:=(ps.map fun x=>x.l.length).sum
def sr (ps:List mo):List l7:=ps.flatMap fun x=>x.l
theorem og {ps:List mo} {k:Nat} (h:k<ps.length):ps[k]! = ps[k]:=getElem!_pos ps k h
theorem eptake (ps:List mo) (k:Nat) (h:k<ps.length):ps.take (k+1)=ps.take k++[ps[k]!]:=by
 rw [List.take_succ_eq_append_getElem h,og h]
theorem pI (ps:List mo) (k:Nat) (h:k<ps.length):r6 (ps.take (k+1))=r6 (ps.take k)+(ps[k]!).l.length:=by
 unfold r6;rw [eptake ps k h,zq,zr];simp
theorem AR (ps:List mo) (k:Nat) (h:k<ps.length):sr (ps.take (k+1))=sr (ps.take k)++(ps[k]!).l:=by
 unfold sr;rw [eptake ps k h,List.flatMap_append];simp
theorem IT (ps:List mo):(sr ps).length=r6 ps:=by
 unfold sr r6;rw [List.length_flatMap]
theorem jH (ps:List mo) (k:Nat):r6 (ps.take k)≤r6 ps:=by
 have e:=congrArg r6 (List.take_append_drop k ps);unfold r6 at e ⊢;rw [zq,zr] at e;omega
end Go.Proofs.YtbagenpobcgjnaaGreat
