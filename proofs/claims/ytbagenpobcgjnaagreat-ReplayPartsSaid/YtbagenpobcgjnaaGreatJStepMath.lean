/-
  Joined: StepMath, EditCat.
-/
import Derived.Test.YtbagenpobcgjnaaGreatJUtfRTake
import Derived.Test.YtbagenpobcgjnaaGreatJMrk
import Derived.Laws.OwnMore
import Derived.Test.YtbagenpobcgjnaaGreatEditShelf
import Derived.Laws.AppendOwnNone
variable {s t:ByteArray}
namespace Go.Proofs.YtbagenpobcgjnaaGreat
open Go.RowKit
def runE (t:ByteArray):List Edt→ByteArray×Int
 | []=>(t,0)
 | x::r=>if (appE t x.p x.o x.n).2=0 then runE (appE t x.p x.o x.n).1 r else (⟨#[]⟩,(appE t x.p x.o x.n).2)
theorem dJ (t:ByteArray):runE t []=(t,0):=rfl
theorem dX {x:Edt} {r:List Edt} (h:appE t x.p x.o x.n=(s,0)):runE t (x::r)=runE s r:=by
 show (if (appE t x.p x.o x.n).2=0 then _ else _)=_
 rw [h,if_pos rfl]
theorem hG {e:Int} {x:Edt} {r:List Edt} (h:appE t x.p x.o x.n=(s,e)) (he:e≠0):runE t (x::r)=(⟨#[]⟩,e):=by
 show (if (appE t x.p x.o x.n).2=0 then _ else _)=_
 rw [h,if_neg he]
theorem cE {o n:ByteArray} {p:Int} (h:appE t p o n=(s,0)):s.size≤4096:=by
 obtain ⟨k,rfl,hk,ho,-,-,-,-,hl,rfl⟩:=kZ h
 have hle:=gJ hk ho
 rw [ByteArray.size_append,ByteArray.size_append,ByteArray.size_extract,ByteArray.size_extract]
 omega
theorem FU {l:List Edt} (h:runE t l=(s,0)):s.size≤max t.size 4096:=by
 induction l generalizing t with
 | nil =>
  rw [dJ] at h
  obtain rfl:t=s:=congrArg Prod.fst h
  omega
 | cons x r ih =>
  obtain ⟨⟨u,e⟩,hu⟩:∃ y,appE t x.p x.o x.n=y:=⟨_,rfl⟩
  by_cases he:e=0
  ·subst he
   rw [dX hu] at h
   have:=ih h
   have:=cE hu
   omega
  ·rw [hG hu he] at h
   exact absurd (congrArg Prod.snd h) he
theorem tE (t:ByteArray) (a b:List Edt):runE t (a++b)=if (runE t a).2=0 then runE (runE t a).1 b else (⟨#[]⟩,(runE t a).2):=by
 induction a generalizing t with
 | nil=>rw [List.nil_append,dJ,if_pos rfl]
 | cons x r ih =>
  obtain ⟨⟨u,e⟩,hu⟩:∃ y,appE t x.p x.o x.n=y:=⟨_,rfl⟩
  rw [List.cons_append]
  by_cases he:e=0
  ·subst he
   rw [dX hu,dX hu,ih]
  ·rw [hG hu he,hG hu he,if_neg he]
def rightS (t:ByteArray) (l:List Edt):Bool:=decide (1≤l.length) && decide (l.length≤32) && ((runE t l).2 == 0)
theorem BE {l:List Edt} (h:l.length<1):rightS t l=false:=by unfold rightS;rw [decide_eq_false (by omega)];rfl
theorem vS {l:List Edt} (h:32<l.length):rightS t l=false:=by unfold rightS;rw [decide_eq_false (p:=l.length≤32) (by omega),Bool.and_false];rfl
theorem AU {l:List Edt} (h:1≤l.length) (h2:l.length≤32):rightS t l=((runE t l).2 == 0):=by unfold rightS;rw [decide_eq_true h,decide_eq_true h2];rfl
def Edt.back (x:Edt):Edt:=⟨x.p,x.n,x.o⟩
def invL (l:List Edt):List Edt:=(l.map Edt.back).reverse
theorem aF (l:List Edt):(invL l).length=l.length:=by unfold invL;rw [List.length_reverse,List.length_map]
theorem LF (l:List Edt) (k:Nat) (h:k<l.length):(invL l)[k]? = some (l[l.length - 1 - k]!).back:=by
 unfold invL
 rw [List.getElem?_reverse (by rw [List.length_map];exact h),List.length_map,List.getElem?_map,List.getElem?_eq_getElem (by omega),eget (by omega)]
 rfl
theorem GE (l:List Edt) (k:Nat) (h:k<l.length):(invL l).take (k+1)=(invL l).take k++[(l[l.length - 1 - k]!).back]:=by
 rw [List.take_add_one,LF l k h]
 rfl
theorem LM (l:List Edt):(invL l).take l.length=invL l:=List.take_of_length_le (by rw [aF];exact Nat.le_refl _)
def addS (l:List Edt) (x:Edt):List Edt×Int:=if 32≤l.length then ([],9) else (l++[x],0)
def nilE:Edt:=⟨0,ByteArray.empty,ByteArray.empty⟩
def mixE (l:List Edt) (k:Nat):List Edt:=(invL l).take k++List.replicate (l.length - k) nilE
theorem JS (l:List Edt) (k:Nat) (h:k≤l.length):(mixE l k).length=l.length:=by
 unfold mixE
 rw [List.length_append,List.length_take,List.length_replicate,aF]
 omega
theorem QL (l:List Edt) (k:Nat) (h:k<l.length):(mixE l k)[k]! = nilE:=by
 unfold mixE
 have hl:((invL l).take k).length=k:=by rw [List.length_take,aF];omega
 rw [getElem!_def,List.getElem?_append_right (by omega),hl,Nat.sub_self,List.getElem?_replicate,if_pos (by omega)]
theorem DP (l:List Edt) (k:Nat) (h:k<l.length):mixE l (k+1)=(mixE l k).set k (l[l.length - 1 - k]!).back:=by
 unfold mixE
 have hl:((invL l).take k).length=k:=by rw [List.length_take,aF];omega
 rw [GE l k h,List.set_append_right _ _ (by omega),hl,Nat.sub_self,List.append_assoc]
 congr 1
 rw [show l.length - k=(l.length - (k+1))+1 by omega,List.replicate_succ,List.set_cons_zero]
 rfl
theorem IJ (l:List Edt):mixE l l.length=invL l:=by
 unfold mixE
 rw [LM,Nat.sub_self]
 simp
theorem fN (x:Edt) (r:List Edt):Edt.flat (x::r)=.int .i64 x.p::.string x.o::.string x.n::Edt.flat r:=by simp [Edt.flat]
theorem CZ (l:List Edt) (k:Nat) (x:Edt) (h:k<l.length):(((Edt.flat l).set (k * 3) (.int .i64 x.p)).set (k * 3+1) (.string x.o)).set (k * 3+2) (.string x.n)=Edt.flat (l.set k x):=by
 induction l generalizing k with
 | nil=>simp at h
 | cons a r ih =>
  cases k with
  | zero =>
   rw [List.set_cons_zero,fN,fN]
   rfl
  | succ k =>
   have e2:(a::r).set (k+1) x=a::r.set k x:=rfl
   rw [e2,fN,fN,← ih k (by simpa using h),show (k+1) * 3+2=k * 3+2+1+1+1 by omega,show (k+1) * 3+1=k * 3+1+1+1+1 by omega,show (k+1) * 3=k * 3+1+1+1 by omega]
   rfl
theorem emade (n:Nat):(madeCells #[.int .i64 0,.string ByteArray.empty,.string ByteArray.empty] (n * 3)).toList=Edt.flat (List.replicate n nilE):=by
 refine List.ext_getElem? fun j=>?_
 rcases Nat.lt_or_ge j (n * 3) with g|g
 ·obtain ⟨g0,g1,g2⟩:=Edt.flat_get (List.replicate n nilE) (j / 3) (by rw [List.length_replicate];omega)
  rw [List.getElem_replicate] at g0 g1 g2
  have e:(madeCells #[.int .i64 0,.string ByteArray.empty,.string ByteArray.empty] (n * 3)).toList[j]? = some ((#[.int .i64 0,.string ByteArray.empty,.string ByteArray.empty]:Array Value)[j % 3]!):=by
   unfold madeCells
   simp [g]
  rw [e]
  rcases (show j=j / 3 * 3∨j=j / 3 * 3+1∨j=j / 3 * 3+2 by omega) with q|q|q
  ·rw [show j % 3=0 by omega,q,g0];rfl
  ·rw [show j % 3=1 by omega,q,g1];rfl
  ·rw [show j % 3=2 by omega,q,g2];rfl
 ·rw [List.getElem?_eq_none (by simp [madeCells];exact g),List.getElem?_eq_none (by rw [Edt.flat_len,List.length_replicate];exact g)]
theorem edrop (l:List Edt) (k:Nat) (h:k<l.length):l.drop k=l[k]! :: l.drop (k+1):=by rw [List.drop_eq_getElem_cons h,eget h]
instance :DecidableEq Edt:=fun x y=>if h:x.p=y.p∧x.o=y.o∧x.n=y.n then isTrue (by cases x;cases y;simp at h;simp [h]) else isFalse (fun e=>h (by rw [e];exact ⟨rfl,rfl,rfl⟩))
theorem zJ {a b:List Edt} {k:Nat} (h:∀ j,j<k→a[j]! = b[j]!):a[k]! = b[k]! → ∀ j,j<k+1→a[j]! = b[j]! :=fun e j hj=>by
 rcases Nat.lt_or_ge j k with g|g
 ·exact h j g
 ·obtain rfl:j=k:=by omega
  exact e
theorem GK {a b:List Edt} (hl:a.length=b.length) (h:∀ j,j<a.length→a[j]! = b[j]!):a=b:=by
 refine List.ext_getElem hl fun j h1 h2=>?_
 have:=h j h1
 rwa [eget h1,eget h2] at this
theorem ON {x y:Edt} (h:¬ x=y):¬ x.p=y.p∨(x.p=y.p∧¬ x.o=y.o)∨(x.p=y.p∧x.o=y.o∧¬ x.n=y.n):=by
 obtain ⟨p,o,n⟩:=x
 obtain ⟨p2,o2,n2⟩:=y
 by_cases h1:p=p2
 ·by_cases h2:o=o2
  ·refine .inr (.inr ⟨h1,h2,fun h3=>h ?_⟩)
   have h3:n=n2:=h3
   rw [h1,h2,h3]
  ·exact .inr (.inl ⟨h1,h2⟩)
 ·exact .inl h1
end Go.Proofs.YtbagenpobcgjnaaGreat
namespace Go.Proofs.YtbagenpobcgjnaaGreat
open Go.Proofs.Tryz
set_option maxRecDepth 100000
open Lib (hid)
open Go.Shelf Go.RowKit
set_option linter.unusedVariables false
set_option maxHeartbeats 800000 in
theorem GI (n:Nat) (hn:n≤1000000) (w:World):Calls prog 213 #[.slice none 0 0,.int .i64 n] w fun e w'=>∃ v,e=.returned v∧w'.ownsRow w.heap.size 92 3 v 0 []∧Below w.heap.size w w':=by
 obtain ⟨i0,hi,aa,ab,ac⟩:=info_parts jA
 rcases Nat.eq_zero_or_pos n with rfl|hp
 ·have h:=Any8.slices_Grow_room Tryz.mkGrowE none 0 0 0 w (Nat.le_refl _) (by omega) (by omega) (by omega)
  change Calls prog 213 _ _ _ at h
  refine h.mono ?_
  rintro e w' ⟨rfl,rfl⟩
  exact ⟨_,rfl,World.ownsRow_nil _ _ _ _,Below.refl _ _⟩
 ·have h:=Any8.slices_Grow_grow Tryz.mkGrowE i0 _ hi aa (by rw [ab];decide) none 0 0 n [] w (Nat.le_refl _) (by omega) (by rw [ac];omega) (by omega) (by simp) (fun _=>rfl) (fun a e=>by cases e)
  change Calls prog 213 _ _ _ at h
  refine h.mono ?_
  rintro e w' ⟨rfl,rfl⟩
  have hge:=grownCap_ge w (0+n) 0 (Tryz.mkGrowE_ren.t 25)
  have hle:=grownCap_le_maxLen w (0+n) 0 (Tryz.mkGrowE_ren.t 25) (by unfold maxLen;omega)
  refine ⟨_,rfl,World.ownsRow_made w.drew _ _ (Nat.le_refl _) hle ?_,((Below.refl w.heap.size w).drew).alloc (Nat.le_refl _) _⟩
  simp only [Nat.zero_add] at hge ⊢
  simp [Builtin.zeroCells,Value.cells]
  omega
set_option maxHeartbeats 1600000 in
theorem vI (r:Nat) (ps:List EPc) (w:World) (hr:r<w.heap.size) (hps:∀ k,k<ps.length→w.cell? ⟨r,k,none⟩=some (ps[k]!).v) (hp:∀ k,k<ps.length→EPcs w ps[k]!) (hl:ps.length≤1000) (hs:esumP ps≤100000) :
 Calls prog 201 #[.slice (some ⟨r,0,none⟩) ps.length ps.length] w (RetERow w (ecatP ps)):=by
 obtain ⟨i0,hi,aj,ak,al⟩:=info_parts jA
 obtain ⟨m,hm⟩:∃ m,ps.length=m:=⟨_,rfl⟩
 rw [hm] at hl ⊢
 have HM:=hid hm;have ae:=hid hps;have HP:=hid hp;have HS:=hid hs;have HR:=hid hr
 clear hm hps hp hs hr
 go_enter func201,ntmps201
 go_wp2
 go_loop [3,11] (fun z i=>∃ k:Nat,k≤m∧i=.int .i64 k∧z=.int .i64 (esumP (ps.take k):Nat)) (fun _ i=>m - (intOf i).toNat)
 case atStart=>exact ⟨0,Nat.zero_le _,rfl,rfl⟩
 case round =>
  obtain ⟨k,hk,rfl,rfl⟩:=hrel
  have hb:=Nat.le_trans (jD ps k) HS.out
  by_cases hlt:k<m
  ·have hkl:k<ps.length:=by rw [HM.out];exact hlt
   have q0:=ae.out k hkl
   have h2:=oA ps k hkl
   have am:=Nat.le_trans (jD ps (k+1)) HS.out
   obtain ⟨x,hx⟩:∃ x,ps[k]! = x:=⟨_,rfl⟩
   rw [hx] at q0 h2
   obtain ⟨xa,xl,xc⟩:=x
   simp only [EPc.v] at q0 h2
   obtain ⟨n,hn⟩:∃ n,xl.length=n:=⟨_,rfl⟩
   rw [hn] at q0 h2
   obtain ⟨s,hs⟩:∃ s,esumP (ps.take k)=s:=⟨_,rfl⟩
   rw [hs] at h2 hb ⊢
   have HX:=hid h2
   have aw:s+n≤100000:=by omega
   have b0:(0:Int)≤(k:Int):=by omega
   have b1:(k:Int)<(m:Int):=by omega
   have b2:¬ (s:Int)+(n:Int)<0:=by omega
   clear hx hn hs h2 am
   go_wp2
   go_round
   case rel=>exact ⟨k+1,by omega,by go_num,by rw [HX.out];go_num⟩
   case measure=>simp [intOf];omega
  ·obtain rfl:k=m:=by omega
   have hz:esumP (ps.take k)=esumP ps:=by rw [List.take_of_length_le (by rw [HM.out];exact Nat.le_refl _)]
   rw [hz] at hb ⊢
   obtain ⟨s,hs⟩:∃ s,esumP ps=s:=⟨_,rfl⟩
   rw [hs] at hb ⊢
   have cg:=GI s (by omega) w
   have CG:=hid cg;have ax:=hid hs
   clear hz hs cg
   go_wp2_with fail
   refine CG.out.mono ?_
   rintro e w1 ⟨v,rfl,ab,aa⟩
   have an:=hid aa;have HO:=hid ab
   clear aa ab
   go_wp2
   go_loopw [6,27] (fun v i wr=>∃ j:Nat,j≤k∧i=.int .i64 j∧wr.ownsRow w.heap.size 92 3 v (ecatP (ps.take j)).length (Edt.flat (ecatP (ps.take j)))∧Below w.heap.size w wr) (fun _ i _=>k - (intOf i).toNat)
   case atStart=>exact ⟨0,Nat.zero_le _,rfl,HO.out,an.out⟩
   case round =>
    obtain ⟨j,hj,rfl,hown,hbel⟩:=hrel
    have hlen:=EN (ps.take j)
    have hle:=Nat.le_trans (jD ps j) HS.out
    by_cases hlt:j<k
    ·have hjl:j<ps.length:=by rw [HM.out];exact hlt
     have q0:=(hbel.cell (p:=⟨r,j,none⟩) HR.out).trans (ae.out j hjl)
     have hp:=HP.out j hjl
     have h2:=zD ps j hjl
     have h3:=oA ps j hjl
     have ai:=Nat.le_trans (jD ps (j+1)) HS.out
     obtain ⟨x,hx⟩:∃ x,ps[j]! = x:=⟨_,rfl⟩
     rw [hx] at q0 hp h2 h3
     obtain ⟨o,ho⟩:∃ o,ecatP (ps.take j)=o:=⟨_,rfl⟩
     rw [ho] at hown hlen h2
     have hol:o.length≤100000:=by omega
     have hxl:o.length+x.l.length≤100000:=by omega
     have H2:=hid h2
     have b0:(0:Int)≤(j:Int):=by omega
     have b1:(j:Int)<(k:Int):=by omega
     clear hx ho h2 h3 hlen hle ai
     obtain ⟨xa,xl,xc⟩:=x
     cases xa with
     | none =>
      have e0:xl=[]:=hp.len rfl
      have e1:xc=0:=hp.nil rfl
      subst e0
      subst e1
      simp only [EPc.v,List.length_nil] at q0
      clear hp hxl
      go_wp2_with (at_builtin;refine wpList_append_own_none rfl _ _ 24 rfl w.heap.size 92 i0 3 underlying24 hi _ _ _ rfl hown rfl ?_)
      go_roundw
      case rel=>exact ⟨j+1,by omega,by go_num,by rw [H2.out,List.append_nil];exact hown,hbel⟩
      case measure=>simp [intOf];omega
     | some ad =>
      have hnews:=rB (hp.row.below (fun _ h=>h) hbel)
      simp only [EPc.v] at q0
      have hfl:=Edt.flat_len xl
      have hofl:=rH xl
      obtain ⟨n,hn⟩:∃ n,xl.length=n:=⟨_,rfl⟩
      simp only [hn] at q0 hxl hfl
      have ao:=hid hnews;have aq:=hid hfl;have ar:=hid hofl;have ac:=hid hn
      clear hp hnews hfl hofl hn
      go_wp2_with (at_builtin;refine wpList_append_own _ rfl _ _ 24 rfl w.heap.size 92 i0 _ 3 40 underlying24 hi aj ak al rfl (by decide) _ _ _ rfl hown ad n xc (Edt.flat xl) rfl aq.out ao.out ar.out (by unfold maxLen;omega) (by omega) hbel.size ?_;intro v1 w1 af ag _)
      have aa:Below w.heap.size w w1:=hbel.grown ag hbel.size (aM hown)
      have ah:w1.ownsRow w.heap.size 92 3 v1 (ecatP (ps.take (j+1))).length (Edt.flat (ecatP (ps.take (j+1)))):=by
       rw [H2.out,Edt.flat_app,List.length_append,ac.out]
       exact af
      have au:=hid ah;have av:=hid aa
      clear af ag hown hbel aa ah q0
      go_wp2
      go_roundw
      case rel=>exact ⟨j+1,by omega,by go_num,au.out,av.out⟩
      case measure=>simp [intOf];omega
    ·obtain rfl:j=k:=by omega
     rw [List.take_of_length_le (by rw [HM.out];exact Nat.le_refl _)] at hown
     obtain ⟨ad,cp,rfl,hn⟩:=eG hown
     have ac:=hid hn;clear hn hown
     go_wp2
     go_ret
     exact ⟨ad,cp,rfl,ac.out,hbel⟩
set_option maxHeartbeats 1000000 in
theorem mB (ad:Addr) (l:List Edt) (c:Nat) (w:World) (hr:Edts w (·<w.heap.size) (some ad) l) (hl:l.length≤1000000) :
 Calls prog 93 #[.slice (some ad) l.length c] w fun e w'=>∃ v,e=.returned v∧w'.ownsRow w.heap.size 92 3 v l.length (Edt.flat l)∧v≠.slice none 0 0∧Below w.heap.size w w':=by
 obtain ⟨i0,hi,ae,af,ag⟩:=info_parts jA
 have q22:∀ (w:World) (a:Option Addr) (n c n' c':Nat),(binOp .eql 24 (.slice a n c) (.slice none n' c')).run prog w=.ok (.bool a.isNone) w:=fun w a n c n' c'=>Lib.run_eql_slice_nil w _ _ a n c n' c' underlying24
 have ab:=hid (rB hr);have aa:=hid (Edt.flat_len l);have ac:=hid (rH l)
 obtain ⟨n,hn⟩:∃ n,l.length=n:=⟨_,rfl⟩
 rw [hn] at hl aa ⊢
 obtain ⟨F,hF⟩:∃ F,Edt.flat l=F:=⟨_,rfl⟩
 rw [hF] at ab aa ac ⊢
 clear hr hn hF
 go_enter func93,ntmps93
 go_wp2_with (at_builtin;refine wpList_append_own _ rfl _ _ 24 rfl w.heap.size 92 i0 _ 3 40 underlying24 hi ae af ag rfl (by decide) _ _ _ rfl (World.ownsRow_made w #[] 0 (Nat.le_refl _) (Nat.zero_le _) (by simp)) ad n c F rfl aa.out (fun j u hj=>Lib.cell?_alloc_some _ (ab.out j u hj)) ac.out (by unfold maxLen;omega) (by omega) (by simp) ?_)
 intro v' w1 hown hgrow hnil
 go_wp2
 go_ret
 refine ⟨v',rfl,by simpa using hown,?_,?_⟩
 ·exact hnil
 ·exact ((Below.refl _ w).alloc (Nat.le_refl _) _).grown hgrow (by simp) (by intro k hk;simp [Value.ownBlock] at hk;omega)
theorem oD (w:World):Calls prog 93 #[.slice none 0 0] w fun e w'=>e=.returned (.slice none 0 0)∧w'=w:=by
 have h:=AnyE.slices_Clone_nil Tryz.mkCloneE 0 0 w
 change Calls prog 93 _ _ _ at h
 exact h
theorem ecat2 {W:World} {p q:EPc} (i j:Nat) (hp:EPcs W p) (hq:EPcs W q) (hi:p.l.length=i) (hj:q.l.length=j) (hs:i+j≤1000) (t:TypeId) :
 Calls prog 201 #[.slice (some ⟨W.heap.size,0,none⟩) 2 2] (W.alloc (.cells #[.slice p.a i p.c,.slice q.a j q.c] t)) (RetERow (W.alloc (.cells #[.slice p.a i p.c,.slice q.a j q.c] t)) (p.l++q.l)):=by
 have hb:Below W.heap.size W (W.alloc (.cells #[.slice p.a i p.c,.slice q.a j q.c] t)):=(Below.refl W.heap.size W).alloc (Nat.le_refl _) _
 have h:=vI W.heap.size [p,q] (W.alloc (.cells #[.slice p.a i p.c,.slice q.a j q.c] t)) (by simp) (fun k hk=>by
  match k,hk with
  | 0,_=>simp [World.cell?_alloc_new,EPc.v,hi]
  | 1,_=>simp [World.cell?_alloc_new,EPc.v,hj]) (fun k hk=>by
  match k,hk with
  | 0,_=>exact hp.later hb
  | 1,_=>exact hq.later hb) (by simp) (by simp [esumP];omega)
 have e:ecatP [p,q]=p.l++q.l:=by simp [ecatP]
 rw [e] at h
 exact h
end Go.Proofs.YtbagenpobcgjnaaGreat
