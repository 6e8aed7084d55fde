/-
  Joined: StepMath, EditCat.
-/
import Derived.Test.YtbagenpobcgjnaaGreatJUtfRTake
import Derived.Test.YtbagenpobcgjnaaGreatJChunkRef
import Derived.Test.YtbagenpobcgjnaaGreatEditShelf
import Derived.Laws.AppendOwnNone
open ByteArray renaming empty->zr,size_append->Al,size_extract->Am
open Go renaming Calls->zt,World->zu,info_parts->Aj,madeCells->zx,wpList_append_own->Au
open Go.Value renaming int->zp,slice->zm,string->zo
open Go.World renaming cell?_alloc_new->Av,ownsRow_made->Ar
open List renaming getElem?_eq_none->Aq,length_append->An,length_map->Ab,length_replicate->Ag,length_take->Af,replicate->Ae,set_cons_zero->Ao,take_of_length_le->Ad
open Nat renaming le_refl->zn,le_trans->zz,lt_or_ge->Ap,sub_self->Ah,zero_le->Ak
variable {s t:ByteArray}
namespace Go.Proofs.YtbagenpobcgjnaaGreat
open Go.RowKit
def ms (t:ByteArray):List l8→ByteArray×Int
 | []=>(t,0)
 | x::r=>if (oq t x.p x.o x.n).2=0 then ms (oq t x.p x.o x.n).1 r else (⟨#[]⟩,(oq t x.p x.o x.n).2)
theorem dR (t:ByteArray):ms t []=(t,0):=rfl
theorem eP {x:l8} {r:List l8} (h:oq t x.p x.o x.n=(s,0)):ms t (x::r)=ms s r:=by
 show (if (oq t x.p x.o x.n).2=0 then _ else _)=_;rw [h,if_pos rfl]
theorem gX {e:Int} {x:l8} {r:List l8} (h:oq t x.p x.o x.n=(s,e)) (he:e≠0):ms t (x::r)=(⟨#[]⟩,e):=by
 show (if (oq t x.p x.o x.n).2=0 then _ else _)=_;rw [h,if_neg he]
theorem bS {o n:ByteArray} {p:Int} (h:oq t p o n=(s,0)):s.size≤4096:=by
 obtain ⟨k,rfl,hk,ho,-,-,-,-,hl,rfl⟩:=nA h;have hle:=gA hk ho;rw [Al,Al,Am,Am];omega
theorem KO {l:List l8} (h:ms t l=(s,0)):s.size≤max t.size 4096:=by
 induction l generalizing t with
 | nil =>
  rw [dR] at h;obtain rfl:t=s:=congrArg Prod.fst h;omega
 | cons x r ih =>
  obtain ⟨⟨u,e⟩,hu⟩:∃ y,oq t x.p x.o x.n=y:=⟨_,rfl⟩;by_cases he:e=0
  ·subst he;rw [eP hu] at h;have:=ih h;have:=bS hu;omega
  ·rw [gX hu he] at h;exact absurd (congrArg Prod.snd h) he
theorem oZ (t:ByteArray) (a b:List l8):ms t (a++b)=if (ms t a).2=0 then ms (ms t a).1 b else (⟨#[]⟩,(ms t a).2):=by
 induction a generalizing t with
 | nil=>rw [List.nil_append,dR,if_pos rfl]
 | cons x r ih =>
  obtain ⟨⟨u,e⟩,hu⟩:∃ y,oq t x.p x.o x.n=y:=⟨_,rfl⟩;rw [List.cons_append];by_cases he:e=0
  ·subst he;rw [eP hu,eP hu,ih]
  ·rw [gX hu he,gX hu he,if_neg he]
def m9 (t:ByteArray) (l:List l8):Bool:=decide (1≤l.length) && decide (l.length≤32) && ((ms t l).2 == 0)
theorem DQ {l:List l8} (h:l.length<1):m9 t l=false:=by unfold m9;rw [decide_eq_false lg];rfl
theorem zT {l:List l8} (h:32<l.length):m9 t l=false:=by unfold m9;rw [decide_eq_false (p:=l.length≤32) lg,Bool.and_false];rfl
theorem FZ {l:List l8} (h:1≤l.length) (h2:l.length≤32):m9 t l=((ms t l).2 == 0):=by unfold m9;rw [decide_eq_true h,decide_eq_true h2];rfl
def l8.back (x:l8):l8:=⟨x.p,x.n,x.o⟩
def md (l:List l8):List l8:=(l.map l8.back).reverse
theorem aF (l:List l8):(md l).length=l.length:=by unfold md;rw [List.length_reverse,Ab]
theorem QC (l:List l8) (k:Nat) (h:k<l.length):(md l)[k]? = some (l[l.length - 1 - k]!).back:=by
 unfold md;rw [List.getElem?_reverse (by rw [Ab];exact h),Ab,List.getElem?_map,List.getElem?_eq_getElem lg,tu lg];rfl
theorem tR (l:List l8) (k:Nat) (h:k<l.length):(md l).take (k+1)=(md l).take k++[(l[l.length - 1 - k]!).back]:=by
 rw [List.take_add_one,QC l k h];rfl
theorem yH (l:List l8):(md l).take l.length=md l:=Ad (by rw [aF];exact zn _)
def wb (l:List l8) (x:l8):List l8×Int:=if 32≤l.length then ([],9) else (l++[x],0)
def nilE:l8:=⟨0,zr,zr⟩
def uz (l:List l8) (k:Nat):List l8:=(md l).take k++Ae (l.length - k) nilE
theorem MT (l:List l8) (k:Nat) (h:k≤l.length):(uz l k).length=l.length:=by
 unfold uz;rw [An,Af,Ag,aF];omega
theorem UY (l:List l8) (k:Nat) (h:k<l.length):(uz l k)[k]! = nilE:=by
 unfold uz;have hl:((md l).take k).length=k:=by rw [Af,aF];omega
 rw [getElem!_def,List.getElem?_append_right lg,hl,Ah,List.getElem?_replicate,if_pos lg]
theorem LC (l:List l8) (k:Nat) (h:k<l.length):uz l (k+1)=(uz l k).set k (l[l.length - 1 - k]!).back:=by
 unfold uz;have hl:((md l).take k).length=k:=by rw [Af,aF];omega
 rw [tR l k h,List.set_append_right _ _ lg,hl,Ah,List.append_assoc]
 congr 1
 rw [show l.length - k=(l.length - (k+1))+1 by omega,List.replicate_succ,Ao];rfl
theorem PT (l:List l8):uz l l.length=md l:=by
 unfold uz;rw [yH,Ah];simp
theorem gS (x:l8) (r:List l8):l8.flat (x::r)=zp .i64 x.p::zo x.o::zo x.n::l8.flat r:=by simp [l8.flat]
theorem LA (l:List l8) (k:Nat) (x:l8) (h:k<l.length):(((l8.flat l).set (k * 3) (zp .i64 x.p)).set (k * 3+1) (zo x.o)).set (k * 3+2) (zo x.n)=l8.flat (l.set k x):=by
 induction l generalizing k with
 | nil=>simp at h
 | cons a r ih =>
  cases k with
  | zero =>
   rw [Ao,gS,gS];rfl
  | succ k =>
   have e2:(a::r).set (k+1) x=a::r.set k x:=rfl;rw [e2,gS,gS,← ih k (by simpa using h),show (k+1) * 3+2=k * 3+2+1+1+1 by omega,show (k+1) * 3+1=k * 3+1+1+1+1 by omega,show (k+1) * 3=k * 3+1+1+1 by omega];rfl
theorem emade (n:Nat):(zx #[zp .i64 0,zo zr,zo zr] (n * 3)).toList=l8.flat (Ae n nilE):=by
 refine List.ext_getElem? fun j=>?_;rcases Ap j (n * 3) with g|g
 ·obtain ⟨g0,g1,g2⟩:=l8.flat_get (Ae n nilE) (j / 3) (by rw [Ag];omega);rw [List.getElem_replicate] at g0 g1 g2;have e:(zx #[zp .i64 0,zo zr,zo zr] (n * 3)).toList[j]? = some ((#[zp .i64 0,zo zr,zo zr]:Array Value)[j % 3]!):=by
   unfold zx;simp [g]
  rw [e];rcases (show j=j / 3 * 3∨j=j / 3 * 3+1∨j=j / 3 * 3+2 by omega) with q|q|q
  ·rw [show j % 3=0 by omega,q,g0];rfl
  ·rw [show j % 3=1 by omega,q,g1];rfl
  ·rw [show j % 3=2 by omega,q,g2];rfl
 ·rw [Aq (by simp [zx];exact g),Aq (by rw [l8.flat_len,Ag];exact g)]
theorem edrop (l:List l8) (k:Nat) (h:k<l.length):l.drop k=l[k]! :: l.drop (k+1):=by rw [List.drop_eq_getElem_cons h,tu h]
instance :DecidableEq l8:=fun x y=>if h:x.p=y.p∧x.o=y.o∧x.n=y.n then isTrue (by cases x;cases y;simp at h;simp [h]) else isFalse (fun e=>h (by rw [e];exact ⟨rfl,rfl,rfl⟩))
theorem FP {a b:List l8} {k:Nat} (h:∀ j,j<k→a[j]! = b[j]!):a[k]! = b[k]! → ∀ j,j<k+1→a[j]! = b[j]! :=fun e j hj=>by
 rcases Ap j k with g|g
 ·exact h j g
 ·obtain rfl:j=k:=lg;exact e
theorem JV {a b:List l8} (hl:a.length=b.length) (h:∀ j,j<a.length→a[j]! = b[j]!):a=b:=by
 refine List.ext_getElem hl fun j h1 h2=>?_;have:=h j h1;rwa [tu h1,tu h2] at this
theorem TR {x y:l8} (h:¬ x=y):¬ x.p=y.p∨(x.p=y.p∧¬ x.o=y.o)∨(x.p=y.p∧x.o=y.o∧¬ x.n=y.n):=by
 obtain ⟨p,o,n⟩:=x;obtain ⟨p2,o2,n2⟩:=y;by_cases h1:p=p2
 ·by_cases h2:o=o2
  ·refine .inr (.inr ⟨h1,h2,fun h3=>h ?_⟩);have h3:n=n2:=h3;rw [h1,h2,h3]
  ·exact .inr (.inl ⟨h1,h2⟩)
 ·exact .inl h1
end Go.Proofs.YtbagenpobcgjnaaGreat
namespace Go.Proofs.YtbagenpobcgjnaaGreat
open Go.Proofs.Tryz
set_option maxRecDepth 100000
open Lib (hid)
open Go.Shelf Go.RowKit
set_option linter.unusedVariables false
set_option maxHeartbeats 800000 in
theorem IQ (n:Nat) (hn:n≤1000000) (w:zu):zt prog 213 #[zm none 0 0,zp .i64 n] w fun e w'=>∃ v,e=.returned v∧w'.ownsRow w 92 3 v 0 []∧Below w w w':=by
 obtain ⟨i0,hi,aa,ab,ac⟩:=Aj eW;rcases Nat.eq_zero_or_pos n with rfl|hp
 ·have h:=Any8.slices_Grow_room Tryz.mkGrowE none 0 0 0 w (zn _) lg lg lg;change zt prog 213 _ _ _ at h;refine h.mono ?_;rintro e w' ⟨rfl,rfl⟩;exact ⟨_,rfl,World.ownsRow_nil _ _ _ _,Below.refl _ _⟩
 ·have h:=Any8.slices_Grow_grow Tryz.mkGrowE i0 _ hi aa (by rw [ab];decide) none 0 0 n [] w (zn _) lg (by rw [ac];omega) lg li (fun _=>rfl) (fun a e=>by cases e);change zt prog 213 _ _ _ at h;refine h.mono ?_;rintro e w' ⟨rfl,rfl⟩;have hge:=grownCap_ge w (0+n) 0 (Tryz.mkGrowE_ren.t 25);have hle:=grownCap_le_maxLen w (0+n) 0 (Tryz.mkGrowE_ren.t 25) lq;refine ⟨_,rfl,Ar w.drew _ _ (zn _) hle ?_,((Below.refl w w).drew).alloc (zn _) _⟩;simp only [Nat.zero_add] at hge ⊢;simp [Builtin.zeroCells,Value.cells];omega
set_option maxHeartbeats 1600000 in
theorem AW (r:Nat) (ps:List mo) (w:zu) (hr:r<w) (hps:∀ k,k<ps.length→w ⟨r,k,none⟩=some (ps[k]!).v) (hp:∀ k,k<ps.length→o0 w ps[k]!) (hl:ps.length≤1000) (hs:r8 ps≤100000) :
 zt prog 201 #[zm (some ⟨r,0,none⟩) ps.length ps.length] w (yu w (sy ps)):=by
 obtain ⟨i0,hi,aj,ak,al⟩:=Aj eW;obtain ⟨m,hm⟩:∃ m,ps.length=m:=⟨_,rfl⟩;rw [hm] at hl ⊢;have HM:=hid hm;have ae:=hid hps;have HP:=hid hp;have HS:=hid hs;have HR:=hid hr;clear hm hps hp hs hr;go_enter func201,ntmps201;go_wp2
 go_loop [3,11] (fun z i=>∃ k:Nat,k≤m∧i=zp .i64 k∧z=zp .i64 (r8 (ps.take k):Nat)) (fun _ i=>m - (intOf i).toNat)
 case atStart=>exact ⟨0,Ak _,rfl,rfl⟩
 case round =>
  obtain ⟨k,hk,rfl,rfl⟩:=hrel;have hb:=zz (jX ps k) HS.out;by_cases hlt:k<m
  ·have hkl:k<ps.length:=by rw [HM.out];exact hlt
   have q0:=ae.out k hkl;have h2:=pZ ps k hkl;have am:=zz (jX ps (k+1)) HS.out;obtain ⟨x,hx⟩:∃ x,ps[k]! = x:=⟨_,rfl⟩;rw [hx] at q0 h2;obtain ⟨xa,xl,xc⟩:=x;simp only [mo.v] at q0 h2;obtain ⟨n,hn⟩:∃ n,xl.length=n:=⟨_,rfl⟩;rw [hn] at q0 h2;obtain ⟨s,hs⟩:∃ s,r8 (ps.take k)=s:=⟨_,rfl⟩;rw [hs] at h2 hb ⊢;have HX:=hid h2;have aw:s+n≤100000:=lg;have b0:(0:Int)≤(k:Int):=lg;have b1:(k:Int)<(m:Int):=lg;have b2:¬ (s:Int)+(n:Int)<0:=lg;clear hx hn hs h2 am;go_wp2
   go_round
   case rel=>exact ⟨k+1,lg,by go_num,by rw [HX.out];go_num⟩
   case measure=>simp [intOf];omega
  ·obtain rfl:k=m:=lg;have hz:r8 (ps.take k)=r8 ps:=by rw [Ad (by rw [HM.out];exact zn _)]
   rw [hz] at hb ⊢;obtain ⟨s,hs⟩:∃ s,r8 ps=s:=⟨_,rfl⟩;rw [hs] at hb ⊢;have cg:=IQ s lg w;have CG:=hid cg;have ax:=hid hs;clear hz hs cg;go_wp2_with fail;refine CG.out.mono ?_;rintro e w1 ⟨v,rfl,ab,aa⟩;have an:=hid aa;have HO:=hid ab;clear aa ab;go_wp2
   go_loopw [6,27] (fun v i wr=>∃ j:Nat,j≤k∧i=zp .i64 j∧wr.ownsRow w 92 3 v (sy (ps.take j)).length (l8.flat (sy (ps.take j)))∧Below w w wr) (fun _ i _=>k - (intOf i).toNat)
   case atStart=>exact ⟨0,Ak _,rfl,HO.out,an.out⟩
   case round =>
    obtain ⟨j,hj,rfl,hown,hbel⟩:=hrel;have hlen:=JO (ps.take j);have hle:=zz (jX ps j) HS.out;by_cases hlt:j<k
    ·have hjl:j<ps.length:=by rw [HM.out];exact hlt
     have q0:=(hbel.cell (p:=⟨r,j,none⟩) HR.out).trans (ae.out j hjl);have hp:=HP.out j hjl;have h2:=GF ps j hjl;have h3:=pZ ps j hjl;have ai:=zz (jX ps (j+1)) HS.out;obtain ⟨x,hx⟩:∃ x,ps[j]! = x:=⟨_,rfl⟩;rw [hx] at q0 hp h2 h3;obtain ⟨o,ho⟩:∃ o,sy (ps.take j)=o:=⟨_,rfl⟩;rw [ho] at hown hlen h2;have hol:o.length≤100000:=lg;have hxl:o.length+x.l.length≤100000:=lg;have H2:=hid h2;have b0:(0:Int)≤(j:Int):=lg;have b1:(j:Int)<(k:Int):=lg;clear hx ho h2 h3 hlen hle ai;obtain ⟨xa,xl,xc⟩:=x;cases xa with
     | none =>
      have e0:xl=[]:=hp.len rfl;have e1:xc=0:=hp.nil rfl;subst e0;subst e1;simp only [mo.v,List.length_nil] at q0;clear hp hxl;go_wp2_with (at_builtin;refine wpList_append_own_none rfl _ _ 24 rfl w.heap.size 92 i0 3 underlying24 hi _ _ _ rfl hown rfl ?_);go_roundw
      case rel=>exact ⟨j+1,lg,by go_num,by rw [H2.out,List.append_nil];exact hown,hbel⟩
      case measure=>simp [intOf];omega
     | some ad =>
      have hnews:=mD (hp.row.below (fun _ h=>h) hbel);simp only [mo.v] at q0;have hfl:=l8.flat_len xl;have hofl:=mG xl;obtain ⟨n,hn⟩:∃ n,xl.length=n:=⟨_,rfl⟩;simp only [hn] at q0 hxl hfl;have ao:=hid hnews;have aq:=hid hfl;have ar:=hid hofl;have ac:=hid hn;clear hp hnews hfl hofl hn;go_wp2_with (at_builtin;refine Au _ rfl _ _ 24 rfl w.heap.size 92 i0 _ 3 40 underlying24 hi aj ak al rfl lj _ _ _ rfl hown ad n xc (l8.flat xl) rfl aq.out ao.out ar.out lq lg hbel.size ?_;intro v1 w1 af ag _);have aa:Below w w w1:=hbel.grown ag hbel.size (aB hown);have ah:w1.ownsRow w 92 3 v1 (sy (ps.take (j+1))).length (l8.flat (sy (ps.take (j+1)))):=by
       rw [H2.out,l8.flat_app,An,ac.out];exact af
      have au:=hid ah;have av:=hid aa;clear af ag hown hbel aa ah q0;go_wp2;go_roundw
      case rel=>exact ⟨j+1,lg,by go_num,au.out,av.out⟩
      case measure=>simp [intOf];omega
    ·obtain rfl:j=k:=lg;rw [Ad (by rw [HM.out];exact zn _)] at hown;obtain ⟨ad,cp,rfl,hn⟩:=dV hown;have ac:=hid hn;clear hn hown;go_wp2;go_ret;exact ⟨ad,cp,rfl,ac.out,hbel⟩
set_option maxHeartbeats 1000000 in
theorem oI (ad:Addr) (l:List l8) (c:Nat) (w:zu) (hr:qf w (·<w) (some ad) l) (hl:l.length≤1000000) :
 zt prog 93 #[zm (some ad) l.length c] w fun e w'=>∃ v,e=.returned v∧w'.ownsRow w 92 3 v l.length (l8.flat l)∧v≠zm none 0 0∧Below w w w':=by
 obtain ⟨i0,hi,ae,af,ag⟩:=Aj eW;have q22:∀ (w:zu) (a:Option Addr) (n c n' c':Nat),(binOp .eql 24 (zm a n c) (zm none n' c')).run prog w=.ok (.bool a.isNone) w:=fun w a n c n' c'=>Lib.run_eql_slice_nil w _ _ a n c n' c' underlying24;have ab:=hid (mD hr);have aa:=hid (l8.flat_len l);have ac:=hid (mG l);obtain ⟨n,hn⟩:∃ n,l.length=n:=⟨_,rfl⟩;rw [hn] at hl aa ⊢;obtain ⟨F,hF⟩:∃ F,l8.flat l=F:=⟨_,rfl⟩;rw [hF] at ab aa ac ⊢;clear hr hn hF;go_enter func93,ntmps93;go_wp2_with (at_builtin;refine Au _ rfl _ _ 24 rfl w.heap.size 92 i0 _ 3 40 underlying24 hi ae af ag rfl lj _ _ _ rfl (Ar w #[] 0 (zn _) (Ak _) li) ad n c F rfl aa.out (fun j u hj=>Lib.cell?_alloc_some _ (ab.out j u hj)) ac.out lq lg li ?_);intro v' w1 hown hgrow hnil;go_wp2;go_ret;refine ⟨v',rfl,by simpa using hown,?_,?_⟩
 ·exact hnil
 ·exact ((Below.refl _ w).alloc (zn _) _).grown hgrow li (by intro k hk;simp [Value.ownBlock] at hk;omega)
theorem qG (w:zu):zt prog 93 #[zm none 0 0] w fun e w'=>e=.returned (zm none 0 0)∧w'=w:=by
 have h:=AnyE.slices_Clone_nil Tryz.mkCloneE 0 0 w;change zt prog 93 _ _ _ at h;exact h
theorem ecat2 {W:zu} {p q:mo} (i j:Nat) (hp:o0 W p) (hq:o0 W q) (hi:p.l.length=i) (hj:q.l.length=j) (hs:i+j≤1000) (t:TypeId) :
 zt prog 201 #[zm (some ⟨W,0,none⟩) 2 2] (W.alloc (.cells #[zm p.a i p.c,zm q.a j q.c] t)) (yu (W.alloc (.cells #[zm p.a i p.c,zm q.a j q.c] t)) (p.l++q.l)):=by
 have hb:Below W W (W.alloc (.cells #[zm p.a i p.c,zm q.a j q.c] t)):=(Below.refl W W).alloc (zn _) _;have h:=AW W [p,q] (W.alloc (.cells #[zm p.a i p.c,zm q.a j q.c] t)) li (fun k hk=>by
  match k,hk with
  | 0,_=>simp [Av,mo.v,hi]
  | 1,_=>simp [Av,mo.v,hj]) (fun k hk=>by
  match k,hk with
  | 0,_=>exact hp.later hb
  | 1,_=>exact hq.later hb) li (by simp [r8];omega)
 have e:sy [p,q]=p.l++q.l:=by simp [sy]
 rw [e] at h;exact h
end Go.Proofs.YtbagenpobcgjnaaGreat
