/-
  Joined: StepMath, EditCat.
-/
import Derived.Test.YtbagenpobcgjnaaGreatJUtfRTake
import Derived.Test.YtbagenpobcgjnaaGreatJChunkRef
import Derived.Test.YtbagenpobcgjnaaGreatEditShelf
import Derived.Laws.AppendOwnNone
open ByteArray renaming empty->ze,size_append->zx,size_extract->zy
open Go renaming Calls->zf,World->zg,info_parts->zv,madeCells->zj,wpList_append_own->Af
open Go.Value renaming int->yz,slice->yw,string->yy
open Go.World renaming cell?_alloc_new->Ag,ownsRow_made->Ae
open List renaming getElem?_eq_none->Ad,length_append->zz,length_map->zo,length_replicate->zs,length_take->zr,replicate->zq,set_cons_zero->Aa,take_of_length_le->zp
open Nat renaming le_refl->yx,le_trans->zm,lt_or_ge->Ab,sub_self->zt,zero_le->zw
variable {s t:ByteArray}
namespace Go.Proofs.YtbagenpobcgjnaaGreat
open Go.RowKit
def mu (t:ByteArray):List l7→ByteArray×Int
 | []=>(t,0)
 | x::r=>if (ot t x.p x.o x.n).2=0 then mu (ot t x.p x.o x.n).1 r else (⟨#[]⟩,(ot t x.p x.o x.n).2)
theorem dJ (t:ByteArray):mu t []=(t,0):=rfl
theorem dY {x:l7} {r:List l7} (h:ot t x.p x.o x.n=(s,0)):mu t (x::r)=mu s r:=by
 show (if (ot t x.p x.o x.n).2=0 then _ else _)=_;rw [h,if_pos rfl]
theorem gF {e:Int} {x:l7} {r:List l7} (h:ot t x.p x.o x.n=(s,e)) (he:e≠0):mu t (x::r)=(⟨#[]⟩,e):=by
 show (if (ot t x.p x.o x.n).2=0 then _ else _)=_;rw [h,if_neg he]
theorem bV {o n:ByteArray} {p:Int} (h:ot t p o n=(s,0)):s.size≤4096:=by
 obtain ⟨k,rfl,hk,ho,-,-,-,-,hl,rfl⟩:=lO h;have hle:=fH hk ho;rw [zx,zx,zy,zy];omega
theorem GS {l:List l7} (h:mu t l=(s,0)):s.size≤max t.size 4096:=by
 induction l generalizing t with
 | nil =>
  rw [dJ] at h;obtain rfl:t=s:=congrArg Prod.fst h;omega
 | cons x r ih =>
  obtain ⟨⟨u,e⟩,hu⟩:∃ y,ot t x.p x.o x.n=y:=⟨_,rfl⟩;by_cases he:e=0
  ·subst he;rw [dY hu] at h;have:=ih h;have:=bV hu;omega
  ·rw [gF hu he] at h;exact absurd (congrArg Prod.snd h) he
theorem oQ (t:ByteArray) (a b:List l7):mu t (a++b)=if (mu t a).2=0 then mu (mu t a).1 b else (⟨#[]⟩,(mu t a).2):=by
 induction a generalizing t with
 | nil=>rw [List.nil_append,dJ,if_pos rfl]
 | cons x r ih =>
  obtain ⟨⟨u,e⟩,hu⟩:∃ y,ot t x.p x.o x.n=y:=⟨_,rfl⟩;rw [List.cons_append];by_cases he:e=0
  ·subst he;rw [dY hu,dY hu,ih]
  ·rw [gF hu he,gF hu he,if_neg he]
def nb (t:ByteArray) (l:List l7):Bool:=decide (1≤l.length) && decide (l.length≤32) && ((mu t l).2 == 0)
theorem BG {l:List l7} (h:l.length<1):nb t l=false:=by unfold nb;rw [decide_eq_false lf];rfl
theorem zH {l:List l7} (h:32<l.length):nb t l=false:=by unfold nb;rw [decide_eq_false (p:=l.length≤32) lf,Bool.and_false];rfl
theorem EK {l:List l7} (h:1≤l.length) (h2:l.length≤32):nb t l=((mu t l).2 == 0):=by unfold nb;rw [decide_eq_true h,decide_eq_true h2];rfl
def l7.back (x:l7):l7:=⟨x.p,x.n,x.o⟩
def me (l:List l7):List l7:=(l.map l7.back).reverse
theorem aD (l:List l7):(me l).length=l.length:=by unfold me;rw [List.length_reverse,zo]
theorem MV (l:List l7) (k:Nat) (h:k<l.length):(me l)[k]? = some (l[l.length - 1 - k]!).back:=by
 unfold me;rw [List.getElem?_reverse (by rw [zo];exact h),zo,List.getElem?_map,List.getElem?_eq_getElem lf,tj lf];rfl
theorem sT (l:List l7) (k:Nat) (h:k<l.length):(me l).take (k+1)=(me l).take k++[(l[l.length - 1 - k]!).back]:=by
 rw [List.take_add_one,MV l k h];rfl
theorem wC (l:List l7):(me l).take l.length=me l:=zp (by rw [aD];exact yx _)
def vs (l:List l7) (x:l7):List l7×Int:=if 32≤l.length then ([],9) else (l++[x],0)
def nilE:l7:=⟨0,ze,ze⟩
def uk (l:List l7) (k:Nat):List l7:=(me l).take k++zq (l.length - k) nilE
theorem KI (l:List l7) (k:Nat) (h:k≤l.length):(uk l k).length=l.length:=by
 unfold uk;rw [zz,zr,zs,aD];omega
theorem SU (l:List l7) (k:Nat) (h:k<l.length):(uk l k)[k]! = nilE:=by
 unfold uk;have hl:((me l).take k).length=k:=by rw [zr,aD];omega
 rw [getElem!_def,List.getElem?_append_right lf,hl,zt,List.getElem?_replicate,if_pos lf]
theorem IH (l:List l7) (k:Nat) (h:k<l.length):uk l (k+1)=(uk l k).set k (l[l.length - 1 - k]!).back:=by
 unfold uk;have hl:((me l).take k).length=k:=by rw [zr,aD];omega
 rw [sT l k h,List.set_append_right _ _ lf,hl,zt,List.append_assoc]
 congr 1
 rw [show l.length - k=(l.length - (k+1))+1 by omega,List.replicate_succ,Aa];rfl
theorem LK (l:List l7):uk l l.length=me l:=by
 unfold uk;rw [wC,zt];simp
theorem fR (x:l7) (r:List l7):l7.flat (x::r)=yz .i64 x.p::yy x.o::yy x.n::l7.flat r:=by simp [l7.flat]
theorem GY (l:List l7) (k:Nat) (x:l7) (h:k<l.length):(((l7.flat l).set (k * 3) (yz .i64 x.p)).set (k * 3+1) (yy x.o)).set (k * 3+2) (yy x.n)=l7.flat (l.set k x):=by
 induction l generalizing k with
 | nil=>simp at h
 | cons a r ih =>
  cases k with
  | zero =>
   rw [Aa,fR,fR];rfl
  | succ k =>
   have e2:(a::r).set (k+1) x=a::r.set k x:=rfl;rw [e2,fR,fR,← ih k (by simpa using h),show (k+1) * 3+2=k * 3+2+1+1+1 by omega,show (k+1) * 3+1=k * 3+1+1+1+1 by omega,show (k+1) * 3=k * 3+1+1+1 by omega];rfl
theorem emade (n:Nat):(zj #[yz .i64 0,yy ze,yy ze] (n * 3)).toList=l7.flat (zq n nilE):=by
 refine List.ext_getElem? fun j=>?_;rcases Ab j (n * 3) with g|g
 ·obtain ⟨g0,g1,g2⟩:=l7.flat_get (zq n nilE) (j / 3) (by rw [zs];omega);rw [List.getElem_replicate] at g0 g1 g2;have e:(zj #[yz .i64 0,yy ze,yy ze] (n * 3)).toList[j]? = some ((#[yz .i64 0,yy ze,yy ze]:Array Value)[j % 3]!):=by
   unfold zj;simp [g]
  rw [e];rcases (show j=j / 3 * 3∨j=j / 3 * 3+1∨j=j / 3 * 3+2 by omega) with q|q|q
  ·rw [show j % 3=0 by omega,q,g0];rfl
  ·rw [show j % 3=1 by omega,q,g1];rfl
  ·rw [show j % 3=2 by omega,q,g2];rfl
 ·rw [Ad (by simp [zj];exact g),Ad (by rw [l7.flat_len,zs];exact g)]
theorem edrop (l:List l7) (k:Nat) (h:k<l.length):l.drop k=l[k]! :: l.drop (k+1):=by rw [List.drop_eq_getElem_cons h,tj h]
instance :DecidableEq l7:=fun x y=>if h:x.p=y.p∧x.o=y.o∧x.n=y.n then isTrue (by cases x;cases y;simp at h;simp [h]) else isFalse (fun e=>h (by rw [e];exact ⟨rfl,rfl,rfl⟩))
theorem BH {a b:List l7} {k:Nat} (h:∀ j,j<k→a[j]! = b[j]!):a[k]! = b[k]! → ∀ j,j<k+1→a[j]! = b[j]! :=fun e j hj=>by
 rcases Ab j k with g|g
 ·exact h j g
 ·obtain rfl:j=k:=lf;exact e
theorem GB {a b:List l7} (hl:a.length=b.length) (h:∀ j,j<a.length→a[j]! = b[j]!):a=b:=by
 refine List.ext_getElem hl fun j h1 h2=>?_;have:=h j h1;rwa [tj h1,tj h2] at this
theorem RM {x y:l7} (h:¬ x=y):¬ x.p=y.p∨(x.p=y.p∧¬ x.o=y.o)∨(x.p=y.p∧x.o=y.o∧¬ x.n=y.n):=by
 obtain ⟨p,o,n⟩:=x;obtain ⟨p2,o2,n2⟩:=y;by_cases h1:p=p2
 ·by_cases h2:o=o2
  ·refine .inr (.inr ⟨h1,h2,fun h3=>h ?_⟩);have h3:n=n2:=h3;rw [h1,h2,h3]
  ·exact .inr (.inl ⟨h1,h2⟩)
 ·exact .inl h1
end Go.Proofs.YtbagenpobcgjnaaGreat
namespace Go.Proofs.YtbagenpobcgjnaaGreat
open Go.Proofs.Tryz
set_option maxRecDepth 100000
open Lib (hid)
open Go.Shelf Go.RowKit
set_option linter.unusedVariables false
set_option maxHeartbeats 800000 in
theorem JN (n:Nat) (hn:n≤1000000) (w:zg):zf prog 213 #[yw none 0 0,yz .i64 n] w fun e w'=>∃ v,e=.returned v∧w'.ownsRow w 92 3 v 0 []∧Below w w w':=by
 obtain ⟨i0,hi,aa,ab,ac⟩:=zv eU;rcases Nat.eq_zero_or_pos n with rfl|hp
 ·have h:=Any8.slices_Grow_room Tryz.mkGrowE none 0 0 0 w (yx _) lf lf lf;change zf prog 213 _ _ _ at h;refine h.mono ?_;rintro e w' ⟨rfl,rfl⟩;exact ⟨_,rfl,World.ownsRow_nil _ _ _ _,Below.refl _ _⟩
 ·have h:=Any8.slices_Grow_grow Tryz.mkGrowE i0 _ hi aa (by rw [ab];decide) none 0 0 n [] w (yx _) lf (by rw [ac];omega) lf lh (fun _=>rfl) (fun a e=>by cases e);change zf prog 213 _ _ _ at h;refine h.mono ?_;rintro e w' ⟨rfl,rfl⟩;have hge:=grownCap_ge w (0+n) 0 (Tryz.mkGrowE_ren.t 25);have hle:=grownCap_le_maxLen w (0+n) 0 (Tryz.mkGrowE_ren.t 25) ln;refine ⟨_,rfl,Ae w.drew _ _ (yx _) hle ?_,((Below.refl w w).drew).alloc (yx _) _⟩;simp only [Nat.zero_add] at hge ⊢;simp [Builtin.zeroCells,Value.cells];omega
set_option maxHeartbeats 1600000 in
theorem yU (r:Nat) (ps:List mo) (w:zg) (hr:r<w) (hps:∀ k,k<ps.length→w ⟨r,k,none⟩=some (ps[k]!).v) (hp:∀ k,k<ps.length→o4 w ps[k]!) (hl:ps.length≤1000) (hs:r6 ps≤100000) :
 zf prog 201 #[yw (some ⟨r,0,none⟩) ps.length ps.length] w (yf w (sr ps)):=by
 obtain ⟨i0,hi,aj,ak,al⟩:=zv eU;obtain ⟨m,hm⟩:∃ m,ps.length=m:=⟨_,rfl⟩;rw [hm] at hl ⊢;have HM:=hid hm;have ae:=hid hps;have HP:=hid hp;have HS:=hid hs;have HR:=hid hr;clear hm hps hp hs hr;go_enter func201,ntmps201;go_wp2
 go_loop [3,11] (fun z i=>∃ k:Nat,k≤m∧i=yz .i64 k∧z=yz .i64 (r6 (ps.take k):Nat)) (fun _ i=>m - (intOf i).toNat)
 case atStart=>exact ⟨0,zw _,rfl,rfl⟩
 case round =>
  obtain ⟨k,hk,rfl,rfl⟩:=hrel;have hb:=zm (jH ps k) HS.out;by_cases hlt:k<m
  ·have hkl:k<ps.length:=by rw [HM.out];exact hlt
   have q0:=ae.out k hkl;have h2:=pI ps k hkl;have am:=zm (jH ps (k+1)) HS.out;obtain ⟨x,hx⟩:∃ x,ps[k]! = x:=⟨_,rfl⟩;rw [hx] at q0 h2;obtain ⟨xa,xl,xc⟩:=x;simp only [mo.v] at q0 h2;obtain ⟨n,hn⟩:∃ n,xl.length=n:=⟨_,rfl⟩;rw [hn] at q0 h2;obtain ⟨s,hs⟩:∃ s,r6 (ps.take k)=s:=⟨_,rfl⟩;rw [hs] at h2 hb ⊢;have HX:=hid h2;have aw:s+n≤100000:=lf;have b0:(0:Int)≤(k:Int):=lf;have b1:(k:Int)<(m:Int):=lf;have b2:¬ (s:Int)+(n:Int)<0:=lf;clear hx hn hs h2 am;go_wp2
   go_round
   case rel=>exact ⟨k+1,lf,by go_num,by rw [HX.out];go_num⟩
   case measure=>simp [intOf];omega
  ·obtain rfl:k=m:=lf;have hz:r6 (ps.take k)=r6 ps:=by rw [zp (by rw [HM.out];exact yx _)]
   rw [hz] at hb ⊢;obtain ⟨s,hs⟩:∃ s,r6 ps=s:=⟨_,rfl⟩;rw [hs] at hb ⊢;have cg:=JN s lf w;have CG:=hid cg;have ax:=hid hs;clear hz hs cg;go_wp2_with fail;refine CG.out.mono ?_;rintro e w1 ⟨v,rfl,ab,aa⟩;have an:=hid aa;have HO:=hid ab;clear aa ab;go_wp2
   go_loopw [6,27] (fun v i wr=>∃ j:Nat,j≤k∧i=yz .i64 j∧wr.ownsRow w 92 3 v (sr (ps.take j)).length (l7.flat (sr (ps.take j)))∧Below w w wr) (fun _ i _=>k - (intOf i).toNat)
   case atStart=>exact ⟨0,zw _,rfl,HO.out,an.out⟩
   case round =>
    obtain ⟨j,hj,rfl,hown,hbel⟩:=hrel;have hlen:=IT (ps.take j);have hle:=zm (jH ps j) HS.out;by_cases hlt:j<k
    ·have hjl:j<ps.length:=by rw [HM.out];exact hlt
     have q0:=(hbel.cell (p:=⟨r,j,none⟩) HR.out).trans (ae.out j hjl);have hp:=HP.out j hjl;have h2:=AR ps j hjl;have h3:=pI ps j hjl;have ai:=zm (jH ps (j+1)) HS.out;obtain ⟨x,hx⟩:∃ x,ps[j]! = x:=⟨_,rfl⟩;rw [hx] at q0 hp h2 h3;obtain ⟨o,ho⟩:∃ o,sr (ps.take j)=o:=⟨_,rfl⟩;rw [ho] at hown hlen h2;have hol:o.length≤100000:=lf;have hxl:o.length+x.l.length≤100000:=lf;have H2:=hid h2;have b0:(0:Int)≤(j:Int):=lf;have b1:(j:Int)<(k:Int):=lf;clear hx ho h2 h3 hlen hle ai;obtain ⟨xa,xl,xc⟩:=x;cases xa with
     | none =>
      have e0:xl=[]:=hp.len rfl;have e1:xc=0:=hp.nil rfl;subst e0;subst e1;simp only [mo.v,List.length_nil] at q0;clear hp hxl;go_wp2_with (at_builtin;refine wpList_append_own_none rfl _ _ 24 rfl w.heap.size 92 i0 3 underlying24 hi _ _ _ rfl hown rfl ?_);go_roundw
      case rel=>exact ⟨j+1,lf,by go_num,by rw [H2.out,List.append_nil];exact hown,hbel⟩
      case measure=>simp [intOf];omega
     | some ad =>
      have hnews:=lP (hp.row.below (fun _ h=>h) hbel);simp only [mo.v] at q0;have hfl:=l7.flat_len xl;have hofl:=mC xl;obtain ⟨n,hn⟩:∃ n,xl.length=n:=⟨_,rfl⟩;simp only [hn] at q0 hxl hfl;have ao:=hid hnews;have aq:=hid hfl;have ar:=hid hofl;have ac:=hid hn;clear hp hnews hfl hofl hn;go_wp2_with (at_builtin;refine Af _ rfl _ _ 24 rfl w.heap.size 92 i0 _ 3 40 underlying24 hi aj ak al rfl li _ _ _ rfl hown ad n xc (l7.flat xl) rfl aq.out ao.out ar.out ln lf hbel.size ?_;intro v1 w1 af ag _);have aa:Below w w w1:=hbel.grown ag hbel.size (aA hown);have ah:w1.ownsRow w 92 3 v1 (sr (ps.take (j+1))).length (l7.flat (sr (ps.take (j+1)))):=by
       rw [H2.out,l7.flat_app,zz,ac.out];exact af
      have au:=hid ah;have av:=hid aa;clear af ag hown hbel aa ah q0;go_wp2;go_roundw
      case rel=>exact ⟨j+1,lf,by go_num,au.out,av.out⟩
      case measure=>simp [intOf];omega
    ·obtain rfl:j=k:=lf;rw [zp (by rw [HM.out];exact yx _)] at hown;obtain ⟨ad,cp,rfl,hn⟩:=dH hown;have ac:=hid hn;clear hn hown;go_wp2;go_ret;exact ⟨ad,cp,rfl,ac.out,hbel⟩
set_option maxHeartbeats 1000000 in
theorem nN (ad:Addr) (l:List l7) (c:Nat) (w:zg) (hr:qd w (·<w) (some ad) l) (hl:l.length≤1000000) :
 zf prog 93 #[yw (some ad) l.length c] w fun e w'=>∃ v,e=.returned v∧w'.ownsRow w 92 3 v l.length (l7.flat l)∧v≠yw none 0 0∧Below w w w':=by
 obtain ⟨i0,hi,ae,af,ag⟩:=zv eU;have q22:∀ (w:zg) (a:Option Addr) (n c n' c':Nat),(binOp .eql 24 (yw a n c) (yw none n' c')).run prog w=.ok (.bool a.isNone) w:=fun w a n c n' c'=>Lib.run_eql_slice_nil w _ _ a n c n' c' underlying24;have ab:=hid (lP hr);have aa:=hid (l7.flat_len l);have ac:=hid (mC l);obtain ⟨n,hn⟩:∃ n,l.length=n:=⟨_,rfl⟩;rw [hn] at hl aa ⊢;obtain ⟨F,hF⟩:∃ F,l7.flat l=F:=⟨_,rfl⟩;rw [hF] at ab aa ac ⊢;clear hr hn hF;go_enter func93,ntmps93;go_wp2_with (at_builtin;refine Af _ rfl _ _ 24 rfl w.heap.size 92 i0 _ 3 40 underlying24 hi ae af ag rfl li _ _ _ rfl (Ae w #[] 0 (yx _) (zw _) lh) ad n c F rfl aa.out (fun j u hj=>Lib.cell?_alloc_some _ (ab.out j u hj)) ac.out ln lf lh ?_);intro v' w1 hown hgrow hnil;go_wp2;go_ret;refine ⟨v',rfl,by simpa using hown,?_,?_⟩
 ·exact hnil
 ·exact ((Below.refl _ w).alloc (yx _) _).grown hgrow lh (by intro k hk;simp [Value.ownBlock] at hk;omega)
theorem pJ (w:zg):zf prog 93 #[yw none 0 0] w fun e w'=>e=.returned (yw none 0 0)∧w'=w:=by
 have h:=AnyE.slices_Clone_nil Tryz.mkCloneE 0 0 w;change zf prog 93 _ _ _ at h;exact h
theorem ecat2 {W:zg} {p q:mo} (i j:Nat) (hp:o4 W p) (hq:o4 W q) (hi:p.l.length=i) (hj:q.l.length=j) (hs:i+j≤1000) (t:TypeId) :
 zf prog 201 #[yw (some ⟨W,0,none⟩) 2 2] (W.alloc (.cells #[yw p.a i p.c,yw q.a j q.c] t)) (yf (W.alloc (.cells #[yw p.a i p.c,yw q.a j q.c] t)) (p.l++q.l)):=by
 have hb:Below W W (W.alloc (.cells #[yw p.a i p.c,yw q.a j q.c] t)):=(Below.refl W W).alloc (yx _) _;have h:=yU W [p,q] (W.alloc (.cells #[yw p.a i p.c,yw q.a j q.c] t)) lh (fun k hk=>by
  match k,hk with
  | 0,_=>simp [Ag,mo.v,hi]
  | 1,_=>simp [Ag,mo.v,hj]) (fun k hk=>by
  match k,hk with
  | 0,_=>exact hp.later hb
  | 1,_=>exact hq.later hb) lh (by simp [r6];omega)
 have e:sr [p,q]=p.l++q.l:=by simp [sr]
 rw [e] at h;exact h
end Go.Proofs.YtbagenpobcgjnaaGreat
