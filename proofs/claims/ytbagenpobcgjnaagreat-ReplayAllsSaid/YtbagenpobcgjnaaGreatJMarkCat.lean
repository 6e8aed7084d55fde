/-
  Joined: MarkCat, OpenStk, Same, MarkRef3.
-/
import Derived.Test.YtbagenpobcgjnaaGreatMarkRef2
import Derived.Test.YtbagenpobcgjnaaGreatMarkShelf
import Derived.Laws.AppendOwnNone
import Derived.Test.YtbagenpobcgjnaaGreatJOpDev
import Derived.Test.YtbagenpobcgjnaaGreatJStkRow
import Derived.Test.YtbagenpobcgjnaaGreatStaMem
import Derived.Test.YtbagenpobcgjnaaGreatJSq
open Go renaming Addr->zg,Calls->zh,World->ze,info_parts->zo
open Go.Lib renaming hid->yv
open Go.RowKit renaming Below->yw,intOf->zf
open Go.RowKit.Below renaming refl->zi
open Go.Value renaming int->yx,slice->zj,string->yz
open List renaming map_append->zu,sum_append->zv,take_of_length_le->zq
open Nat renaming le_refl->zd,le_trans->zm,lt_or_ge->zs,zero_le->zp
variable {w:Go.World}
namespace Go.Proofs.YtbagenpobcgjnaaGreat
open Go.Proofs.Tryz
set_option maxRecDepth 100000
open Lib (hid)
open Go.Shelf Go.RowKit
set_option linter.unusedVariables false
structure Pc where
 a:Option zg
 l:List l8
 c:Nat
instance :Inhabited Pc:=⟨⟨none,[],0⟩⟩
def Pc.v (x:Pc):Value:=zj x.a x.l.length x.c
structure uj (w:ze) (x:Pc):Prop where
 row:o7 w (·<w) x.a x.l
 nil:x.a=none→x.c=0
theorem uj.len {x:Pc} (h:uj w x) (hn:x.a=none):x.l=[]:=by
 cases hl:x.l with
 | nil=>rfl
 | cons y r =>
  obtain ⟨ad,e,-⟩:=h.row 0 (by rw [hl];simp);rw [hn] at e;cases e
theorem LA (ad:zg) (k:Nat):(⟨(ad.add (k * 2)).block,(ad.add (k * 2)).off+1,none⟩:zg)=ad.add (k * 2+1):=by
 unfold Addr.add;by_cases hk:k * 2=0
 ·simp [hk]
 ·simp [hk];omega
theorem sY {B:Nat→Prop} {ad:zg} {l:List l8} (h:o7 w B (some ad) l):∀ j u,(l8.flat l)[j]? = some u→w (ad.add j)=some u:=fun j u hj=>by
 have hlt:j<l.length * 2:=by
  rcases zs j (l.length * 2) with g|g
  ·exact g
  ·rw [List.getElem?_eq_none (by rw [l8.flat_len];exact g)] at hj;cases hj
 obtain ⟨ad',e,-,q0,q1⟩:=h (j / 2) lf;obtain rfl:ad=ad':=by injection e
 obtain ⟨g0,g1⟩:=l8.flat_get l (j / 2) lf;rcases (show j=j / 2 * 2∨j=j / 2 * 2+1 by omega) with g|g
 ·rw [g] at hj ⊢;rw [g0] at hj;rw [q0];exact hj
 ·rw [g] at hj ⊢;rw [g1] at hj;rw [← LA,q1];exact hj
theorem vQ (l:List l8):∀ u∈l8.flat l,u.oneCell'=true:=fun u hu=>by
 unfold l8.flat at hu;obtain ⟨x,-,hx⟩:=List.mem_flatMap.1 hu;exact aY _ _ u hx
set_option maxHeartbeats 800000 in
theorem FK (n:Nat) (hn:n≤1000000) (w:ze):zh prog 203 #[zj none 0 0,yx .i64 n] w fun e w'=>∃ v,e=.returned v∧w'.ownsRow w 90 2 v 0 []∧yw w w w':=by
 obtain ⟨i0,hi,aa,ab,ac⟩:=zo dK;rcases Nat.eq_zero_or_pos n with rfl|hp
 ·have h:=Any8.slices_Grow_room Tryz.mkGrow none 0 0 0 w (zd _) lf lf lf;change zh prog 203 _ _ _ at h;refine h.mono ?_;rintro e w' ⟨rfl,rfl⟩;exact ⟨_,rfl,World.ownsRow_nil _ _ _ _,zi _ _⟩
 ·have h:=Any8.slices_Grow_grow Tryz.mkGrow i0 _ hi aa (by rw [ab];decide) none 0 0 n [] w (zd _) lf (by rw [ac];omega) lf lh (fun _=>rfl) (fun a e=>by cases e);change zh prog 203 _ _ _ at h;refine h.mono ?_;rintro e w' ⟨rfl,rfl⟩;have hge:=grownCap_ge w (0+n) 0 (Tryz.mkGrow_ren.t 25);have hle:=grownCap_le_maxLen w (0+n) 0 (Tryz.mkGrow_ren.t 25) ln;refine ⟨_,rfl,World.ownsRow_made w.drew _ _ (zd _) hle ?_,((zi w w).drew).alloc (zd _) _⟩;simp only [Nat.zero_add] at hge ⊢;simp [Builtin.zeroCells,Value.cells];omega
def tt (ps:List Pc):Nat:=(ps.map fun x=>x.l.length).sum
def uy (ps:List Pc):List l8:=ps.flatMap fun x=>x.l
theorem pget {ps:List Pc} {k:Nat} (h:k<ps.length):ps[k]! = ps[k]:=getElem!_pos ps k h
theorem ptake (ps:List Pc) (k:Nat) (h:k<ps.length):ps.take (k+1)=ps.take k++[ps[k]!]:=by
 rw [List.take_succ_eq_append_getElem h,pget h]
theorem sZ (ps:List Pc) (k:Nat) (h:k<ps.length):tt (ps.take (k+1))=tt (ps.take k)+(ps[k]!).l.length:=by
 unfold tt;rw [ptake ps k h,zu,zv];simp
theorem IW (ps:List Pc) (k:Nat) (h:k<ps.length):uy (ps.take (k+1))=uy (ps.take k)++(ps[k]!).l:=by
 unfold uy;rw [ptake ps k h,List.flatMap_append];simp
theorem LG (ps:List Pc):(uy ps).length=tt ps:=by
 unfold uy tt;rw [List.length_flatMap]
theorem nC (ps:List Pc) (k:Nat):tt (ps.take k)≤tt ps:=by
 have e:=congrArg tt (List.take_append_drop k ps);unfold tt at e ⊢;rw [zu,zv] at e;omega
set_option maxHeartbeats 1600000 in
theorem lB (r:Nat) (ps:List Pc) (w:ze) (hr:r<w) (hps:∀ k,k<ps.length→w ⟨r,k,none⟩=some (ps[k]!).v) (hp:∀ k,k<ps.length→uj w ps[k]!) (hl:ps.length≤1000) (hs:tt ps≤100000) :
 zh prog 180 #[zj (some ⟨r,0,none⟩) ps.length ps.length] w (sa w (uy ps)):=by
 obtain ⟨i0,hi,aj,ak,al⟩:=zo dK;obtain ⟨m,hm⟩:∃ m,ps.length=m:=⟨_,rfl⟩;rw [hm] at hl ⊢;have HM:=yv hm;have ae:=yv hps;have HP:=yv hp;have HS:=yv hs;have HR:=yv hr;clear hm hps hp hs hr;go_enter func180,ntmps180;go_wp2
 go_loop [3,11] (fun z i=>∃ k:Nat,k≤m∧i=yx .i64 k∧z=yx .i64 (tt (ps.take k):Nat)) (fun _ i=>m - (zf i).toNat)
 case atStart=>exact ⟨0,zp _,rfl,rfl⟩
 case round =>
  obtain ⟨k,hk,rfl,rfl⟩:=hrel;have hb:=zm (nC ps k) HS.out;by_cases hlt:k<m
  ·have hkl:k<ps.length:=by rw [HM.out];exact hlt
   have q0:=ae.out k hkl;have h2:=sZ ps k hkl;have am:=zm (nC ps (k+1)) HS.out;obtain ⟨x,hx⟩:∃ x,ps[k]! = x:=⟨_,rfl⟩;rw [hx] at q0 h2;obtain ⟨xa,xl,xc⟩:=x;simp only [Pc.v] at q0 h2;obtain ⟨n,hn⟩:∃ n,xl.length=n:=⟨_,rfl⟩;rw [hn] at q0 h2;obtain ⟨s,hs⟩:∃ s,tt (ps.take k)=s:=⟨_,rfl⟩;rw [hs] at h2 hb ⊢;have HX:=yv h2;have aw:s+n≤100000:=lf;have b0:(0:Int)≤(k:Int):=lf;have b1:(k:Int)<(m:Int):=lf;have b2:¬ (s:Int)+(n:Int)<0:=lf;clear hx hn hs h2 am;go_wp2
   go_round
   case rel=>exact ⟨k+1,lf,by go_num,by rw [HX.out];go_num⟩
   case measure=>simp [zf];omega
  ·obtain rfl:k=m:=lf;have hz:tt (ps.take k)=tt ps:=by rw [zq (by rw [HM.out];exact zd _)]
   rw [hz] at hb ⊢;obtain ⟨s,hs⟩:∃ s,tt ps=s:=⟨_,rfl⟩;rw [hs] at hb ⊢;have cg:=FK s lf w;have CG:=yv cg;have ax:=yv hs;clear hz hs cg;go_wp2_with fail;refine CG.out.mono ?_;rintro e w1 ⟨v,rfl,ab,aa⟩;have an:=yv aa;have HO:=yv ab;clear aa ab;go_wp2
   go_loopw [6,27] (fun v i wr=>∃ j:Nat,j≤k∧i=yx .i64 j∧wr.ownsRow w 90 2 v (uy (ps.take j)).length (l8.flat (uy (ps.take j)))∧yw w w wr) (fun _ i _=>k - (zf i).toNat)
   case atStart=>exact ⟨0,zp _,rfl,HO.out,an.out⟩
   case round =>
    obtain ⟨j,hj,rfl,hown,hbel⟩:=hrel;have hlen:=LG (ps.take j);have hle:=zm (nC ps j) HS.out;by_cases hlt:j<k
    ·have hjl:j<ps.length:=by rw [HM.out];exact hlt
     have q0:=(hbel.cell (p:=⟨r,j,none⟩) HR.out).trans (ae.out j hjl);have hp:=HP.out j hjl;have h2:=IW ps j hjl;have h3:=sZ ps j hjl;have ai:=zm (nC ps (j+1)) HS.out;obtain ⟨x,hx⟩:∃ x,ps[j]! = x:=⟨_,rfl⟩;rw [hx] at q0 hp h2 h3;obtain ⟨o,ho⟩:∃ o,uy (ps.take j)=o:=⟨_,rfl⟩;rw [ho] at hown hlen h2;have hol:o.length≤100000:=lf;have hxl:o.length+x.l.length≤100000:=lf;have H2:=yv h2;have b0:(0:Int)≤(j:Int):=lf;have b1:(j:Int)<(k:Int):=lf;clear hx ho h2 h3 hlen hle ai;obtain ⟨xa,xl,xc⟩:=x;cases xa with
     | none =>
      have e0:xl=[]:=hp.len rfl;have e1:xc=0:=hp.nil rfl;subst e0;subst e1;simp only [Pc.v,List.length_nil] at q0;clear hp hxl;go_wp2_with (at_builtin;refine wpList_append_own_none rfl _ _ 22 rfl w.heap.size 90 i0 2 underlying22 hi _ _ _ rfl hown rfl ?_);go_roundw
      case rel=>exact ⟨j+1,lf,by go_num,by rw [H2.out,List.append_nil];exact hown,hbel⟩
      case measure=>simp [zf];omega
     | some ad =>
      have hnews:=sY (hp.row.below (fun _ h=>h) hbel);simp only [Pc.v] at q0;have hfl:=l8.flat_len xl;have hofl:=vQ xl;obtain ⟨n,hn⟩:∃ n,xl.length=n:=⟨_,rfl⟩;simp only [hn] at q0 hxl hfl;have ao:=yv hnews;have aq:=yv hfl;have ar:=yv hofl;have ac:=yv hn;clear hp hnews hfl hofl hn;go_wp2_with (at_builtin;refine wpList_append_own _ rfl _ _ 22 rfl w.heap.size 90 i0 _ 2 24 underlying22 hi aj ak al rfl li _ _ _ rfl hown ad n xc (l8.flat xl) rfl aq.out ao.out ar.out ln lf hbel.size ?_;intro v1 w1 af ag _);have aa:yw w w w1:=hbel.grown ag hbel.size (aA hown);have ah:w1.ownsRow w 90 2 v1 (uy (ps.take (j+1))).length (l8.flat (uy (ps.take (j+1)))):=by
       rw [H2.out,l8.flat_app,List.length_append,ac.out];exact af
      have au:=yv ah;have av:=yv aa;clear af ag hown hbel aa ah q0;go_wp2;go_roundw
      case rel=>exact ⟨j+1,lf,by go_num,au.out,av.out⟩
      case measure=>simp [zf];omega
    ·obtain rfl:j=k:=lf;rw [zq (by rw [HM.out];exact zd _)] at hown;obtain ⟨ad,cp,rfl,hn⟩:=cK hown;have ac:=yv hn;clear hn hown;go_wp2;go_ret;exact ⟨ad,cp,rfl,ac.out,hbel⟩
end Go.Proofs.YtbagenpobcgjnaaGreat
namespace Go.Proofs.YtbagenpobcgjnaaGreat
open Go.RowKit Go.ChangeShapes Go.WideShapes Go.Deep
set_option linter.unusedVariables false
section
variable {H : Type} {enc : TypeId × Value → H} {w : World} {base : Nat} {spare : Nat → Bool} {held : Bool}
end
end Go.Proofs.YtbagenpobcgjnaaGreat
namespace Go.Proofs.YtbagenpobcgjnaaGreat
open Go.RowKit
set_option linter.unusedVariables false
set_option linter.unusedSimpArgs false
open Go.Proofs.Tryz
set_option maxRecDepth 100000
open Lib (hid)
theorem lM {w':ze} {base:Nat} {e:TypeId} {size:Nat} {v:Value} {n:Nat} {xs:List Value} (h:w.ownsRow base e size v n xs) (hb:yw w w w'):w'.ownsRow base e size v n xs:=by
 refine ⟨h.1,?_⟩;rcases h.2 with h2|⟨g,cap,cur,hv,aa,hg,hr⟩
 ·exact .inl h2
 ·exact .inr ⟨g,cap,cur,hv,aa,(hb.block g (by rcases zs g w.heap.size with h' | h';exact h';rw [Array.getElem?_eq_none h'] at hg;cases hg)).trans hg,hr⟩
section
variable {wX w2 w3 : World} {ad : Addr} {b k : Nat} {x y z u v : Value}
theorem vZ (h:yw wX wX w2∧w2 (ad.add (k * 2))=some x∧w2 ⟨(ad.add (k * 2)).block,(ad.add (k * 2)).off+1,none⟩=some y∧w2 ⟨b,0,none⟩=some z∧w2 ⟨b,1,none⟩=some u∧w2 ⟨b,2,none⟩=some v)
 (hb:yw wX wX w3) (hab:ad.block<wX) (hx:b<wX) :
 yw wX wX w3∧w3 (ad.add (k * 2))=some x∧w3 ⟨(ad.add (k * 2)).block,(ad.add (k * 2)).off+1,none⟩=some y∧w3 ⟨b,0,none⟩=some z∧w3 ⟨b,1,none⟩=some u∧w3 ⟨b,2,none⟩=some v:=by
 have e:(ad.add (k * 2)).block=ad.block:=by unfold Addr.add;split <;> rfl
 have g:∀ p:zg,p.block<wX→w3 p=w2 p:=fun p hp=>(hb.cell hp).trans (h.1.cell hp).symm;exact ⟨hb,(g _ (by rw [e];exact hab)).trans h.2.1,(g _ (by show (ad.add (k * 2)).block<_;rw [e];exact hab)).trans h.2.2.1,(g _ hx).trans h.2.2.2.1,(g _ hx).trans h.2.2.2.2.1,(g _ hx).trans h.2.2.2.2.2⟩
theorem AE (h:yw wX wX w2∧w2 (ad.add (k * 2))=some x∧w2 ⟨(ad.add (k * 2)).block,(ad.add (k * 2)).off+1,none⟩=some y∧w2 ⟨b,0,none⟩=some z∧w2 ⟨b,1,none⟩=some u∧w2 ⟨b,2,none⟩=some v)
 (hb:yw w2 w2 w3) (hab:ad.block<wX) (hx:b<wX) :
 yw wX wX w3∧w3 (ad.add (k * 2))=some x∧w3 ⟨(ad.add (k * 2)).block,(ad.add (k * 2)).off+1,none⟩=some y∧w3 ⟨b,0,none⟩=some z∧w3 ⟨b,1,none⟩=some u∧w3 ⟨b,2,none⟩=some v:=
 vZ h (h.1.trans (hb.mono h.1.size)) hab hx
end
theorem IQ {wr:ze} {x y z:Value} {t:TypeId} {N:Nat} (hN:w<N) (h:yw N (w.alloc (.cells #[x,y,z] t)) wr):wr ⟨w,0,none⟩=some x∧wr ⟨w,1,none⟩=some y∧wr ⟨w,2,none⟩=some z:=by
 refine ⟨(h.cell (p:=⟨w,0,none⟩) hN).trans ?_,(h.cell (p:=⟨w,1,none⟩) hN).trans ?_,(h.cell (p:=⟨w,2,none⟩) hN).trans ?_⟩ <;> simp [World.cell?_alloc_new]
set_option maxHeartbeats 1600000 in
theorem tQ (a:Option zg) (l:List l8) (c:Nat) (ep:Int) (eo en:ByteArray) (B:Nat→Prop) (w:ze) (hr:o7 w B a l) (hB:∀ b,B b→b<w.heap.size) (hl:l.length≤1000000)
 (ho:eo.size≤140737488355328) (hn:en.size≤140737488355328) (hp:-2305843009213693952≤ep∧ep≤2305843009213693952) (ha:∀ x∈l,-2305843009213693952≤x.p∧x.p≤2305843009213693952) :
 zh prog 101 #[zj a l.length c,vj ep eo en] w (sa w (pd l (mw ep eo.size en.size))):=by
 obtain ⟨i0,hi,al,am,an⟩:=zo dK;have cs:=fun x (hx:x∈l)=>EO ep x.p eo en ho hn hp (ha x hx);obtain ⟨F,hF⟩:∃ F,mw ep eo.size en.size=F:=⟨_,rfl⟩;rw [hF] at cs ⊢;obtain ⟨wX,hwX⟩:∃ wX,w.alloc (.cells #[yx .i64 ep,yz eo,yz en] 92)=wX:=⟨_,rfl⟩;have ag:yw w w (w.alloc (.cells #[yx .i64 ep,yz eo,yz en] 92)):=(zi w w).alloc (zd _) _;obtain ⟨x0,x1,x2⟩:=IQ (N:=w.heap.size+1) lf (zi (w+1) (w.alloc (.cells #[yx .i64 ep,yz eo,yz en] 92)));have ao:w.heap.size+1≤wX.heap.size:=by rw [← hwX];simp
 have hrX:o7 wX (·<wX) a l:=by rw [← hwX];exact (hr.below hB ag).more fun b hb=>by have:=hB b hb;simp;omega
 have hend:∀ w',yw wX wX w'→yw w w w':=fun w' h=>lV (N:=wX.heap.size) lf (by rw [hwX];exact h);rw [hwX] at x0 x1 x2;obtain ⟨n,ac⟩:∃ n,l.length=n:=⟨_,rfl⟩;rw [ac] at hl ⊢;have HN:=yv ac;have HR:=yv hrX;have CS:=yv cs;have ak:=yv hend;have aa:=yv (show w.heap.size<wX by omega);clear ac hr hrX cs hF ag hend ho hn hp ha;show zh prog 101 #[zj a n c,.agg #[yx .i64 ep,yz eo,yz en]] w _;go_enter func101,ntmps101;go_wp2;clear hwX
 go_loopw [5,6] (fun v i wr=>∃ k:Nat,k≤n∧i=yx .i64 k∧wr.ownsRow wX 90 2 v k (l8.flat (pd (l.take k) F))∧yw wX wX wr) (fun _ i _=>n - (zf i).toNat)
 case atStart=>exact ⟨0,zp _,rfl,World.ownsRow_nil _ _ _ _,zi _ _⟩
 case round =>
  obtain ⟨k,hk,rfl,hown,hbel⟩:=hrel;by_cases hlt:k<n
  ·have hkl:k<l.length:=by rw [HN.out];exact hlt
   have y0:=(hbel.cell (p:=⟨w,0,none⟩) aa.out).trans x0;have y1:=(hbel.cell (p:=⟨w,1,none⟩) aa.out).trans x1;have y2:=(hbel.cell (p:=⟨w,2,none⟩) aa.out).trans x2;obtain ⟨ad,rfl,hab,q0,q1⟩:=(HR.out.below (fun _ h=>h) hbel) k hkl;have ae:=yv (show ad.block<wX from hab);have rs:=CS.out _ (List.getElem_mem hkl);rw [← o6 hkl] at q0 q1 rs;have hs:=rB l F k hkl;obtain ⟨x,hx⟩:∃ x,l[k]! = x:=⟨_,rfl⟩;rw [hx] at q0 q1 hs rs;obtain ⟨nm,id⟩:=x;simp only at q0 q1 hs rs;obtain ⟨r,hr⟩:∃ r,F id=r:=⟨_,rfl⟩;rw [hr] at hs rs;obtain ⟨o,ho⟩:∃ o,pd (l.take k) F=o:=⟨_,rfl⟩;rw [ho] at hs hown;have HS:=yv hs;have RS:=yv rs;have HO:=yv hown.drew;have b0:(0:Int)≤(k:Int):=lf;have b1:(k:Int)<(n:Int):=lf;clear hx hs rs hr ho hab ao hown;go_wp2_with fail;refine wp_region_held_drew (S:=(fun w':ze=>yw wX wX w'∧w' (ad.add (k * 2))=some (yz nm)∧w' ⟨(ad.add (k * 2)).block,(ad.add (k * 2)).off+1,none⟩=some (yx .i64 id)∧w' ⟨w,0,none⟩=some (yx .i64 ep)∧w' ⟨w,1,none⟩=some (yz eo)∧w' ⟨w,2,none⟩=some (yz en))) lg ⟨hbel.drew,q0,q1,y0,y1,y2⟩ (fun hHeld=>?_);refine wpAnyH_take (i:=0) (v:=?_) (by simp only [List.getElem?_toArray,List.getElem?_cons_zero];rfl) lg lg lg (fun _ _ _ h=>by exact h) (Or.inl ⟨lj,?_⟩) lm ?_;rotate_left
   ·(intro w hSw;(try dsimp only at hSw);go_simp;try with_reducible rfl)
   try simp only [Act.put,mj]
   refine ly 1 ?_;refine ly 2 ?_;refine ly 3 ?_;refine ly 4 ?_;refine ly 5 ?_;refine ly 6 ?_;refine ly 7 ?_;refine ly 8 ?_;refine ly 9 ?_;refine ly 10 ?_;refine ly 11 ?_;refine m8 12 fun K hK=>?_;go_simp
   (go_at_call 128;refine (RS.out _).mono ?_;rintro e w3 ⟨rfl,af⟩;have HK:=yv (AE hHeld af ae.out aa.out);have ah:=yv (lM HO.out af);clear af)
   try go_wp2_with fail
   refine hK.out _ _ ?_ (fun hHeld=>?_)
   ·exact HK.out
   clear hK K
   try simp only [Act.put,mj]
   refine ly 13 ?_;refine m8 14 fun K hK=>?_;go_simp;have ab:=yv (AE HK.out ((zi w3 w3).alloc (zd _) (.cells #[yz nm,yx .i64 r] 90)) ae.out aa.out);have ai:=yv (ab.out.1.size)
   try go_wp2_with fail
   refine hK.out _ _ ?_ (fun hHeld=>?_)
   ·exact ab.out
   clear hK K
   try simp only [Act.put,mj]
   refine m8 15 fun K hK=>?_;refine step_append_lies _ rfl (.tmp 13) (.tmp 27) 22 rfl wX.heap.size 90 i0 _ 2 24 underlying22 hi al am an rfl li u5 k (l8.flat o) rfl (ah.out.alloc _) ⟨w3,0,none⟩ 1 1 [yz nm,yx .i64 r] rfl rfl (aW w3 _ _ _) (aY _ _) lf ln lf ai.out _ rfl ?_;intro g5 cap w6 hown' hgrow _ _;have aj:=yv (ab.out.1.grown hgrow ai.out (aA ah.out));have aq:=yv (vZ ab.out aj.out ae.out aa.out);have ar:=yv hown';clear hown' hgrow;refine hK.out _ _ ?_ (fun hHeld=>?_)
   ·exact aq.out
   clear hK K
   try simp only [Act.put,mj]
   refine ly 16 ?_;refine wpAnyH_done lg ?_ _;go_wp2_with fail;go_roundw
   case rel=>exact ⟨k+1,lf,by go_num,by rw [HS.out,l8.flat_app];exact ar.out,aj.out⟩
   case measure=>simp [zf];omega
  ·obtain rfl:k=n:=lf;rw [zq (by rw [HN.out];exact zd _)] at hown;have hlm:(pd l F).length=k:=by rw [bJ,HN.out]
   rw [← hlm] at hown;obtain ⟨ad2,cp,rfl,hn⟩:=cK hown;have au:=yv hn;clear hn hown hlm;go_wp2;go_ret;exact ⟨ad2,cp,rfl,au.out.more (by have:=aa.out;omega),ak.out _ hbel⟩
end Go.Proofs.YtbagenpobcgjnaaGreat
