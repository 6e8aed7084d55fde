/-
  Joined: MarkCat, OpenStk, Same, MarkRef3.
-/
import Derived.Test.YtbagenpobcgjnaaGreatMarkRef2
import Derived.Test.YtbagenpobcgjnaaGreatMarkShelf
import Derived.Test.YtbagenpobcgjnaaGreatJStkRow
import Derived.Test.YtbagenpobcgjnaaGreatStaMem
import Derived.Test.YtbagenpobcgjnaaGreatJSq
open Go renaming Addr->zu,Calls->zv,World->zr,info_parts->Ab
open Go.Lib renaming hid->zk
open Go.RowKit renaming Below->zm,intOf->zt
open Go.RowKit.Below renaming refl->zw
open Go.Value renaming int->zn,slice->zx,string->zp
open List renaming map_append->Ai,sum_append->Aj,take_of_length_le->Ae
open Nat renaming le_refl->zq,le_trans->zz,lt_or_ge->Ag,zero_le->Ad
variable {w:Go.World}
namespace Go.Proofs.YtbagenpobcgjnaaGreat
open Go.Proofs.Tryz
set_option maxRecDepth 100000
open Lib (hid)
open Go.Shelf Go.RowKit
set_option linter.unusedVariables false
structure Pc where
 a:Option zu
 l:List l9
 c:Nat
instance :Inhabited Pc:=⟨⟨none,[],0⟩⟩
def Pc.v (x:Pc):Value:=zx x.a x.l.length x.c
structure uy (w:zr) (x:Pc):Prop where
 row:o4 w (·<w) x.a x.l
 nil:x.a=none→x.c=0
theorem uy.len {x:Pc} (h:uy w x) (hn:x.a=none):x.l=[]:=by
 cases hl:x.l with
 | nil=>rfl
 | cons y r =>
  obtain ⟨ad,e,-⟩:=h.row 0 (by rw [hl];simp);rw [hn] at e;cases e
theorem NJ (ad:zu) (k:Nat):(⟨(ad.add (k * 2)).block,(ad.add (k * 2)).off+1,none⟩:zu)=ad.add (k * 2+1):=by
 unfold Addr.add;by_cases hk:k * 2=0
 ·simp [hk]
 ·simp [hk];omega
theorem tA {B:Nat→Prop} {ad:zu} {l:List l9} (h:o4 w B (some ad) l):∀ j u,(l9.flat l)[j]? = some u→w (ad.add j)=some u:=fun j u hj=>by
 have hlt:j<l.length * 2:=by
  rcases Ag j (l.length * 2) with g|g
  ·exact g
  ·rw [List.getElem?_eq_none (by rw [l9.flat_len];exact g)] at hj;cases hj
 obtain ⟨ad',e,-,q0,q1⟩:=h (j / 2) lg;obtain rfl:ad=ad':=by injection e
 obtain ⟨g0,g1⟩:=l9.flat_get l (j / 2) lg;rcases (show j=j / 2 * 2∨j=j / 2 * 2+1 by omega) with g|g
 ·rw [g] at hj ⊢;rw [g0] at hj;rw [q0];exact hj
 ·rw [g] at hj ⊢;rw [g1] at hj;rw [← NJ,q1];exact hj
theorem vF (l:List l9):∀ u∈l9.flat l,u.oneCell'=true:=fun u hu=>by
 unfold l9.flat at hu;obtain ⟨x,-,hx⟩:=List.mem_flatMap.1 hu;exact bA _ _ u hx
set_option maxHeartbeats 800000 in
theorem ML (n:Nat) (hn:n≤1000000) (w:zr):zv prog 203 #[zx none 0 0,zn .i64 n] w fun e w'=>∃ v,e=.returned v∧w'.ownsRow w 90 2 v 0 []∧zm w w w':=by
 obtain ⟨i0,hi,aa,ab,ac⟩:=Ab dT;rcases Nat.eq_zero_or_pos n with rfl|hp
 ·have h:=Any8.slices_Grow_room Tryz.mkGrow none 0 0 0 w (zq _) lg lg lg;change zv prog 203 _ _ _ at h;refine h.mono ?_;rintro e w' ⟨rfl,rfl⟩;exact ⟨_,rfl,World.ownsRow_nil _ _ _ _,zw _ _⟩
 ·have h:=Any8.slices_Grow_grow Tryz.mkGrow i0 _ hi aa (by rw [ab];decide) none 0 0 n [] w (zq _) lg (by rw [ac];omega) lg li (fun _=>rfl) (fun a e=>by cases e);change zv prog 203 _ _ _ at h;refine h.mono ?_;rintro e w' ⟨rfl,rfl⟩;have hge:=grownCap_ge w (0+n) 0 (Tryz.mkGrow_ren.t 25);have hle:=grownCap_le_maxLen w (0+n) 0 (Tryz.mkGrow_ren.t 25) lq;refine ⟨_,rfl,World.ownsRow_made w.drew _ _ (zq _) hle ?_,((zw w w).drew).alloc (zq _) _⟩;simp only [Nat.zero_add] at hge ⊢;simp [Builtin.zeroCells,Value.cells];omega
def uk (ps:List Pc):Nat:=(ps.map fun x=>x.l.length).sum
def vg (ps:List Pc):List l9:=ps.flatMap fun x=>x.l
theorem pget {ps:List Pc} {k:Nat} (h:k<ps.length):ps[k]! = ps[k]:=getElem!_pos ps k h
theorem ptake (ps:List Pc) (k:Nat) (h:k<ps.length):ps.take (k+1)=ps.take k++[ps[k]!]:=by
 rw [List.take_succ_eq_append_getElem h,pget h]
theorem tE (ps:List Pc) (k:Nat) (h:k<ps.length):uk (ps.take (k+1))=uk (ps.take k)+(ps[k]!).l.length:=by
 unfold uk;rw [ptake ps k h,Ai,Aj];simp
theorem LU (ps:List Pc) (k:Nat) (h:k<ps.length):vg (ps.take (k+1))=vg (ps.take k)++(ps[k]!).l:=by
 unfold vg;rw [ptake ps k h,List.flatMap_append];simp
theorem NZ (ps:List Pc):(vg ps).length=uk ps:=by
 unfold vg uk;rw [List.length_flatMap]
theorem nI (ps:List Pc) (k:Nat):uk (ps.take k)≤uk ps:=by
 have e:=congrArg uk (List.take_append_drop k ps);unfold uk at e ⊢;rw [Ai,Aj] at e;omega
set_option maxHeartbeats 1600000 in
theorem lQ (r:Nat) (ps:List Pc) (w:zr) (hr:r<w) (hps:∀ k,k<ps.length→w ⟨r,k,none⟩=some (ps[k]!).v) (hp:∀ k,k<ps.length→uy w ps[k]!) (hl:ps.length≤1000) (hs:uk ps≤100000) :
 zv prog 180 #[zx (some ⟨r,0,none⟩) ps.length ps.length] w (sb w (vg ps)):=by
 obtain ⟨i0,hi,aj,ak,al⟩:=Ab dT;obtain ⟨m,hm⟩:∃ m,ps.length=m:=⟨_,rfl⟩;rw [hm] at hl ⊢;have HM:=zk hm;have ae:=zk hps;have HP:=zk hp;have HS:=zk hs;have HR:=zk hr;clear hm hps hp hs hr;go_enter func180,ntmps180;go_wp2
 go_loop [3,11] (fun z i=>∃ k:Nat,k≤m∧i=zn .i64 k∧z=zn .i64 (uk (ps.take k):Nat)) (fun _ i=>m - (zt i).toNat)
 case atStart=>exact ⟨0,Ad _,rfl,rfl⟩
 case round =>
  obtain ⟨k,hk,rfl,rfl⟩:=hrel;have hb:=zz (nI ps k) HS.out;by_cases hlt:k<m
  ·have hkl:k<ps.length:=by rw [HM.out];exact hlt
   have q0:=ae.out k hkl;have h2:=tE ps k hkl;have am:=zz (nI ps (k+1)) HS.out;obtain ⟨x,hx⟩:∃ x,ps[k]! = x:=⟨_,rfl⟩;rw [hx] at q0 h2;obtain ⟨xa,xl,xc⟩:=x;simp only [Pc.v] at q0 h2;obtain ⟨n,hn⟩:∃ n,xl.length=n:=⟨_,rfl⟩;rw [hn] at q0 h2;obtain ⟨s,hs⟩:∃ s,uk (ps.take k)=s:=⟨_,rfl⟩;rw [hs] at h2 hb ⊢;have HX:=zk h2;have aw:s+n≤100000:=lg;have b0:(0:Int)≤(k:Int):=lg;have b1:(k:Int)<(m:Int):=lg;have b2:¬ (s:Int)+(n:Int)<0:=lg;clear hx hn hs h2 am;go_wp2
   go_round
   case rel=>exact ⟨k+1,lg,by go_num,by rw [HX.out];go_num⟩
   case measure=>simp [zt];omega
  ·obtain rfl:k=m:=lg;have hz:uk (ps.take k)=uk ps:=by rw [Ae (by rw [HM.out];exact zq _)]
   rw [hz] at hb ⊢;obtain ⟨s,hs⟩:∃ s,uk ps=s:=⟨_,rfl⟩;rw [hs] at hb ⊢;have cg:=ML s lg w;have CG:=zk cg;have ax:=zk hs;clear hz hs cg;go_wp2_with fail;refine CG.out.mono ?_;rintro e w1 ⟨v,rfl,ab,aa⟩;have an:=zk aa;have HO:=zk ab;clear aa ab;go_wp2
   go_loopw [6,27] (fun v i wr=>∃ j:Nat,j≤k∧i=zn .i64 j∧wr.ownsRow w 90 2 v (vg (ps.take j)).length (l9.flat (vg (ps.take j)))∧zm w w wr) (fun _ i _=>k - (zt i).toNat)
   case atStart=>exact ⟨0,Ad _,rfl,HO.out,an.out⟩
   case round =>
    obtain ⟨j,hj,rfl,hown,hbel⟩:=hrel;have hlen:=NZ (ps.take j);have hle:=zz (nI ps j) HS.out;by_cases hlt:j<k
    ·have hjl:j<ps.length:=by rw [HM.out];exact hlt
     have q0:=(hbel.cell (p:=⟨r,j,none⟩) HR.out).trans (ae.out j hjl);have hp:=HP.out j hjl;have h2:=LU ps j hjl;have h3:=tE ps j hjl;have ai:=zz (nI ps (j+1)) HS.out;obtain ⟨x,hx⟩:∃ x,ps[j]! = x:=⟨_,rfl⟩;rw [hx] at q0 hp h2 h3;obtain ⟨o,ho⟩:∃ o,vg (ps.take j)=o:=⟨_,rfl⟩;rw [ho] at hown hlen h2;have hol:o.length≤100000:=lg;have hxl:o.length+x.l.length≤100000:=lg;have H2:=zk h2;have b0:(0:Int)≤(j:Int):=lg;have b1:(j:Int)<(k:Int):=lg;clear hx ho h2 h3 hlen hle ai;obtain ⟨xa,xl,xc⟩:=x;cases xa with
     | none =>
      have e0:xl=[]:=hp.len rfl;have e1:xc=0:=hp.nil rfl;subst e0;subst e1;simp only [Pc.v,List.length_nil] at q0;clear hp hxl;go_wp2_with (at_builtin;refine wpList_append_own_none rfl _ _ 22 rfl w.heap.size 90 i0 2 underlying22 hi _ _ _ rfl hown rfl ?_);go_roundw
      case rel=>exact ⟨j+1,lg,by go_num,by rw [H2.out,List.append_nil];exact hown,hbel⟩
      case measure=>simp [zt];omega
     | some ad =>
      have hnews:=tA (hp.row.below (fun _ h=>h) hbel);simp only [Pc.v] at q0;have hfl:=l9.flat_len xl;have hofl:=vF xl;obtain ⟨n,hn⟩:∃ n,xl.length=n:=⟨_,rfl⟩;simp only [hn] at q0 hxl hfl;have ao:=zk hnews;have aq:=zk hfl;have ar:=zk hofl;have ac:=zk hn;clear hp hnews hfl hofl hn;go_wp2_with (at_builtin;refine wpList_append_own _ rfl _ _ 22 rfl w.heap.size 90 i0 _ 2 24 underlying22 hi aj ak al rfl lj _ _ _ rfl hown ad n xc (l9.flat xl) rfl aq.out ao.out ar.out lq lg hbel.size ?_;intro v1 w1 af ag _);have aa:zm w w w1:=hbel.grown ag hbel.size (aB hown);have ah:w1.ownsRow w 90 2 v1 (vg (ps.take (j+1))).length (l9.flat (vg (ps.take (j+1)))):=by
       rw [H2.out,l9.flat_app,List.length_append,ac.out];exact af
      have au:=zk ah;have av:=zk aa;clear af ag hown hbel aa ah q0;go_wp2;go_roundw
      case rel=>exact ⟨j+1,lg,by go_num,au.out,av.out⟩
      case measure=>simp [zt];omega
    ·obtain rfl:j=k:=lg;rw [Ae (by rw [HM.out];exact zq _)] at hown;obtain ⟨ad,cp,rfl,hn⟩:=dB hown;have ac:=zk hn;clear hn hown;go_wp2;go_ret;exact ⟨ad,cp,rfl,ac.out,hbel⟩
end Go.Proofs.YtbagenpobcgjnaaGreat
namespace Go.Proofs.YtbagenpobcgjnaaGreat
open Go.RowKit Go.ChangeShapes Go.WideShapes Go.Deep
set_option linter.unusedVariables false
section
variable {H : Type} {enc : TypeId × Value → H} {w : World} {base : Nat} {spare : Nat → Bool} {held : Bool}
end
end Go.Proofs.YtbagenpobcgjnaaGreat
namespace Go.Proofs.YtbagenpobcgjnaaGreat
open Go.RowKit
set_option linter.unusedVariables false
set_option linter.unusedSimpArgs false
open Go.Proofs.Tryz
set_option maxRecDepth 100000
open Lib (hid)
theorem tN {w':zr} {base:Nat} {e:TypeId} {size:Nat} {v:Value} {n:Nat} {xs:List Value} (h:w.ownsRow base e size v n xs) (hb:zm w w w'):w'.ownsRow base e size v n xs:=by
 refine ⟨h.1,?_⟩;rcases h.2 with h2|⟨g,cap,cur,hv,aa,hg,hr⟩
 ·exact .inl h2
 ·exact .inr ⟨g,cap,cur,hv,aa,(hb.block g (by rcases Ag g w.heap.size with h' | h';exact h';rw [Array.getElem?_eq_none h'] at hg;cases hg)).trans hg,hr⟩
section
variable {wX w2 w3 : World} {ad : Addr} {b k : Nat} {x y z u v : Value}
theorem yC (h:zm wX wX w2∧w2 (ad.add (k * 2))=some x∧w2 ⟨(ad.add (k * 2)).block,(ad.add (k * 2)).off+1,none⟩=some y∧w2 ⟨b,0,none⟩=some z∧w2 ⟨b,1,none⟩=some u∧w2 ⟨b,2,none⟩=some v)
 (hb:zm wX wX w3) (hab:ad.block<wX) (hx:b<wX) :
 zm wX wX w3∧w3 (ad.add (k * 2))=some x∧w3 ⟨(ad.add (k * 2)).block,(ad.add (k * 2)).off+1,none⟩=some y∧w3 ⟨b,0,none⟩=some z∧w3 ⟨b,1,none⟩=some u∧w3 ⟨b,2,none⟩=some v:=by
 have e:(ad.add (k * 2)).block=ad.block:=by unfold Addr.add;split <;> rfl
 have g:∀ p:zu,p.block<wX→w3 p=w2 p:=fun p hp=>(hb.cell hp).trans (h.1.cell hp).symm;exact ⟨hb,(g _ (by rw [e];exact hab)).trans h.2.1,(g _ (by show (ad.add (k * 2)).block<_;rw [e];exact hab)).trans h.2.2.1,(g _ hx).trans h.2.2.2.1,(g _ hx).trans h.2.2.2.2.1,(g _ hx).trans h.2.2.2.2.2⟩
theorem DD (h:zm wX wX w2∧w2 (ad.add (k * 2))=some x∧w2 ⟨(ad.add (k * 2)).block,(ad.add (k * 2)).off+1,none⟩=some y∧w2 ⟨b,0,none⟩=some z∧w2 ⟨b,1,none⟩=some u∧w2 ⟨b,2,none⟩=some v)
 (hb:zm w2 w2 w3) (hab:ad.block<wX) (hx:b<wX) :
 zm wX wX w3∧w3 (ad.add (k * 2))=some x∧w3 ⟨(ad.add (k * 2)).block,(ad.add (k * 2)).off+1,none⟩=some y∧w3 ⟨b,0,none⟩=some z∧w3 ⟨b,1,none⟩=some u∧w3 ⟨b,2,none⟩=some v:=
 yC h (h.1.trans (hb.mono h.1.size)) hab hx
end
theorem JR {wr:zr} {x y z:Value} {t:TypeId} {N:Nat} (hN:w<N) (h:zm N (w.alloc (.cells #[x,y,z] t)) wr):wr ⟨w,0,none⟩=some x∧wr ⟨w,1,none⟩=some y∧wr ⟨w,2,none⟩=some z:=by
 refine ⟨(h.cell (p:=⟨w,0,none⟩) hN).trans ?_,(h.cell (p:=⟨w,1,none⟩) hN).trans ?_,(h.cell (p:=⟨w,2,none⟩) hN).trans ?_⟩ <;> simp [World.cell?_alloc_new]
set_option maxHeartbeats 1600000 in
theorem uN (a:Option zu) (l:List l9) (c:Nat) (ep:Int) (eo en:ByteArray) (B:Nat→Prop) (w:zr) (hr:o4 w B a l) (hB:∀ b,B b→b<w.heap.size) (hl:l.length≤1000000)
 (ho:eo.size≤140737488355328) (hn:en.size≤140737488355328) (hp:-2305843009213693952≤ep∧ep≤2305843009213693952) (ha:∀ x∈l,-2305843009213693952≤x.p∧x.p≤2305843009213693952) :
 zv prog 101 #[zx a l.length c,vt ep eo en] w (sb w (pb l (mu ep eo.size en.size))):=by
 obtain ⟨i0,hi,al,am,an⟩:=Ab dT;have cs:=fun x (hx:x∈l)=>GX ep x.p eo en ho hn hp (ha x hx);obtain ⟨F,hF⟩:∃ F,mu ep eo.size en.size=F:=⟨_,rfl⟩;rw [hF] at cs ⊢;obtain ⟨wX,hwX⟩:∃ wX,w.alloc (.cells #[zn .i64 ep,zp eo,zp en] 92)=wX:=⟨_,rfl⟩;have ag:zm w w (w.alloc (.cells #[zn .i64 ep,zp eo,zp en] 92)):=(zw w w).alloc (zq _) _;obtain ⟨x0,x1,x2⟩:=JR (N:=w.heap.size+1) lg (zw (w+1) (w.alloc (.cells #[zn .i64 ep,zp eo,zp en] 92)));have ao:w.heap.size+1≤wX.heap.size:=by rw [← hwX];simp
 have hrX:o4 wX (·<wX) a l:=by rw [← hwX];exact (hr.below hB ag).more fun b hb=>by have:=hB b hb;simp;omega
 have hend:∀ w',zm wX wX w'→zm w w w':=fun w' h=>mP (N:=wX.heap.size) lg (by rw [hwX];exact h);rw [hwX] at x0 x1 x2;obtain ⟨n,ac⟩:∃ n,l.length=n:=⟨_,rfl⟩;rw [ac] at hl ⊢;have HN:=zk ac;have HR:=zk hrX;have CS:=zk cs;have ak:=zk hend;have aa:=zk (show w.heap.size<wX by omega);clear ac hr hrX cs hF ag hend ho hn hp ha;show zv prog 101 #[zx a n c,.agg #[zn .i64 ep,zp eo,zp en]] w _;go_enter func101,ntmps101;go_wp2;clear hwX
 go_loopw [5,6] (fun v i wr=>∃ k:Nat,k≤n∧i=zn .i64 k∧wr.ownsRow wX 90 2 v k (l9.flat (pb (l.take k) F))∧zm wX wX wr) (fun _ i _=>n - (zt i).toNat)
 case atStart=>exact ⟨0,Ad _,rfl,World.ownsRow_nil _ _ _ _,zw _ _⟩
 case round =>
  obtain ⟨k,hk,rfl,hown,hbel⟩:=hrel;by_cases hlt:k<n
  ·have hkl:k<l.length:=by rw [HN.out];exact hlt
   have y0:=(hbel.cell (p:=⟨w,0,none⟩) aa.out).trans x0;have y1:=(hbel.cell (p:=⟨w,1,none⟩) aa.out).trans x1;have y2:=(hbel.cell (p:=⟨w,2,none⟩) aa.out).trans x2;obtain ⟨ad,rfl,hab,q0,q1⟩:=(HR.out.below (fun _ h=>h) hbel) k hkl;have ae:=zk (show ad.block<wX from hab);have rs:=CS.out _ (List.getElem_mem hkl);rw [← o3 hkl] at q0 q1 rs;have hs:=sP l F k hkl;obtain ⟨x,hx⟩:∃ x,l[k]! = x:=⟨_,rfl⟩;rw [hx] at q0 q1 hs rs;obtain ⟨nm,id⟩:=x;simp only at q0 q1 hs rs;obtain ⟨r,hr⟩:∃ r,F id=r:=⟨_,rfl⟩;rw [hr] at hs rs;obtain ⟨o,ho⟩:∃ o,pb (l.take k) F=o:=⟨_,rfl⟩;rw [ho] at hs hown;have HS:=zk hs;have RS:=zk rs;have HO:=zk hown.drew;have b0:(0:Int)≤(k:Int):=lg;have b1:(k:Int)<(n:Int):=lg;clear hx hs rs hr ho hab ao hown;go_wp2_with fail;refine wp_region_held_drew (S:=(fun w':zr=>zm wX wX w'∧w' (ad.add (k * 2))=some (zp nm)∧w' ⟨(ad.add (k * 2)).block,(ad.add (k * 2)).off+1,none⟩=some (zn .i64 id)∧w' ⟨w,0,none⟩=some (zn .i64 ep)∧w' ⟨w,1,none⟩=some (zp eo)∧w' ⟨w,2,none⟩=some (zp en))) lh ⟨hbel.drew,q0,q1,y0,y1,y2⟩ (fun hHeld=>?_);refine wpAnyH_take (i:=0) (v:=?_) (by simp only [List.getElem?_toArray,List.getElem?_cons_zero];rfl) lh lh lh (fun _ _ _ h=>by exact h) (Or.inl ⟨lm,?_⟩) ln ?_;rotate_left
   ·(intro w hSw;(try dsimp only at hSw);go_simp;try with_reducible rfl)
   try simp only [Act.put,mj]
   refine lz 1 ?_;refine lz 2 ?_;refine lz 3 ?_;refine lz 4 ?_;refine lz 5 ?_;refine lz 6 ?_;refine lz 7 ?_;refine lz 8 ?_;refine lz 9 ?_;refine lz 10 ?_;refine lz 11 ?_;refine m8 12 fun K hK=>?_;go_simp
   (go_at_call 128;refine (RS.out _).mono ?_;rintro e w3 ⟨rfl,af⟩;have HK:=zk (DD hHeld af ae.out aa.out);have ah:=zk (tN HO.out af);clear af)
   try go_wp2_with fail
   refine hK.out _ _ ?_ (fun hHeld=>?_)
   ·exact HK.out
   clear hK K
   try simp only [Act.put,mj]
   refine lz 13 ?_;refine m8 14 fun K hK=>?_;go_simp;have ab:=zk (DD HK.out ((zw w3 w3).alloc (zq _) (.cells #[zp nm,zn .i64 r] 90)) ae.out aa.out);have ai:=zk (ab.out.1.size)
   try go_wp2_with fail
   refine hK.out _ _ ?_ (fun hHeld=>?_)
   ·exact ab.out
   clear hK K
   try simp only [Act.put,mj]
   refine m8 15 fun K hK=>?_;refine step_append_lies _ rfl (.tmp 13) (.tmp 27) 22 rfl wX.heap.size 90 i0 _ 2 24 underlying22 hi al am an rfl lj u5 k (l9.flat o) rfl (ah.out.alloc _) ⟨w3,0,none⟩ 1 1 [zp nm,zn .i64 r] rfl rfl (aY w3 _ _ _) (bA _ _) lg lq lg ai.out _ rfl ?_;intro g5 cap w6 hown' hgrow _ _;have aj:=zk (ab.out.1.grown hgrow ai.out (aB ah.out));have aq:=zk (yC ab.out aj.out ae.out aa.out);have ar:=zk hown';clear hown' hgrow;refine hK.out _ _ ?_ (fun hHeld=>?_)
   ·exact aq.out
   clear hK K
   try simp only [Act.put,mj]
   refine lz 16 ?_;refine wpAnyH_done lh ?_ _;go_wp2_with fail;go_roundw
   case rel=>exact ⟨k+1,lg,by go_num,by rw [HS.out,l9.flat_app];exact ar.out,aj.out⟩
   case measure=>simp [zt];omega
  ·obtain rfl:k=n:=lg;rw [Ae (by rw [HN.out];exact zq _)] at hown;have hlm:(pb l F).length=k:=by rw [bO,HN.out]
   rw [← hlm] at hown;obtain ⟨ad2,cp,rfl,hn⟩:=dB hown;have au:=zk hn;clear hn hown hlm;go_wp2;go_ret;exact ⟨ad2,cp,rfl,au.out.more (by have:=aa.out;omega),ak.out _ hbel⟩
end Go.Proofs.YtbagenpobcgjnaaGreat
