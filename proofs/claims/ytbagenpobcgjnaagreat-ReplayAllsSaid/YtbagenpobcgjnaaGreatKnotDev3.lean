/-
  KnotDev3
-/
import Derived.Test.YtbagenpobcgjnaaGreatJSq
import Derived.Test.YtbagenpobcgjnaaGreatJKnotMem
open Go renaming Addr->ze,Calls->zj,Value->zf,World->zd
open Go.Addr renaming add->zg
open Go.Ending renaming returned->zh
open Go.IntKind renaming i64->yv
open Go.RowKit renaming Below->yy
open Go.Value renaming int->yw,pointer->zs,slice->yz,string->zi
open Go.World renaming block_lt_of_cell?->zu,cell?_alloc_new->zq
open List renaming getElem_mem->zn,length_map->zk
open Nat renaming le_refl->zt,le_trans->zp
variable {g h n o:Nat} {B:Nat→Prop} {w:Go.World}
namespace Go.Proofs.YtbagenpobcgjnaaGreat
open Go.Proofs.Tryz
set_option maxRecDepth 100000
open Lib (hid)
open Go.RowKit
set_option linter.unusedVariables false
set_option linter.unusedSimpArgs false
def wj (K:List pg):List (Option ze):=K.map fun k=>some ⟨k.b,0,none⟩
theorem AZ (K:List pg):ns K=(wj K).map zs:=by simp [ns,wj]
theorem tB (K:List pg):(wj K).length=K.length:=by simp [wj]
theorem gW (K:List pg):∀ u∈ns K,u.oneCell'=true:=by
 intro u hu;obtain ⟨k,_,rfl⟩:=List.mem_map.1 hu;rfl
def uf (l:List sq):List zf:=l.flatMap fun x=>[yw yv x.b,yw yv x.r,yw yv x.l]
theorem FI (l:List sq) (x:sq):uf (l++[x])=uf l++[yw yv x.b,yw yv x.r,yw yv x.l]:=by simp [uf]
theorem rC:∀ (l:List sq) (k:Nat) (h:k<l.length),(uf l)[k * 3]? = some (yw yv l[k].b)∧(uf l)[k * 3+1]? = some (yw yv l[k].r)∧(uf l)[k * 3+2]? = some (yw yv l[k].l)
 | x::l,0,_=>⟨rfl,rfl,rfl⟩
 | x::l,k+1,h=>by
  obtain ⟨h0,h1,h2⟩:=rC l k (by simpa using h);have e:uf (x::l)=yw yv x.b::yw yv x.r::yw yv x.l::uf l:=by simp [uf]
  rw [e,show (k+1) * 3=k * 3+3 by omega];exact ⟨h0,h1,h2⟩
theorem LN {base:Nat} {t:TypeId} {v:zf} {l:List sq} (hn:l.length=n) (h:w.ownsRow base t 3 v n (uf l)):∃ a c,v=yz a n c∧vy w w a l:=by
 subst hn;rcases h.2 with ⟨rfl,h0⟩|⟨g,cap,cur,rfl,hgb,hg,_⟩
 ·exact ⟨none,0,by rw [h0],fun k hk=>absurd hk lf⟩
 ·have hc:=h.cells (g:=g) rfl;refine ⟨_,_,rfl,fun k hk=>⟨_,rfl,(h.lt g rfl).2,?_⟩⟩;obtain ⟨h0,h1,h2⟩:=rC l k hk;have e0:(⟨g,0,none⟩:ze).add (k * 3)=⟨g,k * 3,none⟩:=by unfold zg;split <;> simp_all
  have e1:(⟨g,0,none⟩:ze).add (k * 3+1)=⟨g,k * 3+1,none⟩:=by unfold zg;split <;> simp_all
  have e2:(⟨g,0,none⟩:ze).add (k * 3+2)=⟨g,k * 3+2,none⟩:=by unfold zg;split <;> simp_all
  have q0:=hc _ _ h0;have q1:=hc _ _ h1;have q2:=hc _ _ h2;rw [e0] at q0;rw [e1] at q1;rw [e2] at q2;rw [e0];exact ⟨q0,q1,q2⟩
theorem DR:(prog.info? 173).map (fun i=>(i.zero,i.size,i.bytes))=some (some (cntV 0 0 0),3,24):=lg
theorem AL (w:zd) (x y z:zf) (t:TypeId):∀ j u,([x,y,z]:List zf)[j]? = some u→(w.alloc (.cells #[x,y,z] t)) ((⟨w,0,none⟩:ze).add j)=some u:=by
 intro j u hj
 match j,hj with
 | 0,hj=>simp at hj;subst hj;simp [zg,zq]
 | 1,hj=>simp at hj;subst hj;simp [zg,zq]
 | 2,hj=>simp at hj;subst hj;simp [zg,zq]
theorem FF (x y z:Int):∀ u∈[yw yv x,yw yv y,yw yv z],u.oneCell'=true:=by
 intro u hu;simp at hu;rcases hu with rfl|rfl|rfl <;> rfl
structure m7 (w:zd) (B:Nat→Prop) (g o n h:Nat) (K:List pg):Prop where
 len:K.length=n
 row:qp w g o (ns K)
 kids:∀ k∈K,l9 w B h k.b k.L
 lt:∀ i,B i→i<w.heap.size
 hh:h≤900
 size:(lx (flat K)).size≤1000000
theorem m7.on {w':zd} {K:List pg} (p:m7 w B g o n h K) (hb:yy w w w'):m7 w' B g o n h K:=
 ⟨p.len,p.row.on hb,fun k hk=>(p.kids k hk).below hb p.lt,fun i hi=>Nat.lt_of_lt_of_le (p.lt i hi) hb.size,p.hh,p.size⟩
theorem m7.cell {K:List pg} (p:m7 w B g o n h K) {k:Nat} (hk:k<n):w ⟨g,o+k,none⟩=some (pv (K[k]'(by rw [p.len];exact hk)).b):=by
 have:=p.row.2 k (by rw [aP,p.len];exact hk);rw [this];simp [ns]
theorem m7.even {c:Nat} {K:List pg} (p:m7 w B g o n h K) (hn:n≤1000000) :
 zj prog 196 #[yz (some ⟨g,o,none⟩) n c] w fun e w'=>e=zh (.bool true)∧yy w w w':=by
 refine (NN (hs:=fun _=>(h:Int)) (ps:=wj K) (by rw [tB,p.len]) hn (by rw [← AZ];exact p.row) (fun k hk=>?_)).mono ?_
 ·rw [tB] at hk;have:=(p.kids _ (zn hk)).hgt (by have:=p.hh;omega);simpa [wj] using this
 ·rintro e w' ⟨b,rfl,hb,hbel⟩;rw [hb.2 fun k hk=>⟨Int.natCast_nonneg h,rfl⟩];exact ⟨rfl,hbel⟩
theorem m7.cnt {K:List pg} (p:m7 w B g o n h K) {k:Nat} (hk:k<K.length) :
 w ⟨K[k].b,1,none⟩=some (yw yv (tr (lx K[k].L)).b)∧w ⟨K[k].b,2,none⟩=some (yw yv (tr (lx K[k].L)).r)∧w ⟨K[k].b,3,none⟩=some (yw yv (tr (lx K[k].L)).l):=by
 obtain ⟨kv,-,hB⟩:=(p.kids _ (zn hk)).cells;obtain ⟨c0,c1,c2,c3,c4,c5,c6⟩:=l6.seven hB;exact ⟨c1,c2,c3⟩
theorem m7.ends {K:List pg} (p:m7 w B g o n h K) (h0:0<K.length) :
 w ⟨K[0].b,0,none⟩=some (yw yv (h+1))∧w ⟨K[0].b,4,none⟩=some (zi (p9 (flat K)))∧w ⟨(K[K.length - 1]' lf).b,5,none⟩=some (zi (pq (flat K))):=by
 obtain ⟨e1,e2⟩:=FZ (fun k hk=>(p.kids k hk).ne) h0;obtain ⟨kv,-,hB⟩:=(p.kids _ (zn h0)).cells;obtain ⟨c0,c1,c2,c3,c4,c5,c6⟩:=l6.seven hB;obtain ⟨kv',-,hB'⟩:=(p.kids _ (zn (show K.length - 1<K.length by omega))).cells;obtain ⟨d0,d1,d2,d3,d4,d5,d6⟩:=l6.seven hB';rw [e1,e2];exact ⟨c0,c4,d5⟩
structure CnI (w:zd) (K:List pg) (k:Nat) (v:zf) (wr:zd):Prop where
 own:wr.ownsRow w 173 3 v k (uf ((K.map fun x=>tr (lx x.L)).take k))
 bel:yy w w wr
def vp (w:zd) (B:Nat→Prop) (h:Nat) (K:List pg) (e:Ending) (w':zd):Prop:=∃ b g c,e=zh (pv b)∧w.heap.size≤b∧w.heap.size≤g∧tp w' B h b K g c∧yy w w w'
theorem NQ {w w1 w2:zd} {B:Nat→Prop} {g o n c h b:Nat} {K:List pg} (p:m7 w B g o n h K) (h2:2≤n) (h8:n≤8) {g' c':Nat} (hc:n≤c') (hg:w≤g') (hr:qp w1 g' 0 (ns K)) (hb:yy w w w1)
 (hw:w2=w1.alloc (.cells (kcs (h+2) (lx (flat K)) (p9 (flat K)) (pq (flat K)) (yz (some ⟨g',0,none⟩) n c')) 212)) (hbk:b=w1):vp w B h K (zh (pv b)) w2:=by
 subst hw hbk;have hbel:=hb.alloc hb.size (.cells (kcs (h+2) (lx (flat K)) (p9 (flat K)) (pq (flat K)) (yz (some ⟨g',0,none⟩) n c')) 212);have hlen:=p.len;refine ⟨_,g',c',rfl,hb.size,hg,⟨lf,lf,lf,(p.on hbel).kids,hr.on ((Below.refl _ _).alloc (zt _) _),?_⟩,hbel⟩;rw [hlen];exact l6.new _ _ _
set_option maxHeartbeats 1600000 in
theorem eD {c:Nat} {K:List pg} (p:m7 w B g o n h K) (h2:2≤n) (h8:n≤8) :
 zj prog 198 #[yz (some ⟨g,o,none⟩) n c] w (vp w B h K):=by
 obtain ⟨i0,hi,ai,aj,ak⟩:=info_parts DR;have ce:=p.even (c:=c) lf;have CE:=hid ce;have HP:=hid p;clear ce p;have t1:decide ((n:Int)<2)=false:=decide_eq_false lf;have t2:decide ((8:Int)<(n:Int))=false:=decide_eq_false lf;have t1':decide (n<2)=false:=decide_eq_false lf;have t2':decide (8<n)=false:=decide_eq_false lf;go_enter func198,ntmps198;go_wp2_with fail;refine CE.out.mono ?_;rintro e w1 ⟨rfl,ac⟩;have al:=hid ac;clear ac;go_wp2
 go_loopw [3,23] (fun v i wr=>∃ (k:Nat) (u:zf),k≤n∧i=yw yv k∧u=v∧CnI w K k u wr) (fun _ i _=>n - (intOf i).toNat)
 case atStart=>exact ⟨0,_,Nat.zero_le _,rfl,rfl,World.ownsRow_nil _ _ _ _,al.out⟩
 case round =>
  obtain ⟨k,v,hk,rfl,rfl,hC⟩:=hrel;by_cases hlt:k<n
  ·have hkl:k<K.length:=by rw [HP.out.len];exact hlt
   have q0:=(HP.out.on hC.bel).cell hlt;obtain ⟨q1,q2,q3⟩:=(HP.out.on hC.bel).cnt hkl;have hst:((K.map fun x=>tr (lx x.L)).take (k+1))=(K.map fun x=>tr (lx x.L)).take k++[tr (lx K[k].L)]:=by
    rw [List.take_succ_eq_append_getElem (by rw [zk];exact hkl),List.getElem_map]
   obtain ⟨b,hb⟩:∃ b,K[k].b=b:=⟨_,rfl⟩;obtain ⟨x,hx⟩:∃ x,tr (lx K[k].L)=x:=⟨_,rfl⟩;rw [hb] at q0 q1 q2 q3;rw [hx] at q1 q2 q3 hst;obtain ⟨xb,xr,xl⟩:=x;have hown:=hC.own;have hsz:w.heap.size≤wr:=hC.bel.size;have HC:=hid hC;have am:=hid hst;clear hb hx hC hst hkl;go_wp2_with (at_builtin;refine wpList_append_own _ rfl _ _ 245 rfl w.heap.size 173 i0 _ 3 24 underlying245 hi ai aj ak rfl li _ _ _ rfl (hown.alloc _) ⟨wr,0,none⟩ 1 1 [yw yv xb,yw yv xr,yw yv xl] rfl rfl (AL _ _ _ _ _) (FF _ _ _) ln lf (zp hsz lh) ?_;intro v' w2 hown' hgrow _);have ad:yy w w w2:=(HC.out.bel.alloc hsz _).grown hgrow (zp hsz lh) (aA hown);have HN:=hid (show CnI w K (k+1) v' w2 from ⟨by rw [am.out,FI];exact hown',ad⟩);clear hown' hgrow hown ad;go_wp2;go_roundw
   case rel=>exact ⟨k+1,_,lf,by go_num,rfl,HN.out⟩
   case measure=>simp [intOf];omega
  ·obtain rfl:k=n:=lf;have hp:=HP.out.on hC.bel;have hq:=hp.ends (by rw [hp.len];omega);have q0:=hp.cell (k:=0) lf;have qn:=hp.cell (k:=k - 1) lf;have hci:=hC.own;rw [List.take_of_length_le (by rw [zk,hp.len];exact zt _)] at hci;obtain ⟨a,ca,rfl,hcs⟩:=LN (by rw [zk,hp.len]) hci;have ct:∀ W,yy wr wr W→zj prog 211 #[yz a k ca] W fun e w'=>e=zh (cntV (lx (flat K)).size (op (lx (flat K)).data.toList) (oq (lx (flat K)).data.toList))∧yy W.heap.size W w':=fun W hb=>by
    have:=LR a (K.map fun x=>tr (lx x.L)) ca (by rw [zk,hp.len];omega) W ((hcs.below hb).more hb.size);rw [zk,hp.len,NK hp.size] at this;exact this
   have ck:∀ W,yy wr wr W→zj prog 212 #[yz (some ⟨g,o,none⟩) k c] W fun e w'=>∃ g' c',e=zh (yz (some ⟨g',0,none⟩) k c')∧k≤c'∧W.heap.size≤g'∧qp w' g' 0 (ns K)∧yy W.heap.size W w':=fun W hb =>
    DN (by rw [aP,hp.len]) lf (hp.row.on hb) (gW K)
   have hend:=fun (W W2:zd) g' c' b h1 an h2' h3 h4 h5=>@NQ w W W2 B g o k c h b K HP.out h2 h8 g' c' h1 an h2' h3 h4 h5;obtain ⟨b0,af⟩:∃ b,(K[0]'(by rw [hp.len];omega)).b=b:=⟨_,rfl⟩;obtain ⟨b1,ac⟩:∃ b,(K[k - 1]'(by rw [hp.len];omega)).b=b:=⟨_,rfl⟩;have ag:(K[K.length - 1]'(by rw [hp.len];omega)).b=b1:=by rw [← ac];congr 2;rw [hp.len]
   rw [af] at q0;rw [ac] at qn;rw [af,ag] at hq;unfold kcs at hend;obtain ⟨S,hS⟩:∃ S,lx (flat K)=S:=⟨_,rfl⟩;obtain ⟨F,hF⟩:∃ F,p9 (flat K)=F:=⟨_,rfl⟩;obtain ⟨Z,hZ⟩:∃ Z,pq (flat K)=Z:=⟨_,rfl⟩;rw [hS] at ct;rw [hF,hZ] at hq;rw [hS,hF,hZ] at hend;obtain ⟨R,hR⟩:∃ R,op S.data.toList=R:=⟨_,rfl⟩;obtain ⟨Y,hY⟩:∃ Y,oq S.data.toList=Y:=⟨_,rfl⟩;rw [hR,hY] at ct hend;obtain ⟨c0,c4,c5⟩:=hq;rw [Nat.add_zero] at q0;have hh:=hp.hh;have f0:=zu wr _ c0;have f5:=zu wr _ c5;have F0:=hid f0;have F5:=hid f5;have C0:=hid c0;have C4:=hid c4;have C5:=hid c5;have HB:=hid hC.bel;have CT:=hid ct;have CK:=hid ck;have HE:=hid hend;clear hp hcs hci hC ct ck hend af ac ag hS hF hZ hR hY f0 f5 c0 c4 c5;have e1:yv.wrap ((k:Int) - 1)=(k:Int) - 1:=IntWalk.i64_in _ lf;have e2:((k:Int) - 1).toNat=k - 1:=lf;have b0':(0:Int)≤(k:Int) - 1:=lf;have b2:(k:Int) - 1<(k:Int):=lf;have b3:(0:Int)<(k:Int):=lf;have b4:0<k:=lf;go_wp2;go_region;have e3:yv.wrap ((h:Int)+1+1)=(h:Int)+2:=by rw [show (h:Int)+1+1=(h:Int)+2 by omega];exact IntWalk.i64_in _ lf
   go_wp2_with fail;refine wp_region_held_drew (S:=(fun w':zd=>yy wr wr w'∧w' ⟨b0,0,none⟩=some (yw yv (h+1))∧w' ⟨b0,4,none⟩=some (zi F)∧w' ⟨b1,5,none⟩=some (zi Z))) lg ⟨(Below.refl _ _).drew.drew,C0.out,C4.out,C5.out⟩ (fun hHeld=>?_);refine ly 0 ?_;refine ly 1 ?_;refine ly 2 ?_;refine ly 3 ?_;refine ly 4 ?_;refine ly 5 ?_;refine ly 6 ?_;refine ly 8 ?_;refine ly 9 ?_;refine ly 10 ?_;refine ly 11 ?_;refine ly 12 ?_;refine ly 13 ?_;refine ly 14 ?_;refine ly 15 ?_;refine ly 16 ?_;refine ly 17 ?_;refine ly 19 ?_;refine m8 7 fun K hK=>?_;go_simp
   (go_at_call 211;refine (CT.out _ hHeld.1).mono ?_;rintro e w2 ⟨rfl,ah⟩;have aa:=hid (hHeld.1.trans (ah.mono hHeld.1.size));clear ah)
   try go_wp2_with fail
   refine hK.out _ _ ?_ (fun hHeld=>?_)
   ·exact ⟨aa.out,(aa.out.cell (p:=⟨b0,0,none⟩) F0.out).trans C0.out,(aa.out.cell (p:=⟨b0,4,none⟩) F0.out).trans C4.out,(aa.out.cell (p:=⟨b1,5,none⟩) F5.out).trans C5.out⟩
   clear hK K
   try simp only [Act.put,mj]
   refine ly 18 ?_;refine m8 20 fun K hK=>?_;go_simp
   (go_at_call 212;refine (CK.out _ aa.out).mono ?_;rintro e w3 ⟨g',c',rfl,x1,x2,x3,ad⟩;have ab:=hid (aa.out.trans (ad.mono aa.out.size));have HX:=hid (And.intro x1 (And.intro (zp HB.out.size (zp aa.out.size x2)) x3));clear ad x1 x2 x3)
   try go_wp2_with fail
   refine hK.out _ _ ?_ (fun hHeld=>?_)
   ·exact ⟨ab.out,(ab.out.cell (p:=⟨b0,0,none⟩) F0.out).trans C0.out,(ab.out.cell (p:=⟨b0,4,none⟩) F0.out).trans C4.out,(ab.out.cell (p:=⟨b1,5,none⟩) F5.out).trans C5.out⟩
   clear hK K
   try simp only [Act.put,mj]
   refine ly 21 ?_;refine m8 22 fun K hK=>?_;go_simp;have ae:=hid (ab.out.alloc ab.out.size (.cells #[yw yv (h+2),yw yv S.size,yw yv R,yw yv Y,zi F,zi Z,yz (some ⟨g',0,none⟩) k c'] 212))
   try go_wp2_with fail
   refine hK.out _ _ ?_ (fun hHeld=>?_)
   ·exact ⟨ae.out,(ae.out.cell (p:=⟨b0,0,none⟩) F0.out).trans C0.out,(ae.out.cell (p:=⟨b0,4,none⟩) F0.out).trans C4.out,(ae.out.cell (p:=⟨b1,5,none⟩) F5.out).trans C5.out⟩
   clear hK K
   try simp only [Act.put,mj]
   refine ly 23 ?_;refine wpAnyH_done lg ?_ _;go_wp2_with fail;go_ret;exact HE.out w3 _ g' c' _ HX.out.1 HX.out.2.1 HX.out.2.2 (HB.out.trans (ab.out.mono HB.out.size)) rfl rfl
set_option maxHeartbeats 800000 in
theorem IA {a:Option ze} {c:Nat} (h:n<2∨8<n) :
 zj prog 198 #[yz a n c] w fun e w'=>e=zh (zs none)∧yy w w w':=by
 rcases h with h|h
 ·have t1:decide ((n:Int)<2)=true:=decide_eq_true lf;have t1':decide (n<2)=true:=decide_eq_true h;clear h;go_enter func198,ntmps198;go_wp2;go_ret;exact ⟨rfl,Below.refl _ _⟩
 ·have t1:decide ((n:Int)<2)=false:=decide_eq_false lf;have t1':decide (n<2)=false:=decide_eq_false lf;have t2:decide ((8:Int)<(n:Int))=true:=decide_eq_true lf;have t2':decide (8<n)=true:=decide_eq_true lf;clear h;go_enter func198,ntmps198;go_wp2;go_ret;exact ⟨rfl,Below.refl _ _⟩
end Go.Proofs.YtbagenpobcgjnaaGreat
