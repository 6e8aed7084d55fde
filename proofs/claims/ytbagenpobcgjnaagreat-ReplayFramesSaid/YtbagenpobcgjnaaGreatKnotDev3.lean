/-
  KnotDev3
-/
import Derived.Test.YtbagenpobcgjnaaGreatJSq
import Derived.Test.YtbagenpobcgjnaaGreatJKnotMem
open Go renaming Addr->zr,Calls->zx,Value->zt,World->zq
open Go.Addr renaming add->zu
open Go.Ending renaming returned->zv
open Go.IntKind renaming i64->zk
open Go.RowKit renaming Below->zo
open Go.Value renaming int->zm,pointer->Ag,slice->zp,string->zw
open Go.World renaming block_lt_of_cell?->Ai,cell?_alloc_new->Ae
open List renaming getElem_mem->Aa,length_map->zy
open Nat renaming le_refl->Ah,le_trans->Ad
variable {g h n o:Nat} {B:Nat→Prop} {w:Go.World}
namespace Go.Proofs.YtbagenpobcgjnaaGreat
open Go.Proofs.Tryz
set_option maxRecDepth 100000
open Lib (hid)
open Go.RowKit
set_option linter.unusedVariables false
set_option linter.unusedSimpArgs false
def wy (K:List pd):List (Option zr):=K.map fun k=>some ⟨k.b,0,none⟩
theorem EC (K:List pd):nu K=(wy K).map Ag:=by simp [nu,wy]
theorem tV (K:List pd):(wy K).length=K.length:=by simp [wy]
theorem iG (K:List pd):∀ u∈nu K,u.oneCell'=true:=by
 intro u hu;obtain ⟨k,_,rfl⟩:=List.mem_map.1 hu;rfl
def uw (l:List sw):List zt:=l.flatMap fun x=>[zm zk x.b,zm zk x.r,zm zk x.l]
theorem IJ (l:List sw) (x:sw):uw (l++[x])=uw l++[zm zk x.b,zm zk x.r,zm zk x.l]:=by simp [uw]
theorem sB:∀ (l:List sw) (k:Nat) (h:k<l.length),(uw l)[k * 3]? = some (zm zk l[k].b)∧(uw l)[k * 3+1]? = some (zm zk l[k].r)∧(uw l)[k * 3+2]? = some (zm zk l[k].l)
 | x::l,0,_=>⟨rfl,rfl,rfl⟩
 | x::l,k+1,h=>by
  obtain ⟨h0,h1,h2⟩:=sB l k (by simpa using h);have e:uw (x::l)=zm zk x.b::zm zk x.r::zm zk x.l::uw l:=by simp [uw]
  rw [e,show (k+1) * 3=k * 3+3 by omega];exact ⟨h0,h1,h2⟩
theorem QE {base:Nat} {t:TypeId} {v:zt} {l:List sw} (hn:l.length=n) (h:w.ownsRow base t 3 v n (uw l)):∃ a c,v=zp a n c∧wg w w a l:=by
 subst hn;rcases h.2 with ⟨rfl,h0⟩|⟨g,cap,cur,rfl,hgb,hg,_⟩
 ·exact ⟨none,0,by rw [h0],fun k hk=>absurd hk lg⟩
 ·have hc:=h.cells (g:=g) rfl;refine ⟨_,_,rfl,fun k hk=>⟨_,rfl,(h.lt g rfl).2,?_⟩⟩;obtain ⟨h0,h1,h2⟩:=sB l k hk;have e0:(⟨g,0,none⟩:zr).add (k * 3)=⟨g,k * 3,none⟩:=by unfold zu;split <;> simp_all
  have e1:(⟨g,0,none⟩:zr).add (k * 3+1)=⟨g,k * 3+1,none⟩:=by unfold zu;split <;> simp_all
  have e2:(⟨g,0,none⟩:zr).add (k * 3+2)=⟨g,k * 3+2,none⟩:=by unfold zu;split <;> simp_all
  have q0:=hc _ _ h0;have q1:=hc _ _ h1;have q2:=hc _ _ h2;rw [e0] at q0;rw [e1] at q1;rw [e2] at q2;rw [e0];exact ⟨q0,q1,q2⟩
theorem DH:(prog.info? 173).map (fun i=>(i.zero,i.size,i.bytes))=some (some (cntV 0 0 0),3,24):=lh
theorem FB (w:zq) (x y z:zt) (t:TypeId):∀ j u,([x,y,z]:List zt)[j]? = some u→(w.alloc (.cells #[x,y,z] t)) ((⟨w,0,none⟩:zr).add j)=some u:=by
 intro j u hj
 match j,hj with
 | 0,hj=>simp at hj;subst hj;simp [zu,Ae]
 | 1,hj=>simp at hj;subst hj;simp [zu,Ae]
 | 2,hj=>simp at hj;subst hj;simp [zu,Ae]
theorem KN (x y z:Int):∀ u∈[zm zk x,zm zk y,zm zk z],u.oneCell'=true:=by
 intro u hu;simp at hu;rcases hu with rfl|rfl|rfl <;> rfl
structure m7 (w:zq) (B:Nat→Prop) (g o n h:Nat) (K:List pd):Prop where
 len:K.length=n
 row:qr w g o (nu K)
 kids:∀ k∈K,mb w B h k.b k.L
 lt:∀ i,B i→i<w.heap.size
 hh:h≤900
 size:(ly (flat K)).size≤1000000
theorem m7.on {w':zq} {K:List pd} (p:m7 w B g o n h K) (hb:zo w w w'):m7 w' B g o n h K:=
 ⟨p.len,p.row.on hb,fun k hk=>(p.kids k hk).below hb p.lt,fun i hi=>Nat.lt_of_lt_of_le (p.lt i hi) hb.size,p.hh,p.size⟩
theorem m7.cell {K:List pd} (p:m7 w B g o n h K) {k:Nat} (hk:k<n):w ⟨g,o+k,none⟩=some (pv (K[k]'(by rw [p.len];exact hk)).b):=by
 have:=p.row.2 k (by rw [aP,p.len];exact hk);rw [this];simp [nu]
theorem m7.even {c:Nat} {K:List pd} (p:m7 w B g o n h K) (hn:n≤1000000) :
 zx prog 196 #[zp (some ⟨g,o,none⟩) n c] w fun e w'=>e=zv (.bool true)∧zo w w w':=by
 refine (NR (hs:=fun _=>(h:Int)) (ps:=wy K) (by rw [tV,p.len]) hn (by rw [← EC];exact p.row) (fun k hk=>?_)).mono ?_
 ·rw [tV] at hk;have:=(p.kids _ (Aa hk)).hgt (by have:=p.hh;omega);simpa [wy] using this
 ·rintro e w' ⟨b,rfl,hb,hbel⟩;rw [hb.2 fun k hk=>⟨Int.natCast_nonneg h,rfl⟩];exact ⟨rfl,hbel⟩
theorem m7.cnt {K:List pd} (p:m7 w B g o n h K) {k:Nat} (hk:k<K.length) :
 w ⟨K[k].b,1,none⟩=some (zm zk (uj (ly K[k].L)).b)∧w ⟨K[k].b,2,none⟩=some (zm zk (uj (ly K[k].L)).r)∧w ⟨K[k].b,3,none⟩=some (zm zk (uj (ly K[k].L)).l):=by
 obtain ⟨kv,-,hB⟩:=(p.kids _ (Aa hk)).cells;obtain ⟨c0,c1,c2,c3,c4,c5,c6⟩:=l6.seven hB;exact ⟨c1,c2,c3⟩
theorem m7.ends {K:List pd} (p:m7 w B g o n h K) (h0:0<K.length) :
 w ⟨K[0].b,0,none⟩=some (zm zk (h+1))∧w ⟨K[0].b,4,none⟩=some (zw (py (flat K)))∧w ⟨(K[K.length - 1]' lg).b,5,none⟩=some (zw (pl (flat K))):=by
 obtain ⟨e1,e2⟩:=JT (fun k hk=>(p.kids k hk).ne) h0;obtain ⟨kv,-,hB⟩:=(p.kids _ (Aa h0)).cells;obtain ⟨c0,c1,c2,c3,c4,c5,c6⟩:=l6.seven hB;obtain ⟨kv',-,hB'⟩:=(p.kids _ (Aa (show K.length - 1<K.length by omega))).cells;obtain ⟨d0,d1,d2,d3,d4,d5,d6⟩:=l6.seven hB';rw [e1,e2];exact ⟨c0,c4,d5⟩
structure CnI (w:zq) (K:List pd) (k:Nat) (v:zt) (wr:zq):Prop where
 own:wr.ownsRow w 173 3 v k (uw ((K.map fun x=>uj (ly x.L)).take k))
 bel:zo w w wr
def vy (w:zq) (B:Nat→Prop) (h:Nat) (K:List pd) (e:Ending) (w':zq):Prop:=∃ b g c,e=zv (pv b)∧w.heap.size≤b∧w.heap.size≤g∧ui w' B h b K g c∧zo w w w'
theorem PF {w w1 w2:zq} {B:Nat→Prop} {g o n c h b:Nat} {K:List pd} (p:m7 w B g o n h K) (h2:2≤n) (h8:n≤8) {g' c':Nat} (hc:n≤c') (hg:w≤g') (hr:qr w1 g' 0 (nu K)) (hb:zo w w w1)
 (hw:w2=w1.alloc (.cells (kcs (h+2) (ly (flat K)) (py (flat K)) (pl (flat K)) (zp (some ⟨g',0,none⟩) n c')) 212)) (hbk:b=w1):vy w B h K (zv (pv b)) w2:=by
 subst hw hbk;have hbel:=hb.alloc hb.size (.cells (kcs (h+2) (ly (flat K)) (py (flat K)) (pl (flat K)) (zp (some ⟨g',0,none⟩) n c')) 212);have hlen:=p.len;refine ⟨_,g',c',rfl,hb.size,hg,⟨lg,lg,lg,(p.on hbel).kids,hr.on ((Below.refl _ _).alloc (Ah _) _),?_⟩,hbel⟩;rw [hlen];exact l6.new _ _ _
set_option maxHeartbeats 1600000 in
theorem eK {c:Nat} {K:List pd} (p:m7 w B g o n h K) (h2:2≤n) (h8:n≤8) :
 zx prog 198 #[zp (some ⟨g,o,none⟩) n c] w (vy w B h K):=by
 obtain ⟨i0,hi,ai,aj,ak⟩:=info_parts DH;have ce:=p.even (c:=c) lg;have CE:=hid ce;have HP:=hid p;clear ce p;have t1:decide ((n:Int)<2)=false:=decide_eq_false lg;have t2:decide ((8:Int)<(n:Int))=false:=decide_eq_false lg;have t1':decide (n<2)=false:=decide_eq_false lg;have t2':decide (8<n)=false:=decide_eq_false lg;go_enter func198,ntmps198;go_wp2_with fail;refine CE.out.mono ?_;rintro e w1 ⟨rfl,ac⟩;have al:=hid ac;clear ac;go_wp2
 go_loopw [3,23] (fun v i wr=>∃ (k:Nat) (u:zt),k≤n∧i=zm zk k∧u=v∧CnI w K k u wr) (fun _ i _=>n - (intOf i).toNat)
 case atStart=>exact ⟨0,_,Nat.zero_le _,rfl,rfl,World.ownsRow_nil _ _ _ _,al.out⟩
 case round =>
  obtain ⟨k,v,hk,rfl,rfl,hC⟩:=hrel;by_cases hlt:k<n
  ·have hkl:k<K.length:=by rw [HP.out.len];exact hlt
   have q0:=(HP.out.on hC.bel).cell hlt;obtain ⟨q1,q2,q3⟩:=(HP.out.on hC.bel).cnt hkl;have hst:((K.map fun x=>uj (ly x.L)).take (k+1))=(K.map fun x=>uj (ly x.L)).take k++[uj (ly K[k].L)]:=by
    rw [List.take_succ_eq_append_getElem (by rw [zy];exact hkl),List.getElem_map]
   obtain ⟨b,hb⟩:∃ b,K[k].b=b:=⟨_,rfl⟩;obtain ⟨x,hx⟩:∃ x,uj (ly K[k].L)=x:=⟨_,rfl⟩;rw [hb] at q0 q1 q2 q3;rw [hx] at q1 q2 q3 hst;obtain ⟨xb,xr,xl⟩:=x;have hown:=hC.own;have hsz:w.heap.size≤wr:=hC.bel.size;have HC:=hid hC;have am:=hid hst;clear hb hx hC hst hkl;go_wp2_with (at_builtin;refine wpList_append_own _ rfl _ _ 245 rfl w.heap.size 173 i0 _ 3 24 underlying245 hi ai aj ak rfl lj _ _ _ rfl (hown.alloc _) ⟨wr,0,none⟩ 1 1 [zm zk xb,zm zk xr,zm zk xl] rfl rfl (FB _ _ _ _ _) (KN _ _ _) lq lg (Ad hsz li) ?_;intro v' w2 hown' hgrow _);have ad:zo w w w2:=(HC.out.bel.alloc hsz _).grown hgrow (Ad hsz li) (aB hown);have HN:=hid (show CnI w K (k+1) v' w2 from ⟨by rw [am.out,IJ];exact hown',ad⟩);clear hown' hgrow hown ad;go_wp2;go_roundw
   case rel=>exact ⟨k+1,_,lg,by go_num,rfl,HN.out⟩
   case measure=>simp [intOf];omega
  ·obtain rfl:k=n:=lg;have hp:=HP.out.on hC.bel;have hq:=hp.ends (by rw [hp.len];omega);have q0:=hp.cell (k:=0) lg;have qn:=hp.cell (k:=k - 1) lg;have hci:=hC.own;rw [List.take_of_length_le (by rw [zy,hp.len];exact Ah _)] at hci;obtain ⟨a,ca,rfl,hcs⟩:=QE (by rw [zy,hp.len]) hci;have ct:∀ W,zo wr wr W→zx prog 211 #[zp a k ca] W fun e w'=>e=zv (cntV (ly (flat K)).size (oo (ly (flat K)).data.toList) (op (ly (flat K)).data.toList))∧zo W.heap.size W w':=fun W hb=>by
    have:=PP a (K.map fun x=>uj (ly x.L)) ca (by rw [zy,hp.len];omega) W ((hcs.below hb).more hb.size);rw [zy,hp.len,OV hp.size] at this;exact this
   have ck:∀ W,zo wr wr W→zx prog 212 #[zp (some ⟨g,o,none⟩) k c] W fun e w'=>∃ g' c',e=zv (zp (some ⟨g',0,none⟩) k c')∧k≤c'∧W.heap.size≤g'∧qr w' g' 0 (nu K)∧zo W.heap.size W w':=fun W hb =>
    EO (by rw [aP,hp.len]) lg (hp.row.on hb) (iG K)
   have hend:=fun (W W2:zq) g' c' b h1 an h2' h3 h4 h5=>@PF w W W2 B g o k c h b K HP.out h2 h8 g' c' h1 an h2' h3 h4 h5;obtain ⟨b0,af⟩:∃ b,(K[0]'(by rw [hp.len];omega)).b=b:=⟨_,rfl⟩;obtain ⟨b1,ac⟩:∃ b,(K[k - 1]'(by rw [hp.len];omega)).b=b:=⟨_,rfl⟩;have ag:(K[K.length - 1]'(by rw [hp.len];omega)).b=b1:=by rw [← ac];congr 2;rw [hp.len]
   rw [af] at q0;rw [ac] at qn;rw [af,ag] at hq;unfold kcs at hend;obtain ⟨S,hS⟩:∃ S,ly (flat K)=S:=⟨_,rfl⟩;obtain ⟨F,hF⟩:∃ F,py (flat K)=F:=⟨_,rfl⟩;obtain ⟨Z,hZ⟩:∃ Z,pl (flat K)=Z:=⟨_,rfl⟩;rw [hS] at ct;rw [hF,hZ] at hq;rw [hS,hF,hZ] at hend;obtain ⟨R,hR⟩:∃ R,oo S.data.toList=R:=⟨_,rfl⟩;obtain ⟨Y,hY⟩:∃ Y,op S.data.toList=Y:=⟨_,rfl⟩;rw [hR,hY] at ct hend;obtain ⟨c0,c4,c5⟩:=hq;rw [Nat.add_zero] at q0;have hh:=hp.hh;have f0:=Ai wr _ c0;have f5:=Ai wr _ c5;have F0:=hid f0;have F5:=hid f5;have C0:=hid c0;have C4:=hid c4;have C5:=hid c5;have HB:=hid hC.bel;have CT:=hid ct;have CK:=hid ck;have HE:=hid hend;clear hp hcs hci hC ct ck hend af ac ag hS hF hZ hR hY f0 f5 c0 c4 c5;have e1:zk.wrap ((k:Int) - 1)=(k:Int) - 1:=IntWalk.i64_in _ lg;have e2:((k:Int) - 1).toNat=k - 1:=lg;have b0':(0:Int)≤(k:Int) - 1:=lg;have b2:(k:Int) - 1<(k:Int):=lg;have b3:(0:Int)<(k:Int):=lg;have b4:0<k:=lg;go_wp2;go_region;have e3:zk.wrap ((h:Int)+1+1)=(h:Int)+2:=by rw [show (h:Int)+1+1=(h:Int)+2 by omega];exact IntWalk.i64_in _ lg
   go_wp2_with fail;refine wp_region_held_drew (S:=(fun w':zq=>zo wr wr w'∧w' ⟨b0,0,none⟩=some (zm zk (h+1))∧w' ⟨b0,4,none⟩=some (zw F)∧w' ⟨b1,5,none⟩=some (zw Z))) lh ⟨(Below.refl _ _).drew.drew,C0.out,C4.out,C5.out⟩ (fun hHeld=>?_);refine lz 0 ?_;refine lz 1 ?_;refine lz 2 ?_;refine lz 3 ?_;refine lz 4 ?_;refine lz 5 ?_;refine lz 6 ?_;refine lz 8 ?_;refine lz 9 ?_;refine lz 10 ?_;refine lz 11 ?_;refine lz 12 ?_;refine lz 13 ?_;refine lz 14 ?_;refine lz 15 ?_;refine lz 16 ?_;refine lz 17 ?_;refine lz 19 ?_;refine m8 7 fun K hK=>?_;go_simp
   (go_at_call 211;refine (CT.out _ hHeld.1).mono ?_;rintro e w2 ⟨rfl,ah⟩;have aa:=hid (hHeld.1.trans (ah.mono hHeld.1.size));clear ah)
   try go_wp2_with fail
   refine hK.out _ _ ?_ (fun hHeld=>?_)
   ·exact ⟨aa.out,(aa.out.cell (p:=⟨b0,0,none⟩) F0.out).trans C0.out,(aa.out.cell (p:=⟨b0,4,none⟩) F0.out).trans C4.out,(aa.out.cell (p:=⟨b1,5,none⟩) F5.out).trans C5.out⟩
   clear hK K
   try simp only [Act.put,mj]
   refine lz 18 ?_;refine m8 20 fun K hK=>?_;go_simp
   (go_at_call 212;refine (CK.out _ aa.out).mono ?_;rintro e w3 ⟨g',c',rfl,x1,x2,x3,ad⟩;have ab:=hid (aa.out.trans (ad.mono aa.out.size));have HX:=hid (And.intro x1 (And.intro (Ad HB.out.size (Ad aa.out.size x2)) x3));clear ad x1 x2 x3)
   try go_wp2_with fail
   refine hK.out _ _ ?_ (fun hHeld=>?_)
   ·exact ⟨ab.out,(ab.out.cell (p:=⟨b0,0,none⟩) F0.out).trans C0.out,(ab.out.cell (p:=⟨b0,4,none⟩) F0.out).trans C4.out,(ab.out.cell (p:=⟨b1,5,none⟩) F5.out).trans C5.out⟩
   clear hK K
   try simp only [Act.put,mj]
   refine lz 21 ?_;refine m8 22 fun K hK=>?_;go_simp;have ae:=hid (ab.out.alloc ab.out.size (.cells #[zm zk (h+2),zm zk S.size,zm zk R,zm zk Y,zw F,zw Z,zp (some ⟨g',0,none⟩) k c'] 212))
   try go_wp2_with fail
   refine hK.out _ _ ?_ (fun hHeld=>?_)
   ·exact ⟨ae.out,(ae.out.cell (p:=⟨b0,0,none⟩) F0.out).trans C0.out,(ae.out.cell (p:=⟨b0,4,none⟩) F0.out).trans C4.out,(ae.out.cell (p:=⟨b1,5,none⟩) F5.out).trans C5.out⟩
   clear hK K
   try simp only [Act.put,mj]
   refine lz 23 ?_;refine wpAnyH_done lh ?_ _;go_wp2_with fail;go_ret;exact HE.out w3 _ g' c' _ HX.out.1 HX.out.2.1 HX.out.2.2 (HB.out.trans (ab.out.mono HB.out.size)) rfl rfl
set_option maxHeartbeats 800000 in
theorem ME {a:Option zr} {c:Nat} (h:n<2∨8<n) :
 zx prog 198 #[zp a n c] w fun e w'=>e=zv (Ag none)∧zo w w w':=by
 rcases h with h|h
 ·have t1:decide ((n:Int)<2)=true:=decide_eq_true lg;have t1':decide (n<2)=true:=decide_eq_true h;clear h;go_enter func198,ntmps198;go_wp2;go_ret;exact ⟨rfl,Below.refl _ _⟩
 ·have t1:decide ((n:Int)<2)=false:=decide_eq_false lg;have t1':decide (n<2)=false:=decide_eq_false lg;have t2:decide ((8:Int)<(n:Int))=true:=decide_eq_true lg;have t2':decide (8<n)=true:=decide_eq_true lg;clear h;go_enter func198,ntmps198;go_wp2;go_ret;exact ⟨rfl,Below.refl _ _⟩
end Go.Proofs.YtbagenpobcgjnaaGreat
