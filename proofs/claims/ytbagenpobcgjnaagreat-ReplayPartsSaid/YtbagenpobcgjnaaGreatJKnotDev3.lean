/-
  Joined: KnotDev3, MarkRef2, StaMem.
-/
import Derived.Test.YtbagenpobcgjnaaGreatJSq
import Derived.Test.YtbagenpobcgjnaaGreatJKnotMem
import Derived.Test.YtbagenpobcgjnaaGreatJStrs
import Derived.Laws.MakeOwn
import Derived.Test.YtbagenpobcgjnaaGreatJMarkRef
import Derived.Test.YtbagenpobcgjnaaGreatJUtfLeaf
import Derived.Laws.OwnMore
import Derived.Deep.AppendLies
import Derived.Deep.Draws
import Derived.Test.YtbagenpobcgjnaaGreatJMarkMath
import Derived.Test.YtbagenpobcgjnaaGreatJStkRow
variable {g h n o:Nat} {B:Nat→Prop} {w:Go.World}
namespace Go.Proofs.YtbagenpobcgjnaaGreat
open Go.Proofs.Tryz
set_option maxRecDepth 100000
open Lib (hid)
open Go.RowKit
set_option linter.unusedVariables false
set_option linter.unusedSimpArgs false
def addrs (K:List Kid):List (Option Addr):=K.map fun k=>some ⟨k.b,0,none⟩
theorem AO (K:List Kid):ptrs K=(addrs K).map Value.pointer:=by simp [ptrs,addrs]
theorem qB (K:List Kid):(addrs K).length=K.length:=by simp [addrs]
theorem gF (K:List Kid):∀ u∈ptrs K,u.oneCell'=true:=by
 intro u hu
 obtain ⟨k,_,rfl⟩:=List.mem_map.1 hu
 rfl
def cflat (l:List Cnt):List Value:=l.flatMap fun x=>[.int .i64 x.b,.int .i64 x.r,.int .i64 x.l]
theorem DR (l:List Cnt) (x:Cnt):cflat (l++[x])=cflat l++[.int .i64 x.b,.int .i64 x.r,.int .i64 x.l]:=by simp [cflat]
theorem pV:∀ (l:List Cnt) (k:Nat) (h:k<l.length),(cflat l)[k * 3]? = some (.int .i64 l[k].b)∧(cflat l)[k * 3+1]? = some (.int .i64 l[k].r)∧(cflat l)[k * 3+2]? = some (.int .i64 l[k].l)
 | x::l,0,_=>⟨rfl,rfl,rfl⟩
 | x::l,k+1,h=>by
  obtain ⟨h0,h1,h2⟩:=pV l k (by simpa using h)
  have e:cflat (x::l)=.int .i64 x.b::.int .i64 x.r::.int .i64 x.l::cflat l:=by simp [cflat]
  rw [e,show (k+1) * 3=k * 3+3 by omega]
  exact ⟨h0,h1,h2⟩
theorem KV {base:Nat} {t:TypeId} {v:Value} {l:List Cnt} (hn:l.length=n) (h:w.ownsRow base t 3 v n (cflat l)):∃ a c,v=.slice a n c∧Cnts w w.heap.size a l:=by
 subst hn
 rcases h.2 with ⟨rfl,h0⟩|⟨g,cap,cur,rfl,hgb,hg,_⟩
 ·exact ⟨none,0,by rw [h0],fun k hk=>absurd hk (by omega)⟩
 ·have hc:=h.cells (g:=g) rfl
  refine ⟨_,_,rfl,fun k hk=>⟨_,rfl,(h.lt g rfl).2,?_⟩⟩
  obtain ⟨h0,h1,h2⟩:=pV l k hk
  have e0:(⟨g,0,none⟩:Addr).add (k * 3)=⟨g,k * 3,none⟩:=by unfold Addr.add;split <;> simp_all
  have e1:(⟨g,0,none⟩:Addr).add (k * 3+1)=⟨g,k * 3+1,none⟩:=by unfold Addr.add;split <;> simp_all
  have e2:(⟨g,0,none⟩:Addr).add (k * 3+2)=⟨g,k * 3+2,none⟩:=by unfold Addr.add;split <;> simp_all
  have q0:=hc _ _ h0
  have q1:=hc _ _ h1
  have q2:=hc _ _ h2
  rw [e0] at q0
  rw [e1] at q1
  rw [e2] at q2
  rw [e0]
  exact ⟨q0,q1,q2⟩
theorem AC:(prog.info? 173).map (fun i=>(i.zero,i.size,i.bytes))=some (some (cntV 0 0 0),3,24):=by kernel_rfl
theorem zC (w:World) (x y z:Value) (t:TypeId):∀ j u,([x,y,z]:List Value)[j]? = some u→(w.alloc (.cells #[x,y,z] t)).cell? ((⟨w.heap.size,0,none⟩:Addr).add j)=some u:=by
 intro j u hj
 match j,hj with
 | 0,hj=>simp at hj;subst hj;simp [Addr.add,World.cell?_alloc_new]
 | 1,hj=>simp at hj;subst hj;simp [Addr.add,World.cell?_alloc_new]
 | 2,hj=>simp at hj;subst hj;simp [Addr.add,World.cell?_alloc_new]
theorem EV (x y z:Int):∀ u∈[Value.int .i64 x,.int .i64 y,.int .i64 z],u.oneCell'=true:=by
 intro u hu
 simp at hu
 rcases hu with rfl|rfl|rfl <;> rfl
structure JoinP (w:World) (B:Nat→Prop) (g o n h:Nat) (K:List Kid):Prop where
 len:K.length=n
 row:PRow w g o (ptrs K)
 kids:∀ k∈K,KnotW w B h k.b k.L
 lt:∀ i,B i→i<w.heap.size
 hh:h≤900
 size:(wholeL (flat K)).size≤1000000
theorem JoinP.on {w':World} {K:List Kid} (p:JoinP w B g o n h K) (hb:Below w.heap.size w w'):JoinP w' B g o n h K:=
 ⟨p.len,p.row.on hb,fun k hk=>(p.kids k hk).below hb p.lt,fun i hi=>Nat.lt_of_lt_of_le (p.lt i hi) hb.size,p.hh,p.size⟩
theorem JoinP.cell {K:List Kid} (p:JoinP w B g o n h K) {k:Nat} (hk:k<n):w.cell? ⟨g,o+k,none⟩=some (pv (K[k]'(by rw [p.len];exact hk)).b):=by
 have:=p.row.2 k (by rw [aP,p.len];exact hk)
 rw [this]
 simp [ptrs]
theorem JoinP.even {c:Nat} {K:List Kid} (p:JoinP w B g o n h K) (hn:n≤1000000) :
 Calls prog 196 #[.slice (some ⟨g,o,none⟩) n c] w fun e w'=>e=.returned (.bool true)∧Below w.heap.size w w':=by
 refine (KX (hs:=fun _=>(h:Int)) (ps:=addrs K) (by rw [qB,p.len]) hn (by rw [← AO];exact p.row) (fun k hk=>?_)).mono ?_
 ·rw [qB] at hk
  have:=(p.kids _ (List.getElem_mem hk)).hgt (by have:=p.hh;omega)
  simpa [addrs] using this
 ·rintro e w' ⟨b,rfl,hb,hbel⟩
  rw [hb.2 fun k hk=>⟨Int.natCast_nonneg h,rfl⟩]
  exact ⟨rfl,hbel⟩
theorem JoinP.cnt {K:List Kid} (p:JoinP w B g o n h K) {k:Nat} (hk:k<K.length) :
 w.cell? ⟨K[k].b,1,none⟩=some (.int .i64 (cntK (wholeL K[k].L)).b)∧w.cell? ⟨K[k].b,2,none⟩=some (.int .i64 (cntK (wholeL K[k].L)).r)∧w.cell? ⟨K[k].b,3,none⟩=some (.int .i64 (cntK (wholeL K[k].L)).l):=by
 obtain ⟨kv,-,hB⟩:=(p.kids _ (List.getElem_mem hk)).cells
 obtain ⟨c0,c1,c2,c3,c4,c5,c6⟩:=Blk.seven hB
 exact ⟨c1,c2,c3⟩
theorem JoinP.ends {K:List Kid} (p:JoinP w B g o n h K) (h0:0<K.length) :
 w.cell? ⟨K[0].b,0,none⟩=some (.int .i64 (h+1))∧w.cell? ⟨K[0].b,4,none⟩=some (.string (fstL (flat K)))∧w.cell? ⟨(K[K.length - 1]'(by omega)).b,5,none⟩=some (.string (lstL (flat K))):=by
 obtain ⟨e1,e2⟩:=DF (fun k hk=>(p.kids k hk).ne) h0
 obtain ⟨kv,-,hB⟩:=(p.kids _ (List.getElem_mem h0)).cells
 obtain ⟨c0,c1,c2,c3,c4,c5,c6⟩:=Blk.seven hB
 obtain ⟨kv',-,hB'⟩:=(p.kids _ (List.getElem_mem (show K.length - 1<K.length by omega))).cells
 obtain ⟨d0,d1,d2,d3,d4,d5,d6⟩:=Blk.seven hB'
 rw [e1,e2]
 exact ⟨c0,c4,d5⟩
structure CnI (w:World) (K:List Kid) (k:Nat) (v:Value) (wr:World):Prop where
 own:wr.ownsRow w.heap.size 173 3 v k (cflat ((K.map fun x=>cntK (wholeL x.L)).take k))
 bel:Below w.heap.size w wr
def RetJoin (w:World) (B:Nat→Prop) (h:Nat) (K:List Kid) (e:Ending) (w':World):Prop:=∃ b g c,e=.returned (pv b)∧w.heap.size≤b∧w.heap.size≤g∧KnotN w' B h b K g c∧Below w.heap.size w w'
theorem JD {w w1 w2:World} {B:Nat→Prop} {g o n c h b:Nat} {K:List Kid} (p:JoinP w B g o n h K) (h2:2≤n) (h8:n≤8) {g' c':Nat} (hc:n≤c') (hg:w.heap.size≤g') (hr:PRow w1 g' 0 (ptrs K)) (hb:Below w.heap.size w w1)
 (hw:w2=w1.alloc (.cells (kcs (h+2) (wholeL (flat K)) (fstL (flat K)) (lstL (flat K)) (.slice (some ⟨g',0,none⟩) n c')) 212)) (hbk:b=w1.heap.size):RetJoin w B h K (.returned (pv b)) w2:=by
 subst hw hbk
 have hbel:=hb.alloc hb.size (.cells (kcs (h+2) (wholeL (flat K)) (fstL (flat K)) (lstL (flat K)) (.slice (some ⟨g',0,none⟩) n c')) 212)
 have hlen:=p.len
 refine ⟨_,g',c',rfl,hb.size,hg,⟨by omega,by omega,by omega,(p.on hbel).kids,hr.on ((Below.refl _ _).alloc (Nat.le_refl _) _),?_⟩,hbel⟩
 rw [hlen]
 exact Blk.new _ _ _
set_option maxHeartbeats 1600000 in
theorem dP {c:Nat} {K:List Kid} (p:JoinP w B g o n h K) (h2:2≤n) (h8:n≤8) :
 Calls prog 198 #[.slice (some ⟨g,o,none⟩) n c] w (RetJoin w B h K):=by
 obtain ⟨i0,hi,ai,aj,ak⟩:=info_parts AC
 have ce:=p.even (c:=c) (by omega)
 have CE:=hid ce;have HP:=hid p
 clear ce p
 have t1:decide ((n:Int)<2)=false:=decide_eq_false (by omega)
 have t2:decide ((8:Int)<(n:Int))=false:=decide_eq_false (by omega)
 have t1':decide (n<2)=false:=decide_eq_false (by omega)
 have t2':decide (8<n)=false:=decide_eq_false (by omega)
 go_enter func198,ntmps198
 go_wp2_with fail
 refine CE.out.mono ?_;rintro e w1 ⟨rfl,ac⟩
 have al:=hid ac
 clear ac
 go_wp2
 go_loopw [3,23] (fun v i wr=>∃ (k:Nat) (u:Value),k≤n∧i=.int .i64 k∧u=v∧CnI w K k u wr) (fun _ i _=>n - (intOf i).toNat)
 case atStart=>exact ⟨0,_,Nat.zero_le _,rfl,rfl,World.ownsRow_nil _ _ _ _,al.out⟩
 case round =>
  obtain ⟨k,v,hk,rfl,rfl,hC⟩:=hrel
  by_cases hlt:k<n
  ·have hkl:k<K.length:=by rw [HP.out.len];exact hlt
   have q0:=(HP.out.on hC.bel).cell hlt
   obtain ⟨q1,q2,q3⟩:=(HP.out.on hC.bel).cnt hkl
   have hst:((K.map fun x=>cntK (wholeL x.L)).take (k+1))=(K.map fun x=>cntK (wholeL x.L)).take k++[cntK (wholeL K[k].L)]:=by
    rw [List.take_succ_eq_append_getElem (by rw [List.length_map];exact hkl),List.getElem_map]
   obtain ⟨b,hb⟩:∃ b,K[k].b=b:=⟨_,rfl⟩
   obtain ⟨x,hx⟩:∃ x,cntK (wholeL K[k].L)=x:=⟨_,rfl⟩
   rw [hb] at q0 q1 q2 q3
   rw [hx] at q1 q2 q3 hst
   obtain ⟨xb,xr,xl⟩:=x
   have hown:=hC.own
   have hsz:w.heap.size≤wr.heap.size:=hC.bel.size
   have HC:=hid hC;have am:=hid hst
   clear hb hx hC hst hkl
   go_wp2_with (at_builtin;refine wpList_append_own _ rfl _ _ 245 rfl w.heap.size 173 i0 _ 3 24 underlying245 hi ai aj ak rfl (by decide) _ _ _ rfl (hown.alloc _) ⟨wr.heap.size,0,none⟩ 1 1 [.int .i64 xb,.int .i64 xr,.int .i64 xl] rfl rfl (zC _ _ _ _ _) (EV _ _ _) (by unfold maxLen;omega) (by omega) (Nat.le_trans hsz (by simp)) ?_;intro v' w2 hown' hgrow _)
   have ad:Below w.heap.size w w2:=(HC.out.bel.alloc hsz _).grown hgrow (Nat.le_trans hsz (by simp)) (aM hown)
   have HN:=hid (show CnI w K (k+1) v' w2 from ⟨by rw [am.out,DR];exact hown',ad⟩)
   clear hown' hgrow hown ad
   go_wp2
   go_roundw
   case rel=>exact ⟨k+1,_,by omega,by go_num,rfl,HN.out⟩
   case measure=>simp [intOf];omega
  ·obtain rfl:k=n:=by omega
   have hp:=HP.out.on hC.bel
   have hq:=hp.ends (by rw [hp.len];omega)
   have q0:=hp.cell (k:=0) (by omega)
   have qn:=hp.cell (k:=k - 1) (by omega)
   have hci:=hC.own
   rw [List.take_of_length_le (by rw [List.length_map,hp.len];exact Nat.le_refl _)] at hci
   obtain ⟨a,ca,rfl,hcs⟩:=KV (by rw [List.length_map,hp.len]) hci
   have ct:∀ W,Below wr.heap.size wr W→Calls prog 211 #[.slice a k ca] W fun e w'=>e=.returned (cntV (wholeL (flat K)).size (runes (wholeL (flat K)).data.toList) (lines (wholeL (flat K)).data.toList))∧Below W.heap.size W w':=fun W hb=>by
    have:=LK a (K.map fun x=>cntK (wholeL x.L)) ca (by rw [List.length_map,hp.len];omega) W ((hcs.below hb).more hb.size)
    rw [List.length_map,hp.len,LY hp.size] at this
    exact this
   have ck:∀ W,Below wr.heap.size wr W→Calls prog 212 #[.slice (some ⟨g,o,none⟩) k c] W fun e w'=>∃ g' c',e=.returned (.slice (some ⟨g',0,none⟩) k c')∧k≤c'∧W.heap.size≤g'∧PRow w' g' 0 (ptrs K)∧Below W.heap.size W w':=fun W hb =>
    zT (by rw [aP,hp.len]) (by omega) (hp.row.on hb) (gF K)
   have hend:=fun (W W2:World) g' c' b h1 an h2' h3 h4 h5=>@JD w W W2 B g o k c h b K HP.out h2 h8 g' c' h1 an h2' h3 h4 h5
   obtain ⟨b0,af⟩:∃ b,(K[0]'(by rw [hp.len];omega)).b=b:=⟨_,rfl⟩
   obtain ⟨b1,ac⟩:∃ b,(K[k - 1]'(by rw [hp.len];omega)).b=b:=⟨_,rfl⟩
   have ag:(K[K.length - 1]'(by rw [hp.len];omega)).b=b1:=by rw [← ac];congr 2;rw [hp.len]
   rw [af] at q0
   rw [ac] at qn
   rw [af,ag] at hq
   unfold kcs at hend
   obtain ⟨S,hS⟩:∃ S,wholeL (flat K)=S:=⟨_,rfl⟩
   obtain ⟨F,hF⟩:∃ F,fstL (flat K)=F:=⟨_,rfl⟩
   obtain ⟨Z,hZ⟩:∃ Z,lstL (flat K)=Z:=⟨_,rfl⟩
   rw [hS] at ct
   rw [hF,hZ] at hq
   rw [hS,hF,hZ] at hend
   obtain ⟨R,hR⟩:∃ R,runes S.data.toList=R:=⟨_,rfl⟩
   obtain ⟨Y,hY⟩:∃ Y,lines S.data.toList=Y:=⟨_,rfl⟩
   rw [hR,hY] at ct hend
   obtain ⟨c0,c4,c5⟩:=hq
   rw [Nat.add_zero] at q0
   have hh:=hp.hh
   have f0:=World.block_lt_of_cell? wr _ c0
   have f5:=World.block_lt_of_cell? wr _ c5
   have F0:=hid f0;have F5:=hid f5
   have C0:=hid c0;have C4:=hid c4;have C5:=hid c5
   have HB:=hid hC.bel;have CT:=hid ct;have CK:=hid ck;have HE:=hid hend
   clear hp hcs hci hC ct ck hend af ac ag hS hF hZ hR hY f0 f5 c0 c4 c5
   have e1:IntKind.i64.wrap ((k:Int) - 1)=(k:Int) - 1:=IntWalk.i64_in _ (by omega)
   have e2:((k:Int) - 1).toNat=k - 1:=by omega
   have b0':(0:Int)≤(k:Int) - 1:=by omega
   have b2:(k:Int) - 1<(k:Int):=by omega
   have b3:(0:Int)<(k:Int):=by omega
   have b4:0<k:=by omega
   go_wp2
   go_region
   have e3:IntKind.i64.wrap ((h:Int)+1+1)=(h:Int)+2:=by rw [show (h:Int)+1+1=(h:Int)+2 by omega];exact IntWalk.i64_in _ (by omega)
   go_wp2_with fail
   refine wp_region_held_drew (S:=(fun w':World=>Below wr.heap.size wr w'∧w'.cell? ⟨b0,0,none⟩=some (.int .i64 (h+1))∧w'.cell? ⟨b0,4,none⟩=some (.string F)∧w'.cell? ⟨b1,5,none⟩=some (.string Z))) (by kernel_rfl) ⟨(Below.refl _ _).drew.drew,C0.out,C4.out,C5.out⟩ (fun hHeld=>?_)
   refine sqt 0 ?_
   refine sqt 1 ?_
   refine sqt 2 ?_
   refine sqt 3 ?_
   refine sqt 4 ?_
   refine sqt 5 ?_
   refine sqt 6 ?_
   refine sqt 8 ?_
   refine sqt 9 ?_
   refine sqt 10 ?_
   refine sqt 11 ?_
   refine sqt 12 ?_
   refine sqt 13 ?_
   refine sqt 14 ?_
   refine sqt 15 ?_
   refine sqt 16 ?_
   refine sqt 17 ?_
   refine sqt 19 ?_
   refine sqr 7 fun K hK=>?_
   go_simp
   (go_at_call 211;refine (CT.out _ hHeld.1).mono ?_;rintro e w2 ⟨rfl,ah⟩;have aa:=hid (hHeld.1.trans (ah.mono hHeld.1.size));clear ah)
   try go_wp2_with fail
   refine hK.out _ _ ?_ (fun hHeld=>?_)
   ·exact ⟨aa.out,(aa.out.cell (p:=⟨b0,0,none⟩) F0.out).trans C0.out,(aa.out.cell (p:=⟨b0,4,none⟩) F0.out).trans C4.out,(aa.out.cell (p:=⟨b1,5,none⟩) F5.out).trans C5.out⟩
   clear hK K
   try simp only [Act.put,sqp]
   refine sqt 18 ?_
   refine sqr 20 fun K hK=>?_
   go_simp
   (go_at_call 212;refine (CK.out _ aa.out).mono ?_;rintro e w3 ⟨g',c',rfl,x1,x2,x3,ad⟩;have ab:=hid (aa.out.trans (ad.mono aa.out.size));have HX:=hid (And.intro x1 (And.intro (Nat.le_trans HB.out.size (Nat.le_trans aa.out.size x2)) x3));clear ad x1 x2 x3)
   try go_wp2_with fail
   refine hK.out _ _ ?_ (fun hHeld=>?_)
   ·exact ⟨ab.out,(ab.out.cell (p:=⟨b0,0,none⟩) F0.out).trans C0.out,(ab.out.cell (p:=⟨b0,4,none⟩) F0.out).trans C4.out,(ab.out.cell (p:=⟨b1,5,none⟩) F5.out).trans C5.out⟩
   clear hK K
   try simp only [Act.put,sqp]
   refine sqt 21 ?_
   refine sqr 22 fun K hK=>?_
   go_simp
   have ae:=hid (ab.out.alloc ab.out.size (.cells #[.int .i64 (h+2),.int .i64 S.size,.int .i64 R,.int .i64 Y,.string F,.string Z,.slice (some ⟨g',0,none⟩) k c'] 212))
   try go_wp2_with fail
   refine hK.out _ _ ?_ (fun hHeld=>?_)
   ·exact ⟨ae.out,(ae.out.cell (p:=⟨b0,0,none⟩) F0.out).trans C0.out,(ae.out.cell (p:=⟨b0,4,none⟩) F0.out).trans C4.out,(ae.out.cell (p:=⟨b1,5,none⟩) F5.out).trans C5.out⟩
   clear hK K
   try simp only [Act.put,sqp]
   refine sqt 23 ?_
   refine wpAnyH_done (by kernel_rfl) ?_ _
   go_wp2_with fail
   go_ret
   exact HE.out w3 _ g' c' _ HX.out.1 HX.out.2.1 HX.out.2.2 (HB.out.trans (ab.out.mono HB.out.size)) rfl rfl
set_option maxHeartbeats 800000 in
theorem DV {a:Option Addr} {c:Nat} (h:n<2∨8<n) :
 Calls prog 198 #[.slice a n c] w fun e w'=>e=.returned (.pointer none)∧Below w.heap.size w w':=by
 rcases h with h|h
 ·have t1:decide ((n:Int)<2)=true:=decide_eq_true (by omega)
  have t1':decide (n<2)=true:=decide_eq_true h
  clear h
  go_enter func198,ntmps198
  go_wp2
  go_ret
  exact ⟨rfl,Below.refl _ _⟩
 ·have t1:decide ((n:Int)<2)=false:=decide_eq_false (by omega)
  have t1':decide (n<2)=false:=decide_eq_false (by omega)
  have t2:decide ((8:Int)<(n:Int))=true:=decide_eq_true (by omega)
  have t2':decide (8<n)=true:=decide_eq_true (by omega)
  clear h
  go_enter func198,ntmps198
  go_wp2
  go_ret
  exact ⟨rfl,Below.refl _ _⟩
def RetSetR (w:World) (r:List Mrk×Int) (e:Ending) (w':World):Prop:=∃ a c,e=.returned (.tuple #[.slice a r.1.length c,.int .i64 r.2])∧MrkR w' w.heap.size a r.1 c∧Below w.heap.size w w'
theorem pJ {wr:World} {x y:Value} {t:TypeId} {N:Nat} (hN:w.heap.size<N) (h:Below N (w.alloc (.cells #[x,y] t)) wr):wr.cell? ⟨w.heap.size,0,none⟩=some x∧wr.cell? ⟨w.heap.size,1,none⟩=some y:=by
 refine ⟨(h.cell (p:=⟨w.heap.size,0,none⟩) hN).trans ?_,(h.cell (p:=⟨w.heap.size,1,none⟩) hN).trans ?_⟩ <;> simp [World.cell?_alloc_new]
structure Sta where
 t:ByteArray
 m:KPc
 u:SPc
 r:SPc
 o:Bool
 g:EPc
abbrev Sta.cs (s:Sta):Array Value:=#[.string s.t,.slice s.m.a s.m.l.length s.m.c,.slice s.u.a s.u.l.length s.u.c,.slice s.r.a s.r.l.length s.r.c,.bool s.o,.slice s.g.a s.g.l.length s.g.c]
abbrev staV (t:ByteArray) (m u r:Value) (o:Bool) (g:Value):Value:=.agg #[.string t,m,u,r,.bool o,g]
abbrev Sta.v (s:Sta):Value:=.agg s.cs
structure StaIn (w:World) (s:Sta):Prop where
 m:KPcs w s.m
 u:SPcs w s.u
 r:SPcs w s.r
 g:EPcs w s.g
theorem StaIn.later {W:World} {s:Sta} (h:StaIn w s) (hb:Below w.heap.size w W):StaIn W s:=⟨h.m.later hb,h.u.later hb,h.r.later hb,h.g.later hb⟩
structure Box6 (b:Nat) (c0 c1 c2 c3 c4 c5:Value) (w:World):Prop where
 lt:b<w.heap.size
 x0:w.cell? ⟨b,0,none⟩=some c0
 x1:w.cell? ⟨b,1,none⟩=some c1
 x2:w.cell? ⟨b,2,none⟩=some c2
 x3:w.cell? ⟨b,3,none⟩=some c3
 x4:w.cell? ⟨b,4,none⟩=some c4
 x5:w.cell? ⟨b,5,none⟩=some c5
theorem Box6.new (w:World) (c0 c1 c2 c3 c4 c5:Value) (t:TypeId):Box6 w.heap.size c0 c1 c2 c3 c4 c5 (w.alloc (.cells #[c0,c1,c2,c3,c4,c5] t)):=
 ⟨by simp,by simp [World.cell?_alloc_new],by simp [World.cell?_alloc_new],by simp [World.cell?_alloc_new],by simp [World.cell?_alloc_new],by simp [World.cell?_alloc_new],by simp [World.cell?_alloc_new]⟩
theorem Box6.on {b N:Nat} {c0 c1 c2 c3 c4 c5:Value} {W:World} (h:Box6 b c0 c1 c2 c3 c4 c5 w) (hb:Below N w W) (hN:b<N):Box6 b c0 c1 c2 c3 c4 c5 W:=
 ⟨Nat.lt_of_lt_of_le h.lt hb.size,(hb.cell (p:=⟨b,0,none⟩) hN).trans h.x0,(hb.cell (p:=⟨b,1,none⟩) hN).trans h.x1,(hb.cell (p:=⟨b,2,none⟩) hN).trans h.x2,(hb.cell (p:=⟨b,3,none⟩) hN).trans h.x3,(hb.cell (p:=⟨b,4,none⟩) hN).trans h.x4,(hb.cell (p:=⟨b,5,none⟩) hN).trans h.x5⟩
structure StaD where
 t:ByteArray
 m:List Mrk
 u:List (List Edt)
 r:List (List Edt)
 o:Bool
 g:List Edt
def Sta.d (s:Sta):StaD:=⟨s.t,s.m.l,lsP s.u.l,lsP s.r.l,s.o,s.g.l⟩
def sameD (a b:StaD):Bool:=decide (a.t=b.t) && (decide (a.m=b.m) && (decide (a.u=b.u) && (decide (a.r=b.r) && (decide (a.o=b.o) && decide (a.g=b.g)))))
theorem iT (a:StaD):sameD a a=true:=by simp [sameD]
end Go.Proofs.YtbagenpobcgjnaaGreat
