/-
  Joined: MarkDev3, MarkDev4.
-/
import Derived.Test.YtbagenpobcgjnaaGreatJSq
import Derived.Test.YtbagenpobcgjnaaGreatJMarkDev
import Derived.Test.YtbagenpobcgjnaaGreatJMarkCat
open Go renaming Addr->zy,Calls->zx,World->zw,maxLen->zz,wpAnyH_done->Ag,wpAnyH_take->Ab,wp_region_held_drew->Aa
open Go.Act renaming put->zt
open Go.IntKind renaming i64->zm,wrap_i64->Aq
open Go.Lib renaming hid->zk
open Go.Obj renaming cells->zq
open Go.RowKit renaming Below->zr
open Go.RowKit.Below renaming refl->zu
open Go.Value renaming int->zn,slice->zp,string->zo
open Go.World renaming cell?_alloc_new->Ai
open List renaming drop_eq_nil_of_le->Al,getElem?_cons_zero->Ae,getElem?_toArray->Ad,getElem_drop->Ao,getElem_take->An,length_append->Av,length_drop->Ak,length_eq_zero_iff->Ar,length_take->Ah,set_cons_succ->Ay,set_cons_zero->Ax
open Nat renaming le_refl->zv,lt_of_lt_of_le->Ap,sub_self->Aw,zero_le->Au
open Or renaming inl->Af
variable {w:Go.World}
namespace Go.Proofs.YtbagenpobcgjnaaGreat
open Go.Proofs.Tryz
set_option maxRecDepth 100000
open Lib (hid)
open Go.RowKit
set_option linter.unusedVariables false
theorem o4.take {B:Nat→Prop} {a:Option zy} {l:List l9} (h:o4 w B a l) (n:Nat):o4 w B a (l.take n):=fun k hk=>by
 have hk2:k<l.length:=by rw [Ah] at hk;omega
 obtain ⟨ad,e,hb,q0,q1⟩:=h k hk2;exact ⟨ad,e,hb,by rw [An];exact q0,by rw [An];exact q1⟩
theorem RT (ad:zy) (n k:Nat):(ad.add n).add k=ad.add (n+k):=by
 unfold Addr.add;by_cases hk:k=0
 ·subst hk;simp
 ·by_cases hn:n=0
  ·subst hn;simp [hk]
  ·simp [hk,hn];omega
theorem o4.drop {B:Nat→Prop} {ad:zy} {l:List l9} (h:o4 w B (some ad) l) (n:Nat):o4 w B (some (ad.add (n * 2))) (l.drop n):=fun k hk=>by
 have hk2:n+k<l.length:=by rw [Ak] at hk;omega
 obtain ⟨ad',e,hb,q0,q1⟩:=h (n+k) hk2;obtain rfl:ad=ad':=by injection e
 have e1:(ad.add (n * 2)).add (k * 2)=ad.add ((n+k) * 2):=by rw [RT];congr 1;omega
 refine ⟨_,rfl,by rw [show (ad.add (n * 2)).block=ad.block by unfold Addr.add;split <;> rfl];exact hb,by rw [e1,Ao];exact q0,by rw [e1,Ao];exact q1⟩
theorem uy.later {W:zw} {x:Pc} (h:uy w x) (hb:zr w w W):uy W x:=⟨(h.row.below (fun _ h=>h) hb).more fun b hb2=>Ap hb2 hb.size,h.nil⟩
theorem uy.take {a:Option zy} {l:List l9} {c:Nat} (h:uy w ⟨a,l,c⟩) (n:Nat):uy w ⟨a,l.take n,c⟩:=⟨o4.take h.row n,h.nil⟩
theorem cat2 {W:zw} {p q:Pc} (i j:Nat) (hp:uy W p) (hq:uy W q) (hi:p.l.length=i) (hj:q.l.length=j) (hs:i+j≤1000) (t:TypeId) :
 zx prog 180 #[zp (some ⟨W,0,none⟩) 2 2] (W.alloc (zq #[zp p.a i p.c,zp q.a j q.c] t)) (sb (W.alloc (zq #[zp p.a i p.c,zp q.a j q.c] t)) (p.l++q.l)):=by
 have hb:zr W W (W.alloc (zq #[zp p.a i p.c,zp q.a j q.c] t)):=(zu W W).alloc (zv _) _;have h:=lQ W [p,q] (W.alloc (zq #[zp p.a i p.c,zp q.a j q.c] t)) li (fun k hk=>by
  match k,hk with
  | 0,_=>simp [Ai,Pc.v,hi]
  | 1,_=>simp [Ai,Pc.v,hj]) (fun k hk=>by
  match k,hk with
  | 0,_=>exact hp.later hb
  | 1,_=>exact hq.later hb) li (by simp [uk];omega)
 have e:vg [p,q]=p.l++q.l:=by simp [vg]
 rw [e] at h;exact h
theorem cat3 {W:zw} {p m q:Pc} (i n j:Nat) (hp:uy W p) (hm:uy W m) (hq:uy W q) (hi:p.l.length=i) (hn:m.l.length=n) (hj:q.l.length=j) (hs:i+n+j≤1000) (t:TypeId) :
 zx prog 180 #[zp (some ⟨W,0,none⟩) 3 3] (W.alloc (zq #[zp p.a i p.c,zp m.a n m.c,zp q.a j q.c] t)) (sb (W.alloc (zq #[zp p.a i p.c,zp m.a n m.c,zp q.a j q.c] t)) (p.l++m.l++q.l)):=by
 have hb:zr W W (W.alloc (zq #[zp p.a i p.c,zp m.a n m.c,zp q.a j q.c] t)):=(zu W W).alloc (zv _) _;have h:=lQ W [p,m,q] (W.alloc (zq #[zp p.a i p.c,zp m.a n m.c,zp q.a j q.c] t)) li (fun k hk=>by
  match k,hk with
  | 0,_=>simp [Ai,Pc.v,hi]
  | 1,_=>simp [Ai,Pc.v,hn]
  | 2,_=>simp [Ai,Pc.v,hj]) (fun k hk=>by
  match k,hk with
  | 0,_=>exact hp.later hb
  | 1,_=>exact hm.later hb
  | 2,_=>exact hq.later hb) li (by simp [uk];omega)
 have e:vg [p,m,q]=p.l++m.l++q.l:=by simp [vg]
 rw [e] at h;exact h
theorem uy.drop {ad:zy} {l:List l9} {c:Nat} (h:uy w ⟨some ad,l,c⟩) (n:Nat):uy w ⟨some (ad.add (n * 2)),l.drop n,c - n⟩:=⟨o4.drop h.row n,fun e=>by cases e⟩
theorem pQ (w:zw) (a:zy) (c:Nat):uy w ⟨some a,[],c⟩:=⟨fun k hk=>absurd hk li,fun e=>by cases e⟩
set_option maxHeartbeats 1600000 in
theorem qC (a:Option zy) (l:List l9) (c:Nat) (s:ByteArray) (w:zw) (hp:uy w ⟨a,l,c⟩) (hlc:l.length≤c) (hc:c≤zz) (hl:l.length≤40) (hri:qp l=true) :
 zx prog 152 #[zp a l.length c,zo s] w (ot w (pk l s)):=by
 unfold zz at hc;have hr:o4 w (·<w) a l:=hp.row;have cf:=gM a l c s _ w hr (fun _ h=>h) lg (fun W x _ _=>nL x W);by_cases hi:l.findIdx (qq s)<l.length
 case neg =>
  have e2:pk l s=([],8):=by unfold pk;rw [if_neg hi]
  rw [e2];rw [decide_eq_false hi] at cf;obtain ⟨n,hn⟩:∃ n,l.length=n:=⟨_,rfl⟩;rw [hn] at cf ⊢;obtain ⟨i,he⟩:∃ i,l.findIdx (qq s)=i:=⟨_,rfl⟩;rw [he] at cf;have CF:=zk cf;clear hr cf hi he hn e2 hp hri hlc hl;go_enter func152,ntmps152;go_wp2_with fail;refine CF.out.mono ?_;rintro e w1 ⟨rfl,ac⟩;go_wp2;go_ret2;exact ⟨none,0,rfl,td.none _ _,ac⟩
 have e2:pk l s=(l.take (l.findIdx (qq s))++l.drop (l.findIdx (qq s)+1),0):=by unfold pk;rw [if_pos hi,tM hri hi]
 rw [e2];rw [decide_eq_true hi] at cf;obtain ⟨i,he⟩:∃ i,l.findIdx (qq s)=i:=⟨_,rfl⟩;rw [he] at hi cf ⊢;obtain ⟨ad,rfl⟩:∃ ad,a=some ad:=by
  obtain ⟨ad,e,-⟩:=hr i hi;exact ⟨ad,e⟩
 have ht:=hp.take i;have hd:=hp.drop (i+1);have ah:c=i+1→l.drop (i+1)=[]:=fun h=>Al lg;have htl:(l.take i).length=i:=by rw [Ah];omega
 have hdl:(l.drop (i+1)).length=l.length - (i+1):=by rw [Ak]
 obtain ⟨n,hn⟩:∃ n,l.length=n:=⟨_,rfl⟩;rw [hn] at hi hl cf hlc hdl ⊢;obtain ⟨T,hT⟩:∃ T,l.take i=T:=⟨_,rfl⟩;obtain ⟨D,hD⟩:∃ D,l.drop (i+1)=D:=⟨_,rfl⟩;rw [hT] at ht htl ⊢;rw [hD] at hd ah hdl ⊢;have CF:=zk cf;have HT:=zk ht;have HD:=zk hd;have ai:=zk ah;have ak:=zk htl;have al:=zk hdl;clear hr cf he hn e2 hp hri ht hd ah htl hdl hT hD;have z0:(0:Int)≤(i:Int):=lg;have z1:(i:Int)≤(c:Int):=lg;have z2:(i:Int)+1≤(n:Int):=lg;have z3:(0:Int)≤(i:Int)+1:=lg;have z4:(n:Int)≤(c:Int):=lg;have z5:((i:Int)+1).toNat=i+1:=lg;have z6:zm.wrap ((i:Int)+1)=(i:Int)+1:=by rw [Aq];omega
 by_cases hce:c=i+1
 ·have am:n=i+1:=lg;have D0:=ai.out hce;subst hce;subst am;subst D0;have z7:(i:Int)≤(i:Int)+1:=lg;clear HD ai;go_enter func152,ntmps152;go_wp2_with fail;refine CF.out.mono ?_;rintro e w1 ⟨rfl,ac⟩;have aa:=zk ac;clear ac;go_wp2_with fail;refine Aa (S:=(fun w':zw=>zr w w w')) lh aa.out.drew (fun hHeld=>?_);refine Ab (i:=0) (v:=?_) (by simp only [Ad,Ae];rfl) lh lh lh (fun _ _ _ h=>by exact h) (Af ⟨lm,?_⟩) ln ?_;rotate_left
  ·(intro w hSw;(try dsimp only at hSw);go_simp;try with_reducible rfl)
  try simp only [zt,mj]
  refine lz 1 ?_;refine lz 2 ?_;refine lz 3 ?_;refine lz 4 ?_;refine lz 5 ?_;refine lz 6 ?_;refine m8 7 fun K hK=>?_;go_simp;have ab:=zk (aa.out.drew.alloc aa.out.size (zq #[zp (some ad) i (i+1),zp (some ad) 0 0] 22));have CC:=zk (cat2 (W:=w1.drew) (p:=⟨some ad,T,(i+1)⟩) (q:=⟨some ad,[],0⟩) i 0 (HT.out.later aa.out.drew) (pQ _ _ _) ak.out rfl lg 22)
  try go_wp2_with fail
  refine hK.out _ _ ?_ (fun hHeld=>?_)
  ·exact ab.out
  clear hK K
  try simp only [zt,mj]
  refine m8 8 fun K hK=>?_;go_simp
  (go_at_call 180;refine (CC.out).mono ?_;rintro e w3 ⟨a3,c3,rfl,ae,af⟩;have ag:=zk (ab.out.trans (af.mono ab.out.size));have aj:=zk (ae.more ab.out.size);clear af ae)
  try go_wp2_with fail
  refine hK.out _ _ ?_ (fun hHeld=>?_)
  ·exact ag.out
  clear hK K
  try simp only [zt,mj]
  refine lz 9 ?_;refine lz 10 ?_;refine Ag lh ?_ _;go_wp2_with fail;go_ret2;exact ⟨a3,c3,li,aj.out,ag.out⟩
 ·clear ai;go_enter func152,ntmps152;go_wp2_with fail;refine CF.out.mono ?_;rintro e w1 ⟨rfl,ac⟩;have aa:=zk ac;clear ac;go_wp2_with fail;refine Aa (S:=(fun w':zw=>zr w w w')) lh aa.out.drew (fun hHeld=>?_);refine Ab (i:=0) (v:=?_) (by simp only [Ad,Ae];rfl) lh lh lh (fun _ _ _ h=>by exact h) (Af ⟨lm,?_⟩) ln ?_;rotate_left
  ·(intro w hSw;(try dsimp only at hSw);go_simp;try with_reducible rfl)
  try simp only [zt,mj]
  refine lz 1 ?_;refine lz 2 ?_;refine lz 3 ?_;refine lz 4 ?_;refine lz 5 ?_;refine lz 6 ?_;refine m8 7 fun K hK=>?_;go_simp;have ab:=zk (aa.out.drew.alloc aa.out.size (zq #[zp (some ad) i c,zp (some (ad.add ((i+1) * 2))) (n - (i+1)) (c - (i+1))] 22));have CC:=zk (cat2 (W:=w1.drew) (p:=⟨some ad,T,c⟩) (q:=⟨some (ad.add ((i+1) * 2)),D,c - (i+1)⟩) i (n - (i+1)) (HT.out.later aa.out.drew) (HD.out.later aa.out.drew) ak.out al.out lg 22)
  try go_wp2_with fail
  refine hK.out _ _ ?_ (fun hHeld=>?_)
  ·exact ab.out
  clear hK K
  try simp only [zt,mj]
  refine m8 8 fun K hK=>?_;go_simp
  (go_at_call 180;refine (CC.out).mono ?_;rintro e w3 ⟨a3,c3,rfl,ae,af⟩;have ag:=zk (ab.out.trans (af.mono ab.out.size));have aj:=zk (ae.more ab.out.size);clear af ae)
  try go_wp2_with fail
  refine hK.out _ _ ?_ (fun hHeld=>?_)
  ·exact ag.out
  clear hK K
  try simp only [zt,mj]
  refine lz 9 ?_;refine lz 10 ?_;refine Ag lh ?_ _;go_wp2_with fail;go_ret2;exact ⟨a3,c3,li,aj.out,ag.out⟩
theorem jT (W:zw) (xn:ByteArray) (xp:Int):uy (W.alloc (zq #[zo xn,zn zm xp] 90)) ⟨some ⟨W,0,none⟩,[⟨xn,xp⟩],1⟩:=
 ⟨fun k hk=>by
  obtain rfl:k=0:=by simpa using hk
  exact ⟨_,rfl,li,by simp [Addr.add,Ai],by simp [Addr.add,Ai]⟩,fun e=>by cases e⟩
set_option maxHeartbeats 1600000 in
theorem LD (a:Option zy) (l:List l9) (c:Nat) (x:l9) (w:zw) (hp:uy w ⟨a,l,c⟩) (hlc:l.length≤c) (hc:c≤zz) (hl:l.length≤40) (hx:x.name.size≤zz) (hm:mv x.name.data.toList=false) :
 zx prog 151 #[zp a l.length c,x.v] w (ot w ([],7)):=by
 obtain ⟨xn,xp⟩:=x;have cm:=bJ xn hx;rw [hm] at cm;have CM:=zk cm;clear cm hm;go_enter func151,ntmps151;go_wp2_with fail;refine (CM.out _).mono ?_;rintro e w1 ⟨rfl,rfl⟩;go_wp2;go_ret2;exact ⟨none,0,rfl,td.none _ _,(zu w w).alloc (zv _) _⟩
theorem bE {wX w2 w3:zw} {b:Nat} {x y:Value} (h:zr wX wX w2∧w2 ⟨b,0,none⟩=some x∧w2 ⟨b,1,none⟩=some y) (hb:zr w2 w2 w3) (hx:b<wX):zr wX wX w3∧w3 ⟨b,0,none⟩=some x∧w3 ⟨b,1,none⟩=some y:=
 have hz:b<w2:=Ap hx h.1.size
 ⟨h.1.trans (hb.mono h.1.size),(hb.cell (p:=⟨b,0,none⟩) hz).trans h.2.1,(hb.cell (p:=⟨b,1,none⟩) hz).trans h.2.2⟩
set_option maxHeartbeats 1600000 in
theorem PK (a:Option zy) (l:List l9) (c:Nat) (x:l9) (w:zw) (hp:uy w ⟨a,l,c⟩) (hlc:l.length≤c) (hc:c≤zz) (hl:l.length≤40) (hx:x.name.size≤zz) (hri:qp l=true) (hm:mv x.name.data.toList=true) (hi:l.findIdx (qq x.name)<l.length) :
 zx prog 151 #[zp a l.length c,x.v] w (ot w (pc (qb l x.name) x,0)):=by
 rw [yR hri hi];unfold zz at hc;obtain ⟨xn,xp⟩:=x;have cm:=bJ xn hx;obtain ⟨wX,hwX⟩:∃ wX,w.alloc (zq #[zo xn,zn zm xp] 90)=wX:=⟨_,rfl⟩;have aj:zr w w (w.alloc (zq #[zo xn,zn zm xp] 90)):=(zu w w).alloc (zv _) _;obtain ⟨x0,x1⟩:=gU (N:=w.heap.size+1) lg (zu (w+1) (w.alloc (zq #[zo xn,zn zm xp] 90)));have aq:w.heap.size+1≤wX.heap.size:=by rw [← hwX];simp
 rw [hwX] at x0 x1 aj;have hpX:uy wX ⟨a,l,c⟩:=hp.later aj;have hr:o4 wX (·<wX) a l:=hpX.row;have cf:=gM a l c xn _ wX hr (fun _ h=>h) lg (fun W x _ _=>nL x W);have ak:=zk (fun w' (h:zr wX wX w')=>aj.trans (h.mono lg));have hi:l.findIdx (qq xn)<l.length:=hi;rw [hm] at cm;rw [decide_eq_true hi] at cf;show zx _ _ _ w (ot w (l.take (l.findIdx (qq xn))++[⟨xn,xp⟩]++l.drop (l.findIdx (qq xn)+1),0));obtain ⟨i,he⟩:∃ i,l.findIdx (qq xn)=i:=⟨_,rfl⟩;rw [he] at hi cf ⊢;obtain ⟨ad,rfl⟩:∃ ad,a=some ad:=by
  obtain ⟨ad,e,-⟩:=hr i hi;exact ⟨ad,e⟩
 have ht:=hpX.take i;have hd:=hpX.drop (i+1);have al:c=i+1→l.drop (i+1)=[]:=fun h=>Al lg;have htl:(l.take i).length=i:=by rw [Ah];omega
 have hdl:(l.drop (i+1)).length=l.length - (i+1):=by rw [Ak]
 obtain ⟨n,hn⟩:∃ n,l.length=n:=⟨_,rfl⟩;rw [hn] at hi hl cf hlc hdl ⊢;obtain ⟨T,hT⟩:∃ T,l.take i=T:=⟨_,rfl⟩;obtain ⟨D,hD⟩:∃ D,l.drop (i+1)=D:=⟨_,rfl⟩;rw [hT] at ht htl ⊢;rw [hD] at hd al hdl ⊢;have CM:=zk cm;have CF:=zk cf;have HT:=zk ht;have HD:=zk hd;have am:=zk al;have ao:=zk htl;have ar:=zk hdl;have ab:=zk (show w.heap.size<wX by omega);clear cm hr cf he hn hp hpX hri ht hd al htl hdl hT hD aj aq hm hx;have z0:(0:Int)≤(i:Int):=lg;have z1:(i:Int)≤(c:Int):=lg;have z2:(i:Int)+1≤(n:Int):=lg;have z3:(0:Int)≤(i:Int)+1:=lg;have z4:(n:Int)≤(c:Int):=lg;have z5:((i:Int)+1).toNat=i+1:=lg;have z6:zm.wrap ((i:Int)+1)=(i:Int)+1:=by rw [Aq];omega
 by_cases hce:c=i+1
 ·have au:n=i+1:=lg;have D0:=am.out hce;subst hce;subst au;subst D0;have z7:(i:Int)≤(i:Int)+1:=lg;clear HD am;go_enter func151,ntmps151;go_wp2_with fail;refine (CM.out _).mono ?_;rintro e w0 ⟨rfl,rfl⟩;go_wp2_with fail;refine CF.out.mono ?_;rintro e w1 ⟨rfl,ae⟩;have aa:=zk ae;clear hwX;clear ae;have y0:=(aa.out.cell (p:=⟨w,0,none⟩) ab.out).trans x0;have y1:=(aa.out.cell (p:=⟨w,1,none⟩) ab.out).trans x1;go_wp2_with fail;refine Aa (S:=(fun w':zw=>zr wX wX w'∧w' ⟨w,0,none⟩=some (zo xn)∧w' ⟨w,1,none⟩=some (zn zm xp))) lh ⟨aa.out.drew,y0,y1⟩ (fun hHeld=>?_);refine Ab (i:=0) (v:=?_) (by simp only [Ad,Ae];rfl) lh lh lh (fun _ _ _ h=>by exact h) (Af ⟨lm,?_⟩) ln ?_;rotate_left
  ·(intro w hSw;(try dsimp only at hSw);go_simp;try with_reducible rfl)
  try simp only [zt,mj]
  refine lz 1 ?_;refine lz 2 ?_;refine lz 3 ?_;refine lz 5 ?_;refine lz 6 ?_;refine lz 7 ?_;refine lz 8 ?_;refine m8 4 fun K hK=>?_;go_simp;have af:=zk (bE (show zr wX.heap.size wX w1.drew∧w1.drew ⟨w,0,none⟩=some (zo xn)∧w1.drew ⟨w,1,none⟩=some (zn zm xp) from ⟨aa.out.drew,y0,y1⟩) ((zu w1.drew w1.drew).alloc (zv _) (zq #[zo xn,zn zm xp] 90)) ab.out)
  try go_wp2_with fail
  refine hK.out _ _ ?_ (fun hHeld=>?_)
  ·exact af.out
  clear hK K
  try simp only [zt,mj]
  refine m8 9 fun K hK=>?_;go_simp;have ac:=zk (bE af.out ((zu (w1.drew.alloc (zq #[zo xn,zn zm xp] 90)) (w1.drew.alloc (zq #[zo xn,zn zm xp] 90))).alloc (zv _) (zq #[zp (some ad) i (i+1),zp (some ⟨w1.drew,0,none⟩) 1 1,zp (some ad) 0 0] 22)) ab.out);have cc:=cat3 (W:=w1.drew.alloc (zq #[zo xn,zn zm xp] 90)) (p:=⟨some ad,T,(i+1)⟩) (m:=⟨some ⟨w1.drew,0,none⟩,[⟨xn,xp⟩],1⟩) (q:=⟨some ad,[],0⟩) i 1 0 (HT.out.later (aa.out.drew.trans (((zu w1.drew w1.drew).alloc (zv _) (zq #[zo xn,zn zm xp] 90)).mono aa.out.drew.size))) (jT w1.drew xn xp) (pQ _ _ _) ao.out rfl rfl lg 22;rw [show (w1.drew.alloc (zq #[zo xn,zn zm xp] 90)).heap.size=w1+1 by simp] at cc;have CC:=zk cc;clear cc
  try go_wp2_with fail
  refine hK.out _ _ ?_ (fun hHeld=>?_)
  ·exact ac.out
  clear hK K
  try simp only [zt,mj]
  refine m8 10 fun K hK=>?_;go_simp
  (go_at_call 180;refine (CC.out).mono ?_;rintro e w3 ⟨a3,c3,rfl,ag,ah⟩;have ai:=zk (bE ac.out ah ab.out);have an:=zk (ag.more (b2:=w.heap.size) (by have h1:=ac.out.1.size;have h2:=ab.out;omega));clear ah ag)
  try go_wp2_with fail
  refine hK.out _ _ ?_ (fun hHeld=>?_)
  ·exact ai.out
  clear hK K
  try simp only [zt,mj]
  refine lz 11 ?_;refine lz 12 ?_;refine Ag lh ?_ _;go_wp2_with fail;go_ret2;exact ⟨a3,c3,li,an.out,ak.out _ ai.out.1⟩
 ·clear am;go_enter func151,ntmps151;go_wp2_with fail;refine (CM.out _).mono ?_;rintro e w0 ⟨rfl,rfl⟩;go_wp2_with fail;refine CF.out.mono ?_;rintro e w1 ⟨rfl,ae⟩;have aa:=zk ae;clear hwX;clear ae;have y0:=(aa.out.cell (p:=⟨w,0,none⟩) ab.out).trans x0;have y1:=(aa.out.cell (p:=⟨w,1,none⟩) ab.out).trans x1;go_wp2_with fail;refine Aa (S:=(fun w':zw=>zr wX wX w'∧w' ⟨w,0,none⟩=some (zo xn)∧w' ⟨w,1,none⟩=some (zn zm xp))) lh ⟨aa.out.drew,y0,y1⟩ (fun hHeld=>?_);refine Ab (i:=0) (v:=?_) (by simp only [Ad,Ae];rfl) lh lh lh (fun _ _ _ h=>by exact h) (Af ⟨lm,?_⟩) ln ?_;rotate_left
  ·(intro w hSw;(try dsimp only at hSw);go_simp;try with_reducible rfl)
  try simp only [zt,mj]
  refine lz 1 ?_;refine lz 2 ?_;refine lz 3 ?_;refine lz 5 ?_;refine lz 6 ?_;refine lz 7 ?_;refine lz 8 ?_;refine m8 4 fun K hK=>?_;go_simp;have af:=zk (bE (show zr wX.heap.size wX w1.drew∧w1.drew ⟨w,0,none⟩=some (zo xn)∧w1.drew ⟨w,1,none⟩=some (zn zm xp) from ⟨aa.out.drew,y0,y1⟩) ((zu w1.drew w1.drew).alloc (zv _) (zq #[zo xn,zn zm xp] 90)) ab.out)
  try go_wp2_with fail
  refine hK.out _ _ ?_ (fun hHeld=>?_)
  ·exact af.out
  clear hK K
  try simp only [zt,mj]
  refine m8 9 fun K hK=>?_;go_simp;have ac:=zk (bE af.out ((zu (w1.drew.alloc (zq #[zo xn,zn zm xp] 90)) (w1.drew.alloc (zq #[zo xn,zn zm xp] 90))).alloc (zv _) (zq #[zp (some ad) i c,zp (some ⟨w1.drew,0,none⟩) 1 1,zp (some (ad.add ((i+1) * 2))) (n - (i+1)) (c - (i+1))] 22)) ab.out);have cc:=cat3 (W:=w1.drew.alloc (zq #[zo xn,zn zm xp] 90)) (p:=⟨some ad,T,c⟩) (m:=⟨some ⟨w1.drew,0,none⟩,[⟨xn,xp⟩],1⟩) (q:=⟨some (ad.add ((i+1) * 2)),D,c - (i+1)⟩) i 1 (n - (i+1)) (HT.out.later (aa.out.drew.trans (((zu w1.drew w1.drew).alloc (zv _) (zq #[zo xn,zn zm xp] 90)).mono aa.out.drew.size))) (jT w1.drew xn xp) (HD.out.later (aa.out.drew.trans (((zu w1.drew w1.drew).alloc (zv _) (zq #[zo xn,zn zm xp] 90)).mono aa.out.drew.size))) ao.out rfl ar.out lg 22;rw [show (w1.drew.alloc (zq #[zo xn,zn zm xp] 90)).heap.size=w1+1 by simp] at cc;have CC:=zk cc;clear cc
  try go_wp2_with fail
  refine hK.out _ _ ?_ (fun hHeld=>?_)
  ·exact ac.out
  clear hK K
  try simp only [zt,mj]
  refine m8 10 fun K hK=>?_;go_simp
  (go_at_call 180;refine (CC.out).mono ?_;rintro e w3 ⟨a3,c3,rfl,ag,ah⟩;have ai:=zk (bE ac.out ah ab.out);have an:=zk (ag.more (b2:=w.heap.size) (by have h1:=ac.out.1.size;have h2:=ab.out;omega));clear ah ag)
  try go_wp2_with fail
  refine hK.out _ _ ?_ (fun hHeld=>?_)
  ·exact ai.out
  clear hK K
  try simp only [zt,mj]
  refine lz 11 ?_;refine lz 12 ?_;refine Ag lh ?_ _;go_wp2_with fail;go_ret2;exact ⟨a3,c3,li,an.out,ak.out _ ai.out.1⟩
set_option maxHeartbeats 1600000 in
theorem JC (a:Option zy) (l:List l9) (c:Nat) (x:l9) (w:zw) (hp:uy w ⟨a,l,c⟩) (hlc:l.length≤c) (hc:c≤zz) (hl:l.length≤40) (hx:x.name.size≤zz) (hm:mv x.name.data.toList=true) (hi:¬ l.findIdx (qq x.name)<l.length) (h16:16≤l.length) :
 zx prog 151 #[zp a l.length c,x.v] w (ot w ([],9)):=by
 unfold zz at hc;obtain ⟨xn,xp⟩:=x;have cm:=bJ xn hx;obtain ⟨wX,hwX⟩:∃ wX,w.alloc (zq #[zo xn,zn zm xp] 90)=wX:=⟨_,rfl⟩;have aa:zr w w (w.alloc (zq #[zo xn,zn zm xp] 90)):=(zu w w).alloc (zv _) _;obtain ⟨x0,x1⟩:=gU (N:=w.heap.size+1) lg (zu (w+1) (w.alloc (zq #[zo xn,zn zm xp] 90)));have ad:w.heap.size+1≤wX.heap.size:=by rw [← hwX];simp
 rw [hwX] at x0 x1 aa;have hpX:uy wX ⟨a,l,c⟩:=hp.later aa;have hr:o4 wX (·<wX) a l:=hpX.row;have cf:=gM a l c xn _ wX hr (fun _ h=>h) lg (fun W x _ _=>nL x W);have ab:=zk (fun w' (h:zr wX wX w')=>aa.trans (h.mono lg));have hi:¬ l.findIdx (qq xn)<l.length:=hi;rw [hm] at cm;rw [decide_eq_false hi] at cf;obtain ⟨i,he⟩:∃ i,l.findIdx (qq xn)=i:=⟨_,rfl⟩;rw [he] at cf;obtain ⟨n,hn⟩:∃ n,l.length=n:=⟨_,rfl⟩;rw [hn] at cf h16 ⊢;have CM:=zk cm;have CF:=zk cf;have z0:(16:Int)≤(n:Int):=lg;clear cm hr cf he hn hp hpX aa hm hx hi hlc hl;go_enter func151,ntmps151;go_wp2_with fail;refine (CM.out _).mono ?_;rintro e w0 ⟨rfl,rfl⟩;go_wp2_with fail;refine CF.out.mono ?_;rintro e w1 ⟨rfl,ac⟩;go_wp2;go_ret2;exact ⟨none,0,rfl,td.none _ _,ab.out _ ac⟩
set_option maxHeartbeats 1600000 in
theorem NU (a:Option zy) (l:List l9) (c:Nat) (x:l9) (w:zw) (hp:uy w ⟨a,l,c⟩) (hlc:l.length≤c) (hc:c≤zz) (hl:l.length≤40) (hx:x.name.size≤zz) (hm:mv x.name.data.toList=true) (hi:¬ l.findIdx (qq x.name)<l.length) (h16:¬ 16≤l.length) :
 zx prog 151 #[zp a l.length c,x.v] w (ot w (pc l x,0)):=by
 unfold zz at hc;obtain ⟨xn,xp⟩:=x;have cm:=bJ xn hx;obtain ⟨wX,hwX⟩:∃ wX,w.alloc (zq #[zo xn,zn zm xp] 90)=wX:=⟨_,rfl⟩;have am:zr w w (w.alloc (zq #[zo xn,zn zm xp] 90)):=(zu w w).alloc (zv _) _;obtain ⟨x0,x1⟩:=gU (N:=w.heap.size+1) lg (zu (w+1) (w.alloc (zq #[zo xn,zn zm xp] 90)));have ay:w.heap.size+1≤wX.heap.size:=by rw [← hwX];simp
 rw [hwX] at x0 x1 am;have hpX:uy wX ⟨a,l,c⟩:=hp.later am;have hr:o4 wX (·<wX) a l:=hpX.row;have cf:=gM a l c xn _ wX hr (fun _ h=>h) lg (fun W x _ _=>nL x W);have al:=zk (fun w' (h:zr wX wX w')=>am.trans (h.mono lg));have hi:¬ l.findIdx (qq xn)<l.length:=hi;rw [hm] at cm;rw [decide_eq_false hi] at cf;have cb:∀ W,zr wX wX W→zx prog 181 #[zp a l.length c,.func (.func 182) #[] #[.pointer (some ⟨w,0,none⟩)],.bool true] W fun e w'=>e=.returned (.tuple #[zn zm (l.findIdx (sf xn):Nat),.bool (decide (l.findIdx (sf xn)<l.length))])∧zr W.heap.size W w':=fun W hW =>
  wO a l c xn w _ W (hpX.later hW).row (fun _ h=>h) lg fun W2 y h2 _=>EW y xn w W2 (by have:=hW.size;have:=h2.size;omega) (((hW.trans (h2.mono hW.size)).cell (p:=⟨w,0,none⟩) (show w.heap.size<wX by omega)).trans x0)
 obtain ⟨i0,he⟩:∃ i,l.findIdx (qq xn)=i:=⟨_,rfl⟩;rw [he] at cf;show zx _ _ _ w (ot w (l.take (l.findIdx (sf xn))++[⟨xn,xp⟩]++l.drop (l.findIdx (sf xn)),0));have hg:=jL l (sf xn);obtain ⟨i,hgi⟩:∃ i,l.findIdx (sf xn)=i:=⟨_,rfl⟩;rw [hgi] at hg cb ⊢;have ht:=hpX.take i;have hd:∀ ad,a=some ad→uy wX ⟨some (ad.add (i * 2)),l.drop i,c - i⟩:=fun ad e=>by subst e;exact hpX.drop i
 have ar:c=i→l.drop i=[]:=fun h=>Al lg;have hnil:a=none→l=[]∧c=0:=fun e=>⟨hpX.len e,hpX.nil e⟩;have htl:(l.take i).length=i:=by rw [Ah];omega
 have hdl:(l.drop i).length=l.length - i:=by rw [Ak]
 obtain ⟨q,hq⟩:∃ q,decide (i<l.length)=q:=⟨_,rfl⟩;rw [hq] at cb;obtain ⟨n,hn⟩:∃ n,l.length=n:=⟨_,rfl⟩;have av:a=none→n=0:=fun e=>by rw [← hn,(hnil e).1];rfl
 have aw:a=none→c=0:=fun e=>(hnil e).2;rw [hn] at hg hl cf cb hlc hdl h16 ⊢;obtain ⟨T,hT⟩:∃ T,l.take i=T:=⟨_,rfl⟩;obtain ⟨D,hD⟩:∃ D,l.drop i=D:=⟨_,rfl⟩;rw [hT] at ht htl ⊢;rw [hD] at hd ar hdl ⊢;have CM:=zk cm;have CF:=zk cf;have CB:=zk cb;have HT:=zk ht;have HD:=zk hd;have an:=zk ar;have au:=zk htl;have ax:=zk hdl;have ab:=zk (show w.heap.size<wX by omega);have ao:=zk av;have aq:=zk aw;clear cm hr cf cb he hn hp hpX ht hd ar htl hdl hT hD am ay hm hx hi hnil hgi hq av aw;have z0:(0:Int)≤(i:Int):=lg;have z1:(i:Int)≤(c:Int):=lg;have z2:(i:Int)≤(n:Int):=lg;have z4:(n:Int)≤(c:Int):=lg;have z8:(n:Int)<16:=lg;cases a with
 | none =>
  have n0:=ao.out rfl;have c0:=aq.out rfl;obtain rfl:i=0:=lg;have T0:T=[]:=Ar.1 au.out;have D0:D=[]:=Ar.1 (by rw [ax.out];omega);subst n0;subst c0;subst T0;subst D0;have PN:=zk (fun W:zw=>(show uy W ⟨none,[],0⟩ from ⟨fun k hk=>absurd hk li,fun _=>rfl⟩));clear HD an ao aq z0 z1 z2 z4 z8;go_enter func151,ntmps151;go_wp2_with fail;refine (CM.out _).mono ?_;rintro e w0 ⟨rfl,rfl⟩;go_wp2_with fail;refine CF.out.mono ?_;rintro e w1 ⟨rfl,ac⟩;have aa:=zk ac;clear hwX;go_wp2_with fail;refine (CB.out _ ac).mono ?_;rintro e w2 ⟨rfl,af⟩;have aa:=zk (ac.trans (af.mono ac.size));clear af;clear ac;have y0:=(aa.out.cell (p:=⟨w,0,none⟩) ab.out).trans x0;have y1:=(aa.out.cell (p:=⟨w,1,none⟩) ab.out).trans x1;go_wp2_with fail;refine Aa (S:=(fun w':zw=>zr wX wX w'∧w' ⟨w,0,none⟩=some (zo xn)∧w' ⟨w,1,none⟩=some (zn zm xp))) lh ⟨aa.out.drew,y0,y1⟩ (fun hHeld=>?_);refine Ab (i:=0) (v:=?_) (by simp only [Ad,Ae];rfl) lh lh lh (fun _ _ _ h=>by exact h) (Af ⟨lm,?_⟩) ln ?_;rotate_left
  ·(intro w hSw;(try dsimp only at hSw);go_simp;try with_reducible rfl)
  try simp only [zt,mj]
  refine lz 1 ?_;refine lz 2 ?_;refine lz 3 ?_;refine lz 5 ?_;refine lz 6 ?_;refine lz 7 ?_;refine m8 4 fun K hK=>?_;go_simp;have ag:=zk (bE (show zr wX.heap.size wX w2.drew∧w2.drew ⟨w,0,none⟩=some (zo xn)∧w2.drew ⟨w,1,none⟩=some (zn zm xp) from ⟨aa.out.drew,y0,y1⟩) ((zu w2.drew w2.drew).alloc (zv _) (zq #[zo xn,zn zm xp] 90)) ab.out)
  try go_wp2_with fail
  refine hK.out _ _ ?_ (fun hHeld=>?_)
  ·exact ag.out
  clear hK K
  try simp only [zt,mj]
  refine m8 8 fun K hK=>?_;go_simp;have ae:=zk (bE ag.out ((zu (w2.drew.alloc (zq #[zo xn,zn zm xp] 90)) (w2.drew.alloc (zq #[zo xn,zn zm xp] 90))).alloc (zv _) (zq #[zp none 0 0,zp (some ⟨w2.drew,0,none⟩) 1 1,zp none 0 0] 22)) ab.out);have cc:=cat3 (W:=w2.drew.alloc (zq #[zo xn,zn zm xp] 90)) (p:=⟨none,[],0⟩) (m:=⟨some ⟨w2.drew,0,none⟩,[⟨xn,xp⟩],1⟩) (q:=⟨none,[],0⟩) 0 1 0 (PN.out _) (jT w2.drew xn xp) (PN.out _) rfl rfl rfl lg 22;rw [show (w2.drew.alloc (zq #[zo xn,zn zm xp] 90)).heap.size=w2+1 by simp] at cc;have CC:=zk cc;clear cc
  try go_wp2_with fail
  refine hK.out _ _ ?_ (fun hHeld=>?_)
  ·exact ae.out
  clear hK K
  try simp only [zt,mj]
  refine m8 9 fun K hK=>?_;go_simp
  (go_at_call 180;refine (CC.out).mono ?_;rintro e w3 ⟨a3,c3,rfl,ah,ai⟩;have aj:=zk (bE ae.out ai ab.out);have ak:=zk (ah.more (b2:=w.heap.size) (by have h1:=ae.out.1.size;have h2:=ab.out;omega));clear ai ah)
  try go_wp2_with fail
  refine hK.out _ _ ?_ (fun hHeld=>?_)
  ·exact aj.out
  clear hK K
  try simp only [zt,mj]
  refine lz 10 ?_;refine lz 11 ?_;refine Ag lh ?_ _;go_wp2_with fail;go_ret2;exact ⟨a3,c3,li,ak.out,al.out _ aj.out.1⟩
 | some ad =>
  have HD:=zk (HD.out ad rfl);by_cases hce:c=i
  ·have az:n=i:=lg;have D0:=an.out hce;subst hce;subst az;subst D0;clear HD an ao aq;go_enter func151,ntmps151;go_wp2_with fail;refine (CM.out _).mono ?_;rintro e w0 ⟨rfl,rfl⟩;go_wp2_with fail;refine CF.out.mono ?_;rintro e w1 ⟨rfl,ac⟩;have aa:=zk ac;clear hwX;go_wp2_with fail;refine (CB.out _ ac).mono ?_;rintro e w2 ⟨rfl,af⟩;have aa:=zk (ac.trans (af.mono ac.size));clear af;clear ac;have y0:=(aa.out.cell (p:=⟨w,0,none⟩) ab.out).trans x0;have y1:=(aa.out.cell (p:=⟨w,1,none⟩) ab.out).trans x1;go_wp2_with fail;refine Aa (S:=(fun w':zw=>zr wX wX w'∧w' ⟨w,0,none⟩=some (zo xn)∧w' ⟨w,1,none⟩=some (zn zm xp))) lh ⟨aa.out.drew,y0,y1⟩ (fun hHeld=>?_);refine Ab (i:=0) (v:=?_) (by simp only [Ad,Ae];rfl) lh lh lh (fun _ _ _ h=>by exact h) (Af ⟨lm,?_⟩) ln ?_;rotate_left
   ·(intro w hSw;(try dsimp only at hSw);go_simp;try with_reducible rfl)
   try simp only [zt,mj]
   refine lz 1 ?_;refine lz 2 ?_;refine lz 3 ?_;refine lz 5 ?_;refine lz 6 ?_;refine lz 7 ?_;refine m8 4 fun K hK=>?_;go_simp;have ag:=zk (bE (show zr wX.heap.size wX w2.drew∧w2.drew ⟨w,0,none⟩=some (zo xn)∧w2.drew ⟨w,1,none⟩=some (zn zm xp) from ⟨aa.out.drew,y0,y1⟩) ((zu w2.drew w2.drew).alloc (zv _) (zq #[zo xn,zn zm xp] 90)) ab.out)
   try go_wp2_with fail
   refine hK.out _ _ ?_ (fun hHeld=>?_)
   ·exact ag.out
   clear hK K
   try simp only [zt,mj]
   refine m8 8 fun K hK=>?_;go_simp;have ae:=zk (bE ag.out ((zu (w2.drew.alloc (zq #[zo xn,zn zm xp] 90)) (w2.drew.alloc (zq #[zo xn,zn zm xp] 90))).alloc (zv _) (zq #[zp (some ad) n n,zp (some ⟨w2.drew,0,none⟩) 1 1,zp (some ad) 0 0] 22)) ab.out);have cc:=cat3 (W:=w2.drew.alloc (zq #[zo xn,zn zm xp] 90)) (p:=⟨some ad,T,n⟩) (m:=⟨some ⟨w2.drew,0,none⟩,[⟨xn,xp⟩],1⟩) (q:=⟨some ad,[],0⟩) n 1 0 (HT.out.later (aa.out.drew.trans (((zu w2.drew w2.drew).alloc (zv _) (zq #[zo xn,zn zm xp] 90)).mono aa.out.drew.size))) (jT w2.drew xn xp) (pQ _ _ _) au.out rfl rfl lg 22;rw [show (w2.drew.alloc (zq #[zo xn,zn zm xp] 90)).heap.size=w2+1 by simp] at cc;have CC:=zk cc;clear cc
   try go_wp2_with fail
   refine hK.out _ _ ?_ (fun hHeld=>?_)
   ·exact ae.out
   clear hK K
   try simp only [zt,mj]
   refine m8 9 fun K hK=>?_;go_simp
   (go_at_call 180;refine (CC.out).mono ?_;rintro e w3 ⟨a3,c3,rfl,ah,ai⟩;have aj:=zk (bE ae.out ai ab.out);have ak:=zk (ah.more (b2:=w.heap.size) (by have h1:=ae.out.1.size;have h2:=ab.out;omega));clear ai ah)
   try go_wp2_with fail
   refine hK.out _ _ ?_ (fun hHeld=>?_)
   ·exact aj.out
   clear hK K
   try simp only [zt,mj]
   refine lz 10 ?_;refine lz 11 ?_;refine Ag lh ?_ _;go_wp2_with fail;go_ret2;exact ⟨a3,c3,li,ak.out,al.out _ aj.out.1⟩
  ·clear an ao aq;go_enter func151,ntmps151;go_wp2_with fail;refine (CM.out _).mono ?_;rintro e w0 ⟨rfl,rfl⟩;go_wp2_with fail;refine CF.out.mono ?_;rintro e w1 ⟨rfl,ac⟩;have aa:=zk ac;clear hwX;go_wp2_with fail;refine (CB.out _ ac).mono ?_;rintro e w2 ⟨rfl,af⟩;have aa:=zk (ac.trans (af.mono ac.size));clear af;clear ac;have y0:=(aa.out.cell (p:=⟨w,0,none⟩) ab.out).trans x0;have y1:=(aa.out.cell (p:=⟨w,1,none⟩) ab.out).trans x1;go_wp2_with fail;refine Aa (S:=(fun w':zw=>zr wX wX w'∧w' ⟨w,0,none⟩=some (zo xn)∧w' ⟨w,1,none⟩=some (zn zm xp))) lh ⟨aa.out.drew,y0,y1⟩ (fun hHeld=>?_);refine Ab (i:=0) (v:=?_) (by simp only [Ad,Ae];rfl) lh lh lh (fun _ _ _ h=>by exact h) (Af ⟨lm,?_⟩) ln ?_;rotate_left
   ·(intro w hSw;(try dsimp only at hSw);go_simp;try with_reducible rfl)
   try simp only [zt,mj]
   refine lz 1 ?_;refine lz 2 ?_;refine lz 3 ?_;refine lz 5 ?_;refine lz 6 ?_;refine lz 7 ?_;refine m8 4 fun K hK=>?_;go_simp;have ag:=zk (bE (show zr wX.heap.size wX w2.drew∧w2.drew ⟨w,0,none⟩=some (zo xn)∧w2.drew ⟨w,1,none⟩=some (zn zm xp) from ⟨aa.out.drew,y0,y1⟩) ((zu w2.drew w2.drew).alloc (zv _) (zq #[zo xn,zn zm xp] 90)) ab.out)
   try go_wp2_with fail
   refine hK.out _ _ ?_ (fun hHeld=>?_)
   ·exact ag.out
   clear hK K
   try simp only [zt,mj]
   refine m8 8 fun K hK=>?_;go_simp;have ae:=zk (bE ag.out ((zu (w2.drew.alloc (zq #[zo xn,zn zm xp] 90)) (w2.drew.alloc (zq #[zo xn,zn zm xp] 90))).alloc (zv _) (zq #[zp (some ad) i c,zp (some ⟨w2.drew,0,none⟩) 1 1,zp (some (ad.add (i * 2))) (n - i) (c - i)] 22)) ab.out);have cc:=cat3 (W:=w2.drew.alloc (zq #[zo xn,zn zm xp] 90)) (p:=⟨some ad,T,c⟩) (m:=⟨some ⟨w2.drew,0,none⟩,[⟨xn,xp⟩],1⟩) (q:=⟨some (ad.add (i * 2)),D,c - i⟩) i 1 (n - i) (HT.out.later (aa.out.drew.trans (((zu w2.drew w2.drew).alloc (zv _) (zq #[zo xn,zn zm xp] 90)).mono aa.out.drew.size))) (jT w2.drew xn xp) (HD.out.later (aa.out.drew.trans (((zu w2.drew w2.drew).alloc (zv _) (zq #[zo xn,zn zm xp] 90)).mono aa.out.drew.size))) au.out rfl ax.out lg 22;rw [show (w2.drew.alloc (zq #[zo xn,zn zm xp] 90)).heap.size=w2+1 by simp] at cc;have CC:=zk cc;clear cc
   try go_wp2_with fail
   refine hK.out _ _ ?_ (fun hHeld=>?_)
   ·exact ae.out
   clear hK K
   try simp only [zt,mj]
   refine m8 9 fun K hK=>?_;go_simp
   (go_at_call 180;refine (CC.out).mono ?_;rintro e w3 ⟨a3,c3,rfl,ah,ai⟩;have aj:=zk (bE ae.out ai ab.out);have ak:=zk (ah.more (b2:=w.heap.size) (by have h1:=ae.out.1.size;have h2:=ab.out;omega));clear ai ah)
   try go_wp2_with fail
   refine hK.out _ _ ?_ (fun hHeld=>?_)
   ·exact aj.out
   clear hK K
   try simp only [zt,mj]
   refine lz 10 ?_;refine lz 11 ?_;refine Ag lh ?_ _;go_wp2_with fail;go_ret2;exact ⟨a3,c3,li,ak.out,al.out _ aj.out.1⟩
theorem sV (a:Option zy) (l:List l9) (c:Nat) (x:l9) (w:zw) (hp:uy w ⟨a,l,c⟩) (hlc:l.length≤c) (hc:c≤zz) (hl:l.length≤40) (hx:x.name.size≤zz) (hri:qp l=true) :
 zx prog 151 #[zp a l.length c,x.v] w (ot w (qy l x)):=by
 unfold qy;by_cases h1:mv x.name.data.toList=false
 ·rw [if_pos h1];exact LD a l c x w hp hlc hc hl hx h1
 rw [if_neg h1];have h1:mv x.name.data.toList=true:=by simpa using h1
 by_cases h2:l.findIdx (qq x.name)<l.length
 ·rw [if_pos h2];exact PK a l c x w hp hlc hc hl hx hri h1 h2
 rw [if_neg h2];by_cases h3:16≤l.length
 ·rw [if_pos h3];exact JC a l c x w hp hlc hc hl hx h1 h2 h3
 ·rw [if_neg h3];exact NU a l c x w hp hlc hc hl hx h1 h2 h3
set_option maxHeartbeats 1000000 in
theorem AZ (ad:zy) (l:List l9) (c:Nat) (w:zw) (hr:o4 w (·<w) (some ad) l) (hl:l.length≤1000000) :
 zx prog 91 #[zp (some ad) l.length c] w fun e w'=>∃ v,e=.returned v∧w'.ownsRow w 90 2 v l.length (l9.flat l)∧v≠zp none 0 0∧zr w w w':=by
 obtain ⟨i0,hi,ae,af,ag⟩:=info_parts dT;have q22:∀ (w:zw) (a:Option zy) (n c n' c':Nat),(binOp .eql 22 (zp a n c) (zp none n' c')).run prog w=.ok (.bool a.isNone) w:=fun w a n c n' c'=>Lib.run_eql_slice_nil w _ _ a n c n' c' underlying22;have ab:=zk (tA hr);have aa:=zk (l9.flat_len l);have ac:=zk (vF l);obtain ⟨n,hn⟩:∃ n,l.length=n:=⟨_,rfl⟩;rw [hn] at hl aa ⊢;obtain ⟨F,hF⟩:∃ F,l9.flat l=F:=⟨_,rfl⟩;rw [hF] at ab aa ac ⊢;clear hr hn hF;go_enter func91,ntmps91;go_wp2_with (at_builtin;refine wpList_append_own _ rfl _ _ 22 rfl w.heap.size 90 i0 _ 2 24 underlying22 hi ae af ag rfl lj _ _ _ rfl (World.ownsRow_made w #[] 0 (zv _) (Au _) li) ad n c F rfl aa.out (fun j u hj=>Lib.cell?_alloc_some _ (ab.out j u hj)) ac.out lq lg li ?_);intro v' w1 hown hgrow hnil;go_wp2;go_ret;refine ⟨v',rfl,by simpa using hown,?_,?_⟩
 ·exact hnil
 ·exact ((zu _ w).alloc (zv _) _).grown hgrow li (by intro k hk;simp [Value.ownBlock] at hk;omega)
theorem FH (w:zw):zx prog 91 #[zp none 0 0] w fun e w'=>e=.returned (zp none 0 0)∧w'=w:=by
 have h:=AnyE.slices_Clone_nil Tryz.mkClone 0 0 w;change zx prog 91 _ _ _ at h;exact h
def vh (l:List l9) (F:Int→Int) (k:Nat):List l9:=pb (l.take k) F++l.drop k
theorem pE (l:List l9) (F:Int→Int) (k:Nat):(vh l F k).length=l.length:=by
 unfold vh;rw [Av,bO,← Av,List.take_append_drop]
theorem OI (l:List l9) (F:Int→Int) (k:Nat) (h:k<l.length):(vh l F k)[k]? = some l[k]! :=by
 unfold vh;rw [List.getElem?_append_right (by rw [bO,Ah];omega),bO,Ah,Nat.min_eq_left lg,Aw,List.getElem?_drop,Nat.add_zero,List.getElem?_eq_getElem h,o3 h]
theorem LQ (l:List l9) (F:Int→Int) (k:Nat) (h:k<l.length):vh l F (k+1)=(vh l F k).set k ⟨(l[k]!).name,F (l[k]!).p⟩:=by
 unfold vh;have hl:(pb (l.take k) F).length=k:=by rw [bO,Ah];omega
 rw [sP l F k h,List.set_append_right _ _ (by rw [hl];exact zv _),hl,Aw,List.append_assoc]
 congr 1
 rw [List.drop_eq_getElem_cons h,Ax];rfl
theorem PQ (l:List l9) (k:Nat) (x:l9) (h:k<l.length) (hx:x.name=(l[k]!).name):(l9.flat l).set (k * 2+1) (zn zm x.p)=l9.flat (l.set k x):=by
 induction l generalizing k with
 | nil=>simp at h
 | cons a r ih =>
  have e:∀ y:l9,∀ s,l9.flat (y::s)=zo y.name::zn zm y.p::l9.flat s:=fun y s=>by simp [l9.flat]
  cases k with
  | zero =>
   have hx:x.name=a.name:=hx;rw [e,Ax,e,hx];rfl
  | succ k =>
   have e2:(a::r).set (k+1) x=a::r.set k x:=rfl;rw [e2,e,e,show (k+1) * 2+1=k * 2+1+1+1 by omega,Ay,Ay,ih k (by simpa using h) (by simpa using hx)]
theorem MO {base g cap:Nat} {t:TypeId} {n:Nat} {l:List l9} (h:w.ownsRow base t 2 (zp (some ⟨g,0,none⟩) n cap) n (l9.flat l)) (k:Nat) (hk:k<l.length):w ⟨g,k * 2+1,none⟩=some (zn zm (l[k]!).p):=by
 have hl:l.length=n:=by have:=h.1;rw [l9.flat_len] at this;omega
 rw [h.cellAt (k * 2+1) lg,(l9.flat_get l k hk).2,o3 hk]
section
variable {wX w2 w3 : World} {b : Nat} {z u v : Value}
theorem xD (h:zr wX wX w2∧w2 ⟨b,0,none⟩=some z∧w2 ⟨b,1,none⟩=some u∧w2 ⟨b,2,none⟩=some v) (hb:zr wX wX w3) (hx:b<wX) :
 zr wX wX w3∧w3 ⟨b,0,none⟩=some z∧w3 ⟨b,1,none⟩=some u∧w3 ⟨b,2,none⟩=some v:=by
 have g:∀ p:zy,p.block<wX→w3 p=w2 p:=fun p hp=>(hb.cell hp).trans (h.1.cell hp).symm;exact ⟨hb,(g _ hx).trans h.2.1,(g _ hx).trans h.2.2.1,(g _ hx).trans h.2.2.2⟩
theorem SG (h:zr wX wX w2∧w2 ⟨b,0,none⟩=some z∧w2 ⟨b,1,none⟩=some u∧w2 ⟨b,2,none⟩=some v) (hb:zr w2 w2 w3) (hx:b<wX) :
 zr wX wX w3∧w3 ⟨b,0,none⟩=some z∧w3 ⟨b,1,none⟩=some u∧w3 ⟨b,2,none⟩=some v:=xD h (h.1.trans (hb.mono h.1.size)) hx
end
set_option maxHeartbeats 800000 in
theorem GT (c:Nat) (ep:Int) (eo en:ByteArray) (w:zw) (hc:c=0):zx prog 202 #[zp none 0 c,vt ep eo en] w (sb w []):=by
 subst hc;show zx prog 202 #[zp none 0 0,.agg #[zn zm ep,zo eo,zo en]] w _;go_enter func202,ntmps202;go_wp2_with fail;refine (FH _).mono ?_;rintro e w1 ⟨rfl,rfl⟩;go_wp2;refine wp_loop_rounds 1 ?_;rw [rounds_succ];go_wp2;go_ret;exact ⟨none,0,rfl,td.none _ _,(zu w w).alloc (zv _) _⟩
set_option maxHeartbeats 1600000 in
theorem zJ (ad:zy) (l:List l9) (c:Nat) (ep:Int) (eo en:ByteArray) (w:zw) (hp:uy w ⟨some ad,l,c⟩) (hl:l.length≤1000000)
 (ho:eo.size≤140737488355328) (hn:en.size≤140737488355328) (hpz:-2305843009213693952≤ep∧ep≤2305843009213693952) (ha:∀ x∈l,-2305843009213693952≤x.p∧x.p≤2305843009213693952) :
 zx prog 202 #[zp (some ad) l.length c,vt ep eo en] w (sb w (pb l (mu ep eo.size en.size))):=by
 have cs:=fun x (hx:x∈l)=>MK ep x.p eo en ho hn hpz (ha x hx);obtain ⟨F,hF⟩:∃ F,mu ep eo.size en.size=F:=⟨_,rfl⟩;rw [hF] at cs ⊢;obtain ⟨wX,hwX⟩:∃ wX,w.alloc (zq #[zn zm ep,zo eo,zo en] 92)=wX:=⟨_,rfl⟩;have ac:zr w w (w.alloc (zq #[zn zm ep,zo eo,zo en] 92)):=(zu w w).alloc (zv _) _;obtain ⟨x0,x1,x2⟩:=JR (N:=w.heap.size+1) lg (zu (w+1) (w.alloc (zq #[zn zm ep,zo eo,zo en] 92)));have al:w.heap.size+1≤wX.heap.size:=by rw [← hwX];simp
 rw [hwX] at x0 x1 x2 ac;have cc:=AZ ad l c wX (hp.later ac).row hl;have hend:∀ w',zr wX wX w'→zr w w w':=fun w' h=>ac.trans (h.mono lg);obtain ⟨n,ag⟩:∃ n,l.length=n:=⟨_,rfl⟩;rw [ag] at hl cc ⊢;have HN:=zk ag;have CS:=zk cs;have ak:=zk hend;have aa:=zk (show w.heap.size<wX by omega);have CC:=zk cc;clear ag hp cs hF ac hend ho hn hpz ha cc;show zx prog 202 #[zp (some ad) n c,.agg #[zn zm ep,zo eo,zo en]] w _;go_enter func202,ntmps202;go_wp2_with fail;refine CC.out.mono ?_;rintro e w1 ⟨v,rfl,ab,hne,ae⟩;obtain ⟨g,cap,rfl,hg⟩:∃ g cap,v=zp (some ⟨g,0,none⟩) n cap∧wX.heap.size≤g:=by
  rcases ab.2 with ⟨e0,-⟩|⟨g,cap,cur,e0,hb,-⟩
  ·exact absurd e0 hne
  ·exact ⟨g,cap,e0,hb⟩
 have HG:=zk hg;have am:=zk ab;have an:=zk ae;clear hwX hne ab ae hg;go_wp2
 go_loopw [10] (fun i wr=>∃ k:Nat,k≤n∧i=zn zm k∧wr.ownsRow wX 90 2 (zp (some ⟨g,0,none⟩) n cap) n (l9.flat (vh l F k))∧zr wX wX wr) (fun i _=>n - (intOf i).toNat)
 case atStart=>exact ⟨0,Au _,rfl,by unfold vh;simpa [pb] using am.out,an.out⟩
 case round =>
  obtain ⟨k,hk,rfl,hown,hbel⟩:=hrel;by_cases hlt:k<n
  ·have hkl:k<l.length:=by rw [HN.out];exact hlt
   have y0:=(hbel.cell (p:=⟨w,0,none⟩) aa.out).trans x0;have y1:=(hbel.cell (p:=⟨w,1,none⟩) aa.out).trans x1;have y2:=(hbel.cell (p:=⟨w,2,none⟩) aa.out).trans x2;have hq:=MO hown k (by rw [pE];exact hkl);have hgk:(vh l F k)[k]! = l[k]! :=by rw [getElem!_def,OI l F k hkl]
   have rs:=CS.out _ (List.getElem_mem hkl);have hs:l9.flat (vh l F (k+1))=(l9.flat (vh l F k)).set (k * 2+1) (zn zm (F (l[k]!).p)):=by
    rw [LQ l F k hkl];exact (PQ (vh l F k) k ⟨(l[k]!).name,F (l[k]!).p⟩ (by rw [pE];exact hkl) (by rw [hgk])).symm
   rw [hgk] at hq;rw [← o3 hkl] at rs;obtain ⟨id,hie⟩:∃ x,(l[k]!).p=x:=⟨_,rfl⟩;rw [hie] at hs hq rs;obtain ⟨r,hr⟩:∃ r,F id=r:=⟨_,rfl⟩;rw [hr] at hs rs;have av:wr.drew ⟨g,k * 2+1,none⟩=some (zn zm id):=hq;have HS:=zk hs;have RS:=zk rs;have HO:=zk hown.drew;have b0:(0:Int)≤(k:Int):=lg;have b1:(k:Int)<(n:Int):=lg;clear hs rs hr al hown hgk hie hq;go_wp2_with fail;refine Aa (S:=(fun w':zw=>zr wX wX w'∧w' ⟨w,0,none⟩=some (zn zm ep)∧w' ⟨w,1,none⟩=some (zo eo)∧w' ⟨w,2,none⟩=some (zo en))) lh ⟨hbel.drew,y0,y1,y2⟩ (fun hHeld=>?_);refine Ab (i:=0) (v:=?_) (by simp only [Ad,Ae];rfl) lh lh lh (fun _ _ _ h=>by exact h) (Af ⟨lm,?_⟩) ln ?_;rotate_left
   ·(intro w hSw;(try dsimp only at hSw);go_simp;try with_reducible rfl)
   try simp only [zt,mj]
   refine lz 1 ?_;refine lz 2 ?_;refine lz 3 ?_;refine lz 4 ?_;refine lz 5 ?_;refine lz 6 ?_;refine m8 7 fun K hK=>?_;go_simp;refine hK.out _ _ ?_ (fun hHeld=>?_)
   ·exact hHeld
   clear hK K
   try simp only [zt,mj]
   refine m8 8 fun K hK=>?_;go_simp
   (go_at_call 214;refine (RS.out _).mono ?_;rintro e w3 ⟨rfl,ah⟩;have HK:=zk (SG hHeld ah aa.out);have ai:=zk (tN HO.out ah);clear ah;have cz:=MO ai.out k (by rw [pE,HN.out];exact hlt);have fz:=ai.out.frozenAt (k * 2+1))
   try go_wp2_with fail
   refine hK.out _ _ ?_ (fun hHeld=>?_)
   ·exact HK.out
   clear hK K
   try simp only [zt,mj]
   refine lz 9 ?_;refine lz 10 ?_;refine m8 11 fun K hK=>?_;go_simp;have aj:=zk (HK.out.1.setCell (p:=⟨g,k * 2+1,none⟩) HG.out (zn zm r));have ao:=zk (xD HK.out aj.out aa.out);have aq:=zk (ai.out.stored (k * 2+1) (zn zm r)).1
   try go_wp2_with fail
   refine hK.out _ _ ?_ (fun hHeld=>?_)
   ·exact ao.out
   clear hK K
   try simp only [zt,mj]
   refine Ag lh ?_ _;go_wp2_with fail;go_roundw
   case rel=>exact ⟨k+1,lg,by go_num,by rw [HS.out];exact aq.out,aj.out⟩
   case measure=>simp [intOf];omega
  ·obtain rfl:k=n:=lg;have e:vh l F k=pb l F:=by
    unfold vh;rw [List.take_of_length_le (by rw [HN.out];exact zv _),Al (by rw [HN.out];exact zv _),List.append_nil]
   have hlm:(pb l F).length=k:=by rw [bO,HN.out]
   rw [e] at hown;have af:wr.ownsRow wX 90 2 (zp (some ⟨g,0,none⟩) (pb l F).length cap) (pb l F).length (l9.flat (pb l F)):=by rw [hlm];exact hown
   obtain ⟨ad2,cp,he,hn⟩:=dB af;rw [hlm] at he;have ar:=zk hn;have HE:=zk he;have au:=zk hlm;clear hn hown hlm e af he;go_wp2;go_ret;have he:=HE.out;injection he with e1 _ e3;subst e1;subst e3;exact ⟨_,_,by rw [au.out];rfl,ar.out.more (by have:=aa.out;omega),ak.out _ hbel⟩
theorem zQ (a:Option zy) (l:List l9) (c:Nat) (ep:Int) (eo en:ByteArray) (w:zw) (hp:uy w ⟨a,l,c⟩) (hl:l.length≤1000000)
 (ho:eo.size≤140737488355328) (hn:en.size≤140737488355328) (hpz:-2305843009213693952≤ep∧ep≤2305843009213693952) (ha:∀ x∈l,-2305843009213693952≤x.p∧x.p≤2305843009213693952) :
 zx prog 202 #[zp a l.length c,vt ep eo en] w (sb w (pb l (mu ep eo.size en.size))):=by
 cases a with
 | none =>
  obtain rfl:l=[]:=hp.len rfl;exact GT c ep eo en w (hp.nil rfl)
 | some ad=>exact zJ ad l c ep eo en w hp hl ho hn hpz ha
end Go.Proofs.YtbagenpobcgjnaaGreat
