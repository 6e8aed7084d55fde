/-
  Joined: MarkDev3, MarkDev4.
-/
import Derived.Test.YtbagenpobcgjnaaGreatJSq
import Derived.Test.YtbagenpobcgjnaaGreatJMarkDev
import Derived.Test.YtbagenpobcgjnaaGreatJMarkCat
open Go renaming Addr->zk,Calls->zj,World->zi,maxLen->zm,wpAnyH_done->zs,wpAnyH_take->zo,wp_region_held_drew->zn
open Go.Act renaming put->zf
open Go.IntKind renaming i64->yw,wrap_i64->Ad
open Go.Lib renaming hid->yv
open Go.Obj renaming cells->zd
open Go.RowKit renaming Below->ze
open Go.RowKit.Below renaming refl->zg
open Go.Value renaming int->yx,slice->yz,string->yy
open Go.World renaming cell?_alloc_new->zu
open List renaming drop_eq_nil_of_le->zx,getElem?_cons_zero->zq,getElem?_toArray->zp,getElem_drop->Aa,getElem_take->zz,length_append->Ag,length_drop->zw,length_eq_zero_iff->Ae,length_take->zt,set_cons_succ->Aj,set_cons_zero->Ai
open Nat renaming le_refl->zh,lt_of_lt_of_le->Ab,sub_self->Ah,zero_le->Af
open Or renaming inl->zr
variable {w:Go.World}
namespace Go.Proofs.YtbagenpobcgjnaaGreat
open Go.Proofs.Tryz
set_option maxRecDepth 100000
open Lib (hid)
open Go.RowKit
set_option linter.unusedVariables false
theorem o7.take {B:Nat→Prop} {a:Option zk} {l:List l8} (h:o7 w B a l) (n:Nat):o7 w B a (l.take n):=fun k hk=>by
 have hk2:k<l.length:=by rw [zt] at hk;omega
 obtain ⟨ad,e,hb,q0,q1⟩:=h k hk2;exact ⟨ad,e,hb,by rw [zz];exact q0,by rw [zz];exact q1⟩
theorem QJ (ad:zk) (n k:Nat):(ad.add n).add k=ad.add (n+k):=by
 unfold Addr.add;by_cases hk:k=0
 ·subst hk;simp
 ·by_cases hn:n=0
  ·subst hn;simp [hk]
  ·simp [hk,hn];omega
theorem o7.drop {B:Nat→Prop} {ad:zk} {l:List l8} (h:o7 w B (some ad) l) (n:Nat):o7 w B (some (ad.add (n * 2))) (l.drop n):=fun k hk=>by
 have hk2:n+k<l.length:=by rw [zw] at hk;omega
 obtain ⟨ad',e,hb,q0,q1⟩:=h (n+k) hk2;obtain rfl:ad=ad':=by injection e
 have e1:(ad.add (n * 2)).add (k * 2)=ad.add ((n+k) * 2):=by rw [QJ];congr 1;omega
 refine ⟨_,rfl,by rw [show (ad.add (n * 2)).block=ad.block by unfold Addr.add;split <;> rfl];exact hb,by rw [e1,Aa];exact q0,by rw [e1,Aa];exact q1⟩
theorem uj.later {W:zi} {x:Pc} (h:uj w x) (hb:ze w w W):uj W x:=⟨(h.row.below (fun _ h=>h) hb).more fun b hb2=>Ab hb2 hb.size,h.nil⟩
theorem uj.take {a:Option zk} {l:List l8} {c:Nat} (h:uj w ⟨a,l,c⟩) (n:Nat):uj w ⟨a,l.take n,c⟩:=⟨o7.take h.row n,h.nil⟩
theorem cat2 {W:zi} {p q:Pc} (i j:Nat) (hp:uj W p) (hq:uj W q) (hi:p.l.length=i) (hj:q.l.length=j) (hs:i+j≤1000) (t:TypeId) :
 zj prog 180 #[yz (some ⟨W,0,none⟩) 2 2] (W.alloc (zd #[yz p.a i p.c,yz q.a j q.c] t)) (sa (W.alloc (zd #[yz p.a i p.c,yz q.a j q.c] t)) (p.l++q.l)):=by
 have hb:ze W W (W.alloc (zd #[yz p.a i p.c,yz q.a j q.c] t)):=(zg W W).alloc (zh _) _;have h:=lB W [p,q] (W.alloc (zd #[yz p.a i p.c,yz q.a j q.c] t)) lh (fun k hk=>by
  match k,hk with
  | 0,_=>simp [zu,Pc.v,hi]
  | 1,_=>simp [zu,Pc.v,hj]) (fun k hk=>by
  match k,hk with
  | 0,_=>exact hp.later hb
  | 1,_=>exact hq.later hb) lh (by simp [tt];omega)
 have e:uy [p,q]=p.l++q.l:=by simp [uy]
 rw [e] at h;exact h
theorem cat3 {W:zi} {p m q:Pc} (i n j:Nat) (hp:uj W p) (hm:uj W m) (hq:uj W q) (hi:p.l.length=i) (hn:m.l.length=n) (hj:q.l.length=j) (hs:i+n+j≤1000) (t:TypeId) :
 zj prog 180 #[yz (some ⟨W,0,none⟩) 3 3] (W.alloc (zd #[yz p.a i p.c,yz m.a n m.c,yz q.a j q.c] t)) (sa (W.alloc (zd #[yz p.a i p.c,yz m.a n m.c,yz q.a j q.c] t)) (p.l++m.l++q.l)):=by
 have hb:ze W W (W.alloc (zd #[yz p.a i p.c,yz m.a n m.c,yz q.a j q.c] t)):=(zg W W).alloc (zh _) _;have h:=lB W [p,m,q] (W.alloc (zd #[yz p.a i p.c,yz m.a n m.c,yz q.a j q.c] t)) lh (fun k hk=>by
  match k,hk with
  | 0,_=>simp [zu,Pc.v,hi]
  | 1,_=>simp [zu,Pc.v,hn]
  | 2,_=>simp [zu,Pc.v,hj]) (fun k hk=>by
  match k,hk with
  | 0,_=>exact hp.later hb
  | 1,_=>exact hm.later hb
  | 2,_=>exact hq.later hb) lh (by simp [tt];omega)
 have e:uy [p,m,q]=p.l++m.l++q.l:=by simp [uy]
 rw [e] at h;exact h
theorem uj.drop {ad:zk} {l:List l8} {c:Nat} (h:uj w ⟨some ad,l,c⟩) (n:Nat):uj w ⟨some (ad.add (n * 2)),l.drop n,c - n⟩:=⟨o7.drop h.row n,fun e=>by cases e⟩
theorem oJ (w:zi) (a:zk) (c:Nat):uj w ⟨some a,[],c⟩:=⟨fun k hk=>absurd hk lh,fun e=>by cases e⟩
set_option maxHeartbeats 1600000 in
theorem pP (a:Option zk) (l:List l8) (c:Nat) (s:ByteArray) (w:zi) (hp:uj w ⟨a,l,c⟩) (hlc:l.length≤c) (hc:c≤zm) (hl:l.length≤40) (hri:qm l=true) :
 zj prog 152 #[yz a l.length c,yy s] w (oy w (pm l s)):=by
 unfold zm at hc;have hr:o7 w (·<w) a l:=hp.row;have cf:=fT a l c s _ w hr (fun _ h=>h) lf (fun W x _ _=>mT x W);by_cases hi:l.findIdx (qo s)<l.length
 case neg =>
  have e2:pm l s=([],8):=by unfold pm;rw [if_neg hi]
  rw [e2];rw [decide_eq_false hi] at cf;obtain ⟨n,hn⟩:∃ n,l.length=n:=⟨_,rfl⟩;rw [hn] at cf ⊢;obtain ⟨i,he⟩:∃ i,l.findIdx (qo s)=i:=⟨_,rfl⟩;rw [he] at cf;have CF:=yv cf;clear hr cf hi he hn e2 hp hri hlc hl;go_enter func152,ntmps152;go_wp2_with fail;refine CF.out.mono ?_;rintro e w1 ⟨rfl,ac⟩;go_wp2;go_ret2;exact ⟨none,0,rfl,sx.none _ _,ac⟩
 have e2:pm l s=(l.take (l.findIdx (qo s))++l.drop (l.findIdx (qo s)+1),0):=by unfold pm;rw [if_pos hi,sR hri hi]
 rw [e2];rw [decide_eq_true hi] at cf;obtain ⟨i,he⟩:∃ i,l.findIdx (qo s)=i:=⟨_,rfl⟩;rw [he] at hi cf ⊢;obtain ⟨ad,rfl⟩:∃ ad,a=some ad:=by
  obtain ⟨ad,e,-⟩:=hr i hi;exact ⟨ad,e⟩
 have ht:=hp.take i;have hd:=hp.drop (i+1);have ah:c=i+1→l.drop (i+1)=[]:=fun h=>zx lf;have htl:(l.take i).length=i:=by rw [zt];omega
 have hdl:(l.drop (i+1)).length=l.length - (i+1):=by rw [zw]
 obtain ⟨n,hn⟩:∃ n,l.length=n:=⟨_,rfl⟩;rw [hn] at hi hl cf hlc hdl ⊢;obtain ⟨T,hT⟩:∃ T,l.take i=T:=⟨_,rfl⟩;obtain ⟨D,hD⟩:∃ D,l.drop (i+1)=D:=⟨_,rfl⟩;rw [hT] at ht htl ⊢;rw [hD] at hd ah hdl ⊢;have CF:=yv cf;have HT:=yv ht;have HD:=yv hd;have ai:=yv ah;have ak:=yv htl;have al:=yv hdl;clear hr cf he hn e2 hp hri ht hd ah htl hdl hT hD;have z0:(0:Int)≤(i:Int):=lf;have z1:(i:Int)≤(c:Int):=lf;have z2:(i:Int)+1≤(n:Int):=lf;have z3:(0:Int)≤(i:Int)+1:=lf;have z4:(n:Int)≤(c:Int):=lf;have z5:((i:Int)+1).toNat=i+1:=lf;have z6:yw.wrap ((i:Int)+1)=(i:Int)+1:=by rw [Ad];omega
 by_cases hce:c=i+1
 ·have am:n=i+1:=lf;have D0:=ai.out hce;subst hce;subst am;subst D0;have z7:(i:Int)≤(i:Int)+1:=lf;clear HD ai;go_enter func152,ntmps152;go_wp2_with fail;refine CF.out.mono ?_;rintro e w1 ⟨rfl,ac⟩;have aa:=yv ac;clear ac;go_wp2_with fail;refine zn (S:=(fun w':zi=>ze w w w')) lg aa.out.drew (fun hHeld=>?_);refine zo (i:=0) (v:=?_) (by simp only [zp,zq];rfl) lg lg lg (fun _ _ _ h=>by exact h) (zr ⟨lj,?_⟩) lm ?_;rotate_left
  ·(intro w hSw;(try dsimp only at hSw);go_simp;try with_reducible rfl)
  try simp only [zf,mj]
  refine ly 1 ?_;refine ly 2 ?_;refine ly 3 ?_;refine ly 4 ?_;refine ly 5 ?_;refine ly 6 ?_;refine m8 7 fun K hK=>?_;go_simp;have ab:=yv (aa.out.drew.alloc aa.out.size (zd #[yz (some ad) i (i+1),yz (some ad) 0 0] 22));have CC:=yv (cat2 (W:=w1.drew) (p:=⟨some ad,T,(i+1)⟩) (q:=⟨some ad,[],0⟩) i 0 (HT.out.later aa.out.drew) (oJ _ _ _) ak.out rfl lf 22)
  try go_wp2_with fail
  refine hK.out _ _ ?_ (fun hHeld=>?_)
  ·exact ab.out
  clear hK K
  try simp only [zf,mj]
  refine m8 8 fun K hK=>?_;go_simp
  (go_at_call 180;refine (CC.out).mono ?_;rintro e w3 ⟨a3,c3,rfl,ae,af⟩;have ag:=yv (ab.out.trans (af.mono ab.out.size));have aj:=yv (ae.more ab.out.size);clear af ae)
  try go_wp2_with fail
  refine hK.out _ _ ?_ (fun hHeld=>?_)
  ·exact ag.out
  clear hK K
  try simp only [zf,mj]
  refine ly 9 ?_;refine ly 10 ?_;refine zs lg ?_ _;go_wp2_with fail;go_ret2;exact ⟨a3,c3,lh,aj.out,ag.out⟩
 ·clear ai;go_enter func152,ntmps152;go_wp2_with fail;refine CF.out.mono ?_;rintro e w1 ⟨rfl,ac⟩;have aa:=yv ac;clear ac;go_wp2_with fail;refine zn (S:=(fun w':zi=>ze w w w')) lg aa.out.drew (fun hHeld=>?_);refine zo (i:=0) (v:=?_) (by simp only [zp,zq];rfl) lg lg lg (fun _ _ _ h=>by exact h) (zr ⟨lj,?_⟩) lm ?_;rotate_left
  ·(intro w hSw;(try dsimp only at hSw);go_simp;try with_reducible rfl)
  try simp only [zf,mj]
  refine ly 1 ?_;refine ly 2 ?_;refine ly 3 ?_;refine ly 4 ?_;refine ly 5 ?_;refine ly 6 ?_;refine m8 7 fun K hK=>?_;go_simp;have ab:=yv (aa.out.drew.alloc aa.out.size (zd #[yz (some ad) i c,yz (some (ad.add ((i+1) * 2))) (n - (i+1)) (c - (i+1))] 22));have CC:=yv (cat2 (W:=w1.drew) (p:=⟨some ad,T,c⟩) (q:=⟨some (ad.add ((i+1) * 2)),D,c - (i+1)⟩) i (n - (i+1)) (HT.out.later aa.out.drew) (HD.out.later aa.out.drew) ak.out al.out lf 22)
  try go_wp2_with fail
  refine hK.out _ _ ?_ (fun hHeld=>?_)
  ·exact ab.out
  clear hK K
  try simp only [zf,mj]
  refine m8 8 fun K hK=>?_;go_simp
  (go_at_call 180;refine (CC.out).mono ?_;rintro e w3 ⟨a3,c3,rfl,ae,af⟩;have ag:=yv (ab.out.trans (af.mono ab.out.size));have aj:=yv (ae.more ab.out.size);clear af ae)
  try go_wp2_with fail
  refine hK.out _ _ ?_ (fun hHeld=>?_)
  ·exact ag.out
  clear hK K
  try simp only [zf,mj]
  refine ly 9 ?_;refine ly 10 ?_;refine zs lg ?_ _;go_wp2_with fail;go_ret2;exact ⟨a3,c3,lh,aj.out,ag.out⟩
theorem jF (W:zi) (xn:ByteArray) (xp:Int):uj (W.alloc (zd #[yy xn,yx yw xp] 90)) ⟨some ⟨W,0,none⟩,[⟨xn,xp⟩],1⟩:=
 ⟨fun k hk=>by
  obtain rfl:k=0:=by simpa using hk
  exact ⟨_,rfl,lh,by simp [Addr.add,zu],by simp [Addr.add,zu]⟩,fun e=>by cases e⟩
set_option maxHeartbeats 1600000 in
theorem GK (a:Option zk) (l:List l8) (c:Nat) (x:l8) (w:zi) (hp:uj w ⟨a,l,c⟩) (hlc:l.length≤c) (hc:c≤zm) (hl:l.length≤40) (hx:x.name.size≤zm) (hm:ng x.name.data.toList=false) :
 zj prog 151 #[yz a l.length c,x.v] w (oy w ([],7)):=by
 obtain ⟨xn,xp⟩:=x;have cm:=bI xn hx;rw [hm] at cm;have CM:=yv cm;clear cm hm;go_enter func151,ntmps151;go_wp2_with fail;refine (CM.out _).mono ?_;rintro e w1 ⟨rfl,rfl⟩;go_wp2;go_ret2;exact ⟨none,0,rfl,sx.none _ _,(zg w w).alloc (zh _) _⟩
theorem bA {wX w2 w3:zi} {b:Nat} {x y:Value} (h:ze wX wX w2∧w2 ⟨b,0,none⟩=some x∧w2 ⟨b,1,none⟩=some y) (hb:ze w2 w2 w3) (hx:b<wX):ze wX wX w3∧w3 ⟨b,0,none⟩=some x∧w3 ⟨b,1,none⟩=some y:=
 have hz:b<w2:=Ab hx h.1.size
 ⟨h.1.trans (hb.mono h.1.size),(hb.cell (p:=⟨b,0,none⟩) hz).trans h.2.1,(hb.cell (p:=⟨b,1,none⟩) hz).trans h.2.2⟩
set_option maxHeartbeats 1600000 in
theorem NF (a:Option zk) (l:List l8) (c:Nat) (x:l8) (w:zi) (hp:uj w ⟨a,l,c⟩) (hlc:l.length≤c) (hc:c≤zm) (hl:l.length≤40) (hx:x.name.size≤zm) (hri:qm l=true) (hm:ng x.name.data.toList=true) (hi:l.findIdx (qo x.name)<l.length) :
 zj prog 151 #[yz a l.length c,x.v] w (oy w (pf (qb l x.name) x,0)):=by
 rw [uB hri hi];unfold zm at hc;obtain ⟨xn,xp⟩:=x;have cm:=bI xn hx;obtain ⟨wX,hwX⟩:∃ wX,w.alloc (zd #[yy xn,yx yw xp] 90)=wX:=⟨_,rfl⟩;have aj:ze w w (w.alloc (zd #[yy xn,yx yw xp] 90)):=(zg w w).alloc (zh _) _;obtain ⟨x0,x1⟩:=gM (N:=w.heap.size+1) lf (zg (w+1) (w.alloc (zd #[yy xn,yx yw xp] 90)));have aq:w.heap.size+1≤wX.heap.size:=by rw [← hwX];simp
 rw [hwX] at x0 x1 aj;have hpX:uj wX ⟨a,l,c⟩:=hp.later aj;have hr:o7 wX (·<wX) a l:=hpX.row;have cf:=fT a l c xn _ wX hr (fun _ h=>h) lf (fun W x _ _=>mT x W);have ak:=yv (fun w' (h:ze wX wX w')=>aj.trans (h.mono lf));have hi:l.findIdx (qo xn)<l.length:=hi;rw [hm] at cm;rw [decide_eq_true hi] at cf;show zj _ _ _ w (oy w (l.take (l.findIdx (qo xn))++[⟨xn,xp⟩]++l.drop (l.findIdx (qo xn)+1),0));obtain ⟨i,he⟩:∃ i,l.findIdx (qo xn)=i:=⟨_,rfl⟩;rw [he] at hi cf ⊢;obtain ⟨ad,rfl⟩:∃ ad,a=some ad:=by
  obtain ⟨ad,e,-⟩:=hr i hi;exact ⟨ad,e⟩
 have ht:=hpX.take i;have hd:=hpX.drop (i+1);have al:c=i+1→l.drop (i+1)=[]:=fun h=>zx lf;have htl:(l.take i).length=i:=by rw [zt];omega
 have hdl:(l.drop (i+1)).length=l.length - (i+1):=by rw [zw]
 obtain ⟨n,hn⟩:∃ n,l.length=n:=⟨_,rfl⟩;rw [hn] at hi hl cf hlc hdl ⊢;obtain ⟨T,hT⟩:∃ T,l.take i=T:=⟨_,rfl⟩;obtain ⟨D,hD⟩:∃ D,l.drop (i+1)=D:=⟨_,rfl⟩;rw [hT] at ht htl ⊢;rw [hD] at hd al hdl ⊢;have CM:=yv cm;have CF:=yv cf;have HT:=yv ht;have HD:=yv hd;have am:=yv al;have ao:=yv htl;have ar:=yv hdl;have ab:=yv (show w.heap.size<wX by omega);clear cm hr cf he hn hp hpX hri ht hd al htl hdl hT hD aj aq hm hx;have z0:(0:Int)≤(i:Int):=lf;have z1:(i:Int)≤(c:Int):=lf;have z2:(i:Int)+1≤(n:Int):=lf;have z3:(0:Int)≤(i:Int)+1:=lf;have z4:(n:Int)≤(c:Int):=lf;have z5:((i:Int)+1).toNat=i+1:=lf;have z6:yw.wrap ((i:Int)+1)=(i:Int)+1:=by rw [Ad];omega
 by_cases hce:c=i+1
 ·have au:n=i+1:=lf;have D0:=am.out hce;subst hce;subst au;subst D0;have z7:(i:Int)≤(i:Int)+1:=lf;clear HD am;go_enter func151,ntmps151;go_wp2_with fail;refine (CM.out _).mono ?_;rintro e w0 ⟨rfl,rfl⟩;go_wp2_with fail;refine CF.out.mono ?_;rintro e w1 ⟨rfl,ae⟩;have aa:=yv ae;clear hwX;clear ae;have y0:=(aa.out.cell (p:=⟨w,0,none⟩) ab.out).trans x0;have y1:=(aa.out.cell (p:=⟨w,1,none⟩) ab.out).trans x1;go_wp2_with fail;refine zn (S:=(fun w':zi=>ze wX wX w'∧w' ⟨w,0,none⟩=some (yy xn)∧w' ⟨w,1,none⟩=some (yx yw xp))) lg ⟨aa.out.drew,y0,y1⟩ (fun hHeld=>?_);refine zo (i:=0) (v:=?_) (by simp only [zp,zq];rfl) lg lg lg (fun _ _ _ h=>by exact h) (zr ⟨lj,?_⟩) lm ?_;rotate_left
  ·(intro w hSw;(try dsimp only at hSw);go_simp;try with_reducible rfl)
  try simp only [zf,mj]
  refine ly 1 ?_;refine ly 2 ?_;refine ly 3 ?_;refine ly 5 ?_;refine ly 6 ?_;refine ly 7 ?_;refine ly 8 ?_;refine m8 4 fun K hK=>?_;go_simp;have af:=yv (bA (show ze wX.heap.size wX w1.drew∧w1.drew ⟨w,0,none⟩=some (yy xn)∧w1.drew ⟨w,1,none⟩=some (yx yw xp) from ⟨aa.out.drew,y0,y1⟩) ((zg w1.drew w1.drew).alloc (zh _) (zd #[yy xn,yx yw xp] 90)) ab.out)
  try go_wp2_with fail
  refine hK.out _ _ ?_ (fun hHeld=>?_)
  ·exact af.out
  clear hK K
  try simp only [zf,mj]
  refine m8 9 fun K hK=>?_;go_simp;have ac:=yv (bA af.out ((zg (w1.drew.alloc (zd #[yy xn,yx yw xp] 90)) (w1.drew.alloc (zd #[yy xn,yx yw xp] 90))).alloc (zh _) (zd #[yz (some ad) i (i+1),yz (some ⟨w1.drew,0,none⟩) 1 1,yz (some ad) 0 0] 22)) ab.out);have cc:=cat3 (W:=w1.drew.alloc (zd #[yy xn,yx yw xp] 90)) (p:=⟨some ad,T,(i+1)⟩) (m:=⟨some ⟨w1.drew,0,none⟩,[⟨xn,xp⟩],1⟩) (q:=⟨some ad,[],0⟩) i 1 0 (HT.out.later (aa.out.drew.trans (((zg w1.drew w1.drew).alloc (zh _) (zd #[yy xn,yx yw xp] 90)).mono aa.out.drew.size))) (jF w1.drew xn xp) (oJ _ _ _) ao.out rfl rfl lf 22;rw [show (w1.drew.alloc (zd #[yy xn,yx yw xp] 90)).heap.size=w1+1 by simp] at cc;have CC:=yv cc;clear cc
  try go_wp2_with fail
  refine hK.out _ _ ?_ (fun hHeld=>?_)
  ·exact ac.out
  clear hK K
  try simp only [zf,mj]
  refine m8 10 fun K hK=>?_;go_simp
  (go_at_call 180;refine (CC.out).mono ?_;rintro e w3 ⟨a3,c3,rfl,ag,ah⟩;have ai:=yv (bA ac.out ah ab.out);have an:=yv (ag.more (b2:=w.heap.size) (by have h1:=ac.out.1.size;have h2:=ab.out;omega));clear ah ag)
  try go_wp2_with fail
  refine hK.out _ _ ?_ (fun hHeld=>?_)
  ·exact ai.out
  clear hK K
  try simp only [zf,mj]
  refine ly 11 ?_;refine ly 12 ?_;refine zs lg ?_ _;go_wp2_with fail;go_ret2;exact ⟨a3,c3,lh,an.out,ak.out _ ai.out.1⟩
 ·clear am;go_enter func151,ntmps151;go_wp2_with fail;refine (CM.out _).mono ?_;rintro e w0 ⟨rfl,rfl⟩;go_wp2_with fail;refine CF.out.mono ?_;rintro e w1 ⟨rfl,ae⟩;have aa:=yv ae;clear hwX;clear ae;have y0:=(aa.out.cell (p:=⟨w,0,none⟩) ab.out).trans x0;have y1:=(aa.out.cell (p:=⟨w,1,none⟩) ab.out).trans x1;go_wp2_with fail;refine zn (S:=(fun w':zi=>ze wX wX w'∧w' ⟨w,0,none⟩=some (yy xn)∧w' ⟨w,1,none⟩=some (yx yw xp))) lg ⟨aa.out.drew,y0,y1⟩ (fun hHeld=>?_);refine zo (i:=0) (v:=?_) (by simp only [zp,zq];rfl) lg lg lg (fun _ _ _ h=>by exact h) (zr ⟨lj,?_⟩) lm ?_;rotate_left
  ·(intro w hSw;(try dsimp only at hSw);go_simp;try with_reducible rfl)
  try simp only [zf,mj]
  refine ly 1 ?_;refine ly 2 ?_;refine ly 3 ?_;refine ly 5 ?_;refine ly 6 ?_;refine ly 7 ?_;refine ly 8 ?_;refine m8 4 fun K hK=>?_;go_simp;have af:=yv (bA (show ze wX.heap.size wX w1.drew∧w1.drew ⟨w,0,none⟩=some (yy xn)∧w1.drew ⟨w,1,none⟩=some (yx yw xp) from ⟨aa.out.drew,y0,y1⟩) ((zg w1.drew w1.drew).alloc (zh _) (zd #[yy xn,yx yw xp] 90)) ab.out)
  try go_wp2_with fail
  refine hK.out _ _ ?_ (fun hHeld=>?_)
  ·exact af.out
  clear hK K
  try simp only [zf,mj]
  refine m8 9 fun K hK=>?_;go_simp;have ac:=yv (bA af.out ((zg (w1.drew.alloc (zd #[yy xn,yx yw xp] 90)) (w1.drew.alloc (zd #[yy xn,yx yw xp] 90))).alloc (zh _) (zd #[yz (some ad) i c,yz (some ⟨w1.drew,0,none⟩) 1 1,yz (some (ad.add ((i+1) * 2))) (n - (i+1)) (c - (i+1))] 22)) ab.out);have cc:=cat3 (W:=w1.drew.alloc (zd #[yy xn,yx yw xp] 90)) (p:=⟨some ad,T,c⟩) (m:=⟨some ⟨w1.drew,0,none⟩,[⟨xn,xp⟩],1⟩) (q:=⟨some (ad.add ((i+1) * 2)),D,c - (i+1)⟩) i 1 (n - (i+1)) (HT.out.later (aa.out.drew.trans (((zg w1.drew w1.drew).alloc (zh _) (zd #[yy xn,yx yw xp] 90)).mono aa.out.drew.size))) (jF w1.drew xn xp) (HD.out.later (aa.out.drew.trans (((zg w1.drew w1.drew).alloc (zh _) (zd #[yy xn,yx yw xp] 90)).mono aa.out.drew.size))) ao.out rfl ar.out lf 22;rw [show (w1.drew.alloc (zd #[yy xn,yx yw xp] 90)).heap.size=w1+1 by simp] at cc;have CC:=yv cc;clear cc
  try go_wp2_with fail
  refine hK.out _ _ ?_ (fun hHeld=>?_)
  ·exact ac.out
  clear hK K
  try simp only [zf,mj]
  refine m8 10 fun K hK=>?_;go_simp
  (go_at_call 180;refine (CC.out).mono ?_;rintro e w3 ⟨a3,c3,rfl,ag,ah⟩;have ai:=yv (bA ac.out ah ab.out);have an:=yv (ag.more (b2:=w.heap.size) (by have h1:=ac.out.1.size;have h2:=ab.out;omega));clear ah ag)
  try go_wp2_with fail
  refine hK.out _ _ ?_ (fun hHeld=>?_)
  ·exact ai.out
  clear hK K
  try simp only [zf,mj]
  refine ly 11 ?_;refine ly 12 ?_;refine zs lg ?_ _;go_wp2_with fail;go_ret2;exact ⟨a3,c3,lh,an.out,ak.out _ ai.out.1⟩
set_option maxHeartbeats 1600000 in
theorem IM (a:Option zk) (l:List l8) (c:Nat) (x:l8) (w:zi) (hp:uj w ⟨a,l,c⟩) (hlc:l.length≤c) (hc:c≤zm) (hl:l.length≤40) (hx:x.name.size≤zm) (hm:ng x.name.data.toList=true) (hi:¬ l.findIdx (qo x.name)<l.length) (h16:16≤l.length) :
 zj prog 151 #[yz a l.length c,x.v] w (oy w ([],9)):=by
 unfold zm at hc;obtain ⟨xn,xp⟩:=x;have cm:=bI xn hx;obtain ⟨wX,hwX⟩:∃ wX,w.alloc (zd #[yy xn,yx yw xp] 90)=wX:=⟨_,rfl⟩;have aa:ze w w (w.alloc (zd #[yy xn,yx yw xp] 90)):=(zg w w).alloc (zh _) _;obtain ⟨x0,x1⟩:=gM (N:=w.heap.size+1) lf (zg (w+1) (w.alloc (zd #[yy xn,yx yw xp] 90)));have ad:w.heap.size+1≤wX.heap.size:=by rw [← hwX];simp
 rw [hwX] at x0 x1 aa;have hpX:uj wX ⟨a,l,c⟩:=hp.later aa;have hr:o7 wX (·<wX) a l:=hpX.row;have cf:=fT a l c xn _ wX hr (fun _ h=>h) lf (fun W x _ _=>mT x W);have ab:=yv (fun w' (h:ze wX wX w')=>aa.trans (h.mono lf));have hi:¬ l.findIdx (qo xn)<l.length:=hi;rw [hm] at cm;rw [decide_eq_false hi] at cf;obtain ⟨i,he⟩:∃ i,l.findIdx (qo xn)=i:=⟨_,rfl⟩;rw [he] at cf;obtain ⟨n,hn⟩:∃ n,l.length=n:=⟨_,rfl⟩;rw [hn] at cf h16 ⊢;have CM:=yv cm;have CF:=yv cf;have z0:(16:Int)≤(n:Int):=lf;clear cm hr cf he hn hp hpX aa hm hx hi hlc hl;go_enter func151,ntmps151;go_wp2_with fail;refine (CM.out _).mono ?_;rintro e w0 ⟨rfl,rfl⟩;go_wp2_with fail;refine CF.out.mono ?_;rintro e w1 ⟨rfl,ac⟩;go_wp2;go_ret2;exact ⟨none,0,rfl,sx.none _ _,ab.out _ ac⟩
set_option maxHeartbeats 1600000 in
theorem MI (a:Option zk) (l:List l8) (c:Nat) (x:l8) (w:zi) (hp:uj w ⟨a,l,c⟩) (hlc:l.length≤c) (hc:c≤zm) (hl:l.length≤40) (hx:x.name.size≤zm) (hm:ng x.name.data.toList=true) (hi:¬ l.findIdx (qo x.name)<l.length) (h16:¬ 16≤l.length) :
 zj prog 151 #[yz a l.length c,x.v] w (oy w (pf l x,0)):=by
 unfold zm at hc;obtain ⟨xn,xp⟩:=x;have cm:=bI xn hx;obtain ⟨wX,hwX⟩:∃ wX,w.alloc (zd #[yy xn,yx yw xp] 90)=wX:=⟨_,rfl⟩;have am:ze w w (w.alloc (zd #[yy xn,yx yw xp] 90)):=(zg w w).alloc (zh _) _;obtain ⟨x0,x1⟩:=gM (N:=w.heap.size+1) lf (zg (w+1) (w.alloc (zd #[yy xn,yx yw xp] 90)));have ay:w.heap.size+1≤wX.heap.size:=by rw [← hwX];simp
 rw [hwX] at x0 x1 am;have hpX:uj wX ⟨a,l,c⟩:=hp.later am;have hr:o7 wX (·<wX) a l:=hpX.row;have cf:=fT a l c xn _ wX hr (fun _ h=>h) lf (fun W x _ _=>mT x W);have al:=yv (fun w' (h:ze wX wX w')=>am.trans (h.mono lf));have hi:¬ l.findIdx (qo xn)<l.length:=hi;rw [hm] at cm;rw [decide_eq_false hi] at cf;have cb:∀ W,ze wX wX W→zj prog 181 #[yz a l.length c,.func (.func 182) #[] #[.pointer (some ⟨w,0,none⟩)],.bool true] W fun e w'=>e=.returned (.tuple #[yx yw (l.findIdx (se xn):Nat),.bool (decide (l.findIdx (se xn)<l.length))])∧ze W.heap.size W w':=fun W hW =>
  xK a l c xn w _ W (hpX.later hW).row (fun _ h=>h) lf fun W2 y h2 _=>EE y xn w W2 (by have:=hW.size;have:=h2.size;omega) (((hW.trans (h2.mono hW.size)).cell (p:=⟨w,0,none⟩) (show w.heap.size<wX by omega)).trans x0)
 obtain ⟨i0,he⟩:∃ i,l.findIdx (qo xn)=i:=⟨_,rfl⟩;rw [he] at cf;show zj _ _ _ w (oy w (l.take (l.findIdx (se xn))++[⟨xn,xp⟩]++l.drop (l.findIdx (se xn)),0));have hg:=iU l (se xn);obtain ⟨i,hgi⟩:∃ i,l.findIdx (se xn)=i:=⟨_,rfl⟩;rw [hgi] at hg cb ⊢;have ht:=hpX.take i;have hd:∀ ad,a=some ad→uj wX ⟨some (ad.add (i * 2)),l.drop i,c - i⟩:=fun ad e=>by subst e;exact hpX.drop i
 have ar:c=i→l.drop i=[]:=fun h=>zx lf;have hnil:a=none→l=[]∧c=0:=fun e=>⟨hpX.len e,hpX.nil e⟩;have htl:(l.take i).length=i:=by rw [zt];omega
 have hdl:(l.drop i).length=l.length - i:=by rw [zw]
 obtain ⟨q,hq⟩:∃ q,decide (i<l.length)=q:=⟨_,rfl⟩;rw [hq] at cb;obtain ⟨n,hn⟩:∃ n,l.length=n:=⟨_,rfl⟩;have av:a=none→n=0:=fun e=>by rw [← hn,(hnil e).1];rfl
 have aw:a=none→c=0:=fun e=>(hnil e).2;rw [hn] at hg hl cf cb hlc hdl h16 ⊢;obtain ⟨T,hT⟩:∃ T,l.take i=T:=⟨_,rfl⟩;obtain ⟨D,hD⟩:∃ D,l.drop i=D:=⟨_,rfl⟩;rw [hT] at ht htl ⊢;rw [hD] at hd ar hdl ⊢;have CM:=yv cm;have CF:=yv cf;have CB:=yv cb;have HT:=yv ht;have HD:=yv hd;have an:=yv ar;have au:=yv htl;have ax:=yv hdl;have ab:=yv (show w.heap.size<wX by omega);have ao:=yv av;have aq:=yv aw;clear cm hr cf cb he hn hp hpX ht hd ar htl hdl hT hD am ay hm hx hi hnil hgi hq av aw;have z0:(0:Int)≤(i:Int):=lf;have z1:(i:Int)≤(c:Int):=lf;have z2:(i:Int)≤(n:Int):=lf;have z4:(n:Int)≤(c:Int):=lf;have z8:(n:Int)<16:=lf;cases a with
 | none =>
  have n0:=ao.out rfl;have c0:=aq.out rfl;obtain rfl:i=0:=lf;have T0:T=[]:=Ae.1 au.out;have D0:D=[]:=Ae.1 (by rw [ax.out];omega);subst n0;subst c0;subst T0;subst D0;have PN:=yv (fun W:zi=>(show uj W ⟨none,[],0⟩ from ⟨fun k hk=>absurd hk lh,fun _=>rfl⟩));clear HD an ao aq z0 z1 z2 z4 z8;go_enter func151,ntmps151;go_wp2_with fail;refine (CM.out _).mono ?_;rintro e w0 ⟨rfl,rfl⟩;go_wp2_with fail;refine CF.out.mono ?_;rintro e w1 ⟨rfl,ac⟩;have aa:=yv ac;clear hwX;go_wp2_with fail;refine (CB.out _ ac).mono ?_;rintro e w2 ⟨rfl,af⟩;have aa:=yv (ac.trans (af.mono ac.size));clear af;clear ac;have y0:=(aa.out.cell (p:=⟨w,0,none⟩) ab.out).trans x0;have y1:=(aa.out.cell (p:=⟨w,1,none⟩) ab.out).trans x1;go_wp2_with fail;refine zn (S:=(fun w':zi=>ze wX wX w'∧w' ⟨w,0,none⟩=some (yy xn)∧w' ⟨w,1,none⟩=some (yx yw xp))) lg ⟨aa.out.drew,y0,y1⟩ (fun hHeld=>?_);refine zo (i:=0) (v:=?_) (by simp only [zp,zq];rfl) lg lg lg (fun _ _ _ h=>by exact h) (zr ⟨lj,?_⟩) lm ?_;rotate_left
  ·(intro w hSw;(try dsimp only at hSw);go_simp;try with_reducible rfl)
  try simp only [zf,mj]
  refine ly 1 ?_;refine ly 2 ?_;refine ly 3 ?_;refine ly 5 ?_;refine ly 6 ?_;refine ly 7 ?_;refine m8 4 fun K hK=>?_;go_simp;have ag:=yv (bA (show ze wX.heap.size wX w2.drew∧w2.drew ⟨w,0,none⟩=some (yy xn)∧w2.drew ⟨w,1,none⟩=some (yx yw xp) from ⟨aa.out.drew,y0,y1⟩) ((zg w2.drew w2.drew).alloc (zh _) (zd #[yy xn,yx yw xp] 90)) ab.out)
  try go_wp2_with fail
  refine hK.out _ _ ?_ (fun hHeld=>?_)
  ·exact ag.out
  clear hK K
  try simp only [zf,mj]
  refine m8 8 fun K hK=>?_;go_simp;have ae:=yv (bA ag.out ((zg (w2.drew.alloc (zd #[yy xn,yx yw xp] 90)) (w2.drew.alloc (zd #[yy xn,yx yw xp] 90))).alloc (zh _) (zd #[yz none 0 0,yz (some ⟨w2.drew,0,none⟩) 1 1,yz none 0 0] 22)) ab.out);have cc:=cat3 (W:=w2.drew.alloc (zd #[yy xn,yx yw xp] 90)) (p:=⟨none,[],0⟩) (m:=⟨some ⟨w2.drew,0,none⟩,[⟨xn,xp⟩],1⟩) (q:=⟨none,[],0⟩) 0 1 0 (PN.out _) (jF w2.drew xn xp) (PN.out _) rfl rfl rfl lf 22;rw [show (w2.drew.alloc (zd #[yy xn,yx yw xp] 90)).heap.size=w2+1 by simp] at cc;have CC:=yv cc;clear cc
  try go_wp2_with fail
  refine hK.out _ _ ?_ (fun hHeld=>?_)
  ·exact ae.out
  clear hK K
  try simp only [zf,mj]
  refine m8 9 fun K hK=>?_;go_simp
  (go_at_call 180;refine (CC.out).mono ?_;rintro e w3 ⟨a3,c3,rfl,ah,ai⟩;have aj:=yv (bA ae.out ai ab.out);have ak:=yv (ah.more (b2:=w.heap.size) (by have h1:=ae.out.1.size;have h2:=ab.out;omega));clear ai ah)
  try go_wp2_with fail
  refine hK.out _ _ ?_ (fun hHeld=>?_)
  ·exact aj.out
  clear hK K
  try simp only [zf,mj]
  refine ly 10 ?_;refine ly 11 ?_;refine zs lg ?_ _;go_wp2_with fail;go_ret2;exact ⟨a3,c3,lh,ak.out,al.out _ aj.out.1⟩
 | some ad =>
  have HD:=yv (HD.out ad rfl);by_cases hce:c=i
  ·have az:n=i:=lf;have D0:=an.out hce;subst hce;subst az;subst D0;clear HD an ao aq;go_enter func151,ntmps151;go_wp2_with fail;refine (CM.out _).mono ?_;rintro e w0 ⟨rfl,rfl⟩;go_wp2_with fail;refine CF.out.mono ?_;rintro e w1 ⟨rfl,ac⟩;have aa:=yv ac;clear hwX;go_wp2_with fail;refine (CB.out _ ac).mono ?_;rintro e w2 ⟨rfl,af⟩;have aa:=yv (ac.trans (af.mono ac.size));clear af;clear ac;have y0:=(aa.out.cell (p:=⟨w,0,none⟩) ab.out).trans x0;have y1:=(aa.out.cell (p:=⟨w,1,none⟩) ab.out).trans x1;go_wp2_with fail;refine zn (S:=(fun w':zi=>ze wX wX w'∧w' ⟨w,0,none⟩=some (yy xn)∧w' ⟨w,1,none⟩=some (yx yw xp))) lg ⟨aa.out.drew,y0,y1⟩ (fun hHeld=>?_);refine zo (i:=0) (v:=?_) (by simp only [zp,zq];rfl) lg lg lg (fun _ _ _ h=>by exact h) (zr ⟨lj,?_⟩) lm ?_;rotate_left
   ·(intro w hSw;(try dsimp only at hSw);go_simp;try with_reducible rfl)
   try simp only [zf,mj]
   refine ly 1 ?_;refine ly 2 ?_;refine ly 3 ?_;refine ly 5 ?_;refine ly 6 ?_;refine ly 7 ?_;refine m8 4 fun K hK=>?_;go_simp;have ag:=yv (bA (show ze wX.heap.size wX w2.drew∧w2.drew ⟨w,0,none⟩=some (yy xn)∧w2.drew ⟨w,1,none⟩=some (yx yw xp) from ⟨aa.out.drew,y0,y1⟩) ((zg w2.drew w2.drew).alloc (zh _) (zd #[yy xn,yx yw xp] 90)) ab.out)
   try go_wp2_with fail
   refine hK.out _ _ ?_ (fun hHeld=>?_)
   ·exact ag.out
   clear hK K
   try simp only [zf,mj]
   refine m8 8 fun K hK=>?_;go_simp;have ae:=yv (bA ag.out ((zg (w2.drew.alloc (zd #[yy xn,yx yw xp] 90)) (w2.drew.alloc (zd #[yy xn,yx yw xp] 90))).alloc (zh _) (zd #[yz (some ad) n n,yz (some ⟨w2.drew,0,none⟩) 1 1,yz (some ad) 0 0] 22)) ab.out);have cc:=cat3 (W:=w2.drew.alloc (zd #[yy xn,yx yw xp] 90)) (p:=⟨some ad,T,n⟩) (m:=⟨some ⟨w2.drew,0,none⟩,[⟨xn,xp⟩],1⟩) (q:=⟨some ad,[],0⟩) n 1 0 (HT.out.later (aa.out.drew.trans (((zg w2.drew w2.drew).alloc (zh _) (zd #[yy xn,yx yw xp] 90)).mono aa.out.drew.size))) (jF w2.drew xn xp) (oJ _ _ _) au.out rfl rfl lf 22;rw [show (w2.drew.alloc (zd #[yy xn,yx yw xp] 90)).heap.size=w2+1 by simp] at cc;have CC:=yv cc;clear cc
   try go_wp2_with fail
   refine hK.out _ _ ?_ (fun hHeld=>?_)
   ·exact ae.out
   clear hK K
   try simp only [zf,mj]
   refine m8 9 fun K hK=>?_;go_simp
   (go_at_call 180;refine (CC.out).mono ?_;rintro e w3 ⟨a3,c3,rfl,ah,ai⟩;have aj:=yv (bA ae.out ai ab.out);have ak:=yv (ah.more (b2:=w.heap.size) (by have h1:=ae.out.1.size;have h2:=ab.out;omega));clear ai ah)
   try go_wp2_with fail
   refine hK.out _ _ ?_ (fun hHeld=>?_)
   ·exact aj.out
   clear hK K
   try simp only [zf,mj]
   refine ly 10 ?_;refine ly 11 ?_;refine zs lg ?_ _;go_wp2_with fail;go_ret2;exact ⟨a3,c3,lh,ak.out,al.out _ aj.out.1⟩
  ·clear an ao aq;go_enter func151,ntmps151;go_wp2_with fail;refine (CM.out _).mono ?_;rintro e w0 ⟨rfl,rfl⟩;go_wp2_with fail;refine CF.out.mono ?_;rintro e w1 ⟨rfl,ac⟩;have aa:=yv ac;clear hwX;go_wp2_with fail;refine (CB.out _ ac).mono ?_;rintro e w2 ⟨rfl,af⟩;have aa:=yv (ac.trans (af.mono ac.size));clear af;clear ac;have y0:=(aa.out.cell (p:=⟨w,0,none⟩) ab.out).trans x0;have y1:=(aa.out.cell (p:=⟨w,1,none⟩) ab.out).trans x1;go_wp2_with fail;refine zn (S:=(fun w':zi=>ze wX wX w'∧w' ⟨w,0,none⟩=some (yy xn)∧w' ⟨w,1,none⟩=some (yx yw xp))) lg ⟨aa.out.drew,y0,y1⟩ (fun hHeld=>?_);refine zo (i:=0) (v:=?_) (by simp only [zp,zq];rfl) lg lg lg (fun _ _ _ h=>by exact h) (zr ⟨lj,?_⟩) lm ?_;rotate_left
   ·(intro w hSw;(try dsimp only at hSw);go_simp;try with_reducible rfl)
   try simp only [zf,mj]
   refine ly 1 ?_;refine ly 2 ?_;refine ly 3 ?_;refine ly 5 ?_;refine ly 6 ?_;refine ly 7 ?_;refine m8 4 fun K hK=>?_;go_simp;have ag:=yv (bA (show ze wX.heap.size wX w2.drew∧w2.drew ⟨w,0,none⟩=some (yy xn)∧w2.drew ⟨w,1,none⟩=some (yx yw xp) from ⟨aa.out.drew,y0,y1⟩) ((zg w2.drew w2.drew).alloc (zh _) (zd #[yy xn,yx yw xp] 90)) ab.out)
   try go_wp2_with fail
   refine hK.out _ _ ?_ (fun hHeld=>?_)
   ·exact ag.out
   clear hK K
   try simp only [zf,mj]
   refine m8 8 fun K hK=>?_;go_simp;have ae:=yv (bA ag.out ((zg (w2.drew.alloc (zd #[yy xn,yx yw xp] 90)) (w2.drew.alloc (zd #[yy xn,yx yw xp] 90))).alloc (zh _) (zd #[yz (some ad) i c,yz (some ⟨w2.drew,0,none⟩) 1 1,yz (some (ad.add (i * 2))) (n - i) (c - i)] 22)) ab.out);have cc:=cat3 (W:=w2.drew.alloc (zd #[yy xn,yx yw xp] 90)) (p:=⟨some ad,T,c⟩) (m:=⟨some ⟨w2.drew,0,none⟩,[⟨xn,xp⟩],1⟩) (q:=⟨some (ad.add (i * 2)),D,c - i⟩) i 1 (n - i) (HT.out.later (aa.out.drew.trans (((zg w2.drew w2.drew).alloc (zh _) (zd #[yy xn,yx yw xp] 90)).mono aa.out.drew.size))) (jF w2.drew xn xp) (HD.out.later (aa.out.drew.trans (((zg w2.drew w2.drew).alloc (zh _) (zd #[yy xn,yx yw xp] 90)).mono aa.out.drew.size))) au.out rfl ax.out lf 22;rw [show (w2.drew.alloc (zd #[yy xn,yx yw xp] 90)).heap.size=w2+1 by simp] at cc;have CC:=yv cc;clear cc
   try go_wp2_with fail
   refine hK.out _ _ ?_ (fun hHeld=>?_)
   ·exact ae.out
   clear hK K
   try simp only [zf,mj]
   refine m8 9 fun K hK=>?_;go_simp
   (go_at_call 180;refine (CC.out).mono ?_;rintro e w3 ⟨a3,c3,rfl,ah,ai⟩;have aj:=yv (bA ae.out ai ab.out);have ak:=yv (ah.more (b2:=w.heap.size) (by have h1:=ae.out.1.size;have h2:=ab.out;omega));clear ai ah)
   try go_wp2_with fail
   refine hK.out _ _ ?_ (fun hHeld=>?_)
   ·exact aj.out
   clear hK K
   try simp only [zf,mj]
   refine ly 10 ?_;refine ly 11 ?_;refine zs lg ?_ _;go_wp2_with fail;go_ret2;exact ⟨a3,c3,lh,ak.out,al.out _ aj.out.1⟩
theorem sG (a:Option zk) (l:List l8) (c:Nat) (x:l8) (w:zi) (hp:uj w ⟨a,l,c⟩) (hlc:l.length≤c) (hc:c≤zm) (hl:l.length≤40) (hx:x.name.size≤zm) (hri:qm l=true) :
 zj prog 151 #[yz a l.length c,x.v] w (oy w (qx l x)):=by
 unfold qx;by_cases h1:ng x.name.data.toList=false
 ·rw [if_pos h1];exact GK a l c x w hp hlc hc hl hx h1
 rw [if_neg h1];have h1:ng x.name.data.toList=true:=by simpa using h1
 by_cases h2:l.findIdx (qo x.name)<l.length
 ·rw [if_pos h2];exact NF a l c x w hp hlc hc hl hx hri h1 h2
 rw [if_neg h2];by_cases h3:16≤l.length
 ·rw [if_pos h3];exact IM a l c x w hp hlc hc hl hx h1 h2 h3
 ·rw [if_neg h3];exact MI a l c x w hp hlc hc hl hx h1 h2 h3
set_option maxHeartbeats 1000000 in
theorem xS (ad:zk) (l:List l8) (c:Nat) (w:zi) (hr:o7 w (·<w) (some ad) l) (hl:l.length≤1000000) :
 zj prog 91 #[yz (some ad) l.length c] w fun e w'=>∃ v,e=.returned v∧w'.ownsRow w 90 2 v l.length (l8.flat l)∧v≠yz none 0 0∧ze w w w':=by
 obtain ⟨i0,hi,ae,af,ag⟩:=info_parts dK;have q22:∀ (w:zi) (a:Option zk) (n c n' c':Nat),(binOp .eql 22 (yz a n c) (yz none n' c')).run prog w=.ok (.bool a.isNone) w:=fun w a n c n' c'=>Lib.run_eql_slice_nil w _ _ a n c n' c' underlying22;have ab:=yv (sY hr);have aa:=yv (l8.flat_len l);have ac:=yv (vQ l);obtain ⟨n,hn⟩:∃ n,l.length=n:=⟨_,rfl⟩;rw [hn] at hl aa ⊢;obtain ⟨F,hF⟩:∃ F,l8.flat l=F:=⟨_,rfl⟩;rw [hF] at ab aa ac ⊢;clear hr hn hF;go_enter func91,ntmps91;go_wp2_with (at_builtin;refine wpList_append_own _ rfl _ _ 22 rfl w.heap.size 90 i0 _ 2 24 underlying22 hi ae af ag rfl li _ _ _ rfl (World.ownsRow_made w #[] 0 (zh _) (Af _) lh) ad n c F rfl aa.out (fun j u hj=>Lib.cell?_alloc_some _ (ab.out j u hj)) ac.out ln lf lh ?_);intro v' w1 hown hgrow hnil;go_wp2;go_ret;refine ⟨v',rfl,by simpa using hown,?_,?_⟩
 ·exact hnil
 ·exact ((zg _ w).alloc (zh _) _).grown hgrow lh (by intro k hk;simp [Value.ownBlock] at hk;omega)
theorem BL (w:zi):zj prog 91 #[yz none 0 0] w fun e w'=>e=.returned (yz none 0 0)∧w'=w:=by
 have h:=AnyE.slices_Clone_nil Tryz.mkClone 0 0 w;change zj prog 91 _ _ _ at h;exact h
def uz (l:List l8) (F:Int→Int) (k:Nat):List l8:=pd (l.take k) F++l.drop k
theorem oW (l:List l8) (F:Int→Int) (k:Nat):(uz l F k).length=l.length:=by
 unfold uz;rw [Ag,bJ,← Ag,List.take_append_drop]
theorem NH (l:List l8) (F:Int→Int) (k:Nat) (h:k<l.length):(uz l F k)[k]? = some l[k]! :=by
 unfold uz;rw [List.getElem?_append_right (by rw [bJ,zt];omega),bJ,zt,Nat.min_eq_left lf,Ah,List.getElem?_drop,Nat.add_zero,List.getElem?_eq_getElem h,o6 h]
theorem FU (l:List l8) (F:Int→Int) (k:Nat) (h:k<l.length):uz l F (k+1)=(uz l F k).set k ⟨(l[k]!).name,F (l[k]!).p⟩:=by
 unfold uz;have hl:(pd (l.take k) F).length=k:=by rw [bJ,zt];omega
 rw [rB l F k h,List.set_append_right _ _ (by rw [hl];exact zh _),hl,Ah,List.append_assoc]
 congr 1
 rw [List.drop_eq_getElem_cons h,Ai];rfl
theorem LU (l:List l8) (k:Nat) (x:l8) (h:k<l.length) (hx:x.name=(l[k]!).name):(l8.flat l).set (k * 2+1) (yx yw x.p)=l8.flat (l.set k x):=by
 induction l generalizing k with
 | nil=>simp at h
 | cons a r ih =>
  have e:∀ y:l8,∀ s,l8.flat (y::s)=yy y.name::yx yw y.p::l8.flat s:=fun y s=>by simp [l8.flat]
  cases k with
  | zero =>
   have hx:x.name=a.name:=hx;rw [e,Ai,e,hx];rfl
  | succ k =>
   have e2:(a::r).set (k+1) x=a::r.set k x:=rfl;rw [e2,e,e,show (k+1) * 2+1=k * 2+1+1+1 by omega,Aj,Aj,ih k (by simpa using h) (by simpa using hx)]
theorem GX {base g cap:Nat} {t:TypeId} {n:Nat} {l:List l8} (h:w.ownsRow base t 2 (yz (some ⟨g,0,none⟩) n cap) n (l8.flat l)) (k:Nat) (hk:k<l.length):w ⟨g,k * 2+1,none⟩=some (yx yw (l[k]!).p):=by
 have hl:l.length=n:=by have:=h.1;rw [l8.flat_len] at this;omega
 rw [h.cellAt (k * 2+1) lf,(l8.flat_get l k hk).2,o6 hk]
section
variable {wX w2 w3 : World} {b : Nat} {z u v : Value}
theorem uS (h:ze wX wX w2∧w2 ⟨b,0,none⟩=some z∧w2 ⟨b,1,none⟩=some u∧w2 ⟨b,2,none⟩=some v) (hb:ze wX wX w3) (hx:b<wX) :
 ze wX wX w3∧w3 ⟨b,0,none⟩=some z∧w3 ⟨b,1,none⟩=some u∧w3 ⟨b,2,none⟩=some v:=by
 have g:∀ p:zk,p.block<wX→w3 p=w2 p:=fun p hp=>(hb.cell hp).trans (h.1.cell hp).symm;exact ⟨hb,(g _ hx).trans h.2.1,(g _ hx).trans h.2.2.1,(g _ hx).trans h.2.2.2⟩
theorem QK (h:ze wX wX w2∧w2 ⟨b,0,none⟩=some z∧w2 ⟨b,1,none⟩=some u∧w2 ⟨b,2,none⟩=some v) (hb:ze w2 w2 w3) (hx:b<wX) :
 ze wX wX w3∧w3 ⟨b,0,none⟩=some z∧w3 ⟨b,1,none⟩=some u∧w3 ⟨b,2,none⟩=some v:=uS h (h.1.trans (hb.mono h.1.size)) hx
end
set_option maxHeartbeats 800000 in
theorem BO (c:Nat) (ep:Int) (eo en:ByteArray) (w:zi) (hc:c=0):zj prog 202 #[yz none 0 c,vj ep eo en] w (sa w []):=by
 subst hc;show zj prog 202 #[yz none 0 0,.agg #[yx yw ep,yy eo,yy en]] w _;go_enter func202,ntmps202;go_wp2_with fail;refine (BL _).mono ?_;rintro e w1 ⟨rfl,rfl⟩;go_wp2;refine wp_loop_rounds 1 ?_;rw [rounds_succ];go_wp2;go_ret;exact ⟨none,0,rfl,sx.none _ _,(zg w w).alloc (zh _) _⟩
set_option maxHeartbeats 1600000 in
theorem yJ (ad:zk) (l:List l8) (c:Nat) (ep:Int) (eo en:ByteArray) (w:zi) (hp:uj w ⟨some ad,l,c⟩) (hl:l.length≤1000000)
 (ho:eo.size≤140737488355328) (hn:en.size≤140737488355328) (hpz:-2305843009213693952≤ep∧ep≤2305843009213693952) (ha:∀ x∈l,-2305843009213693952≤x.p∧x.p≤2305843009213693952) :
 zj prog 202 #[yz (some ad) l.length c,vj ep eo en] w (sa w (pd l (mw ep eo.size en.size))):=by
 have cs:=fun x (hx:x∈l)=>II ep x.p eo en ho hn hpz (ha x hx);obtain ⟨F,hF⟩:∃ F,mw ep eo.size en.size=F:=⟨_,rfl⟩;rw [hF] at cs ⊢;obtain ⟨wX,hwX⟩:∃ wX,w.alloc (zd #[yx yw ep,yy eo,yy en] 92)=wX:=⟨_,rfl⟩;have ac:ze w w (w.alloc (zd #[yx yw ep,yy eo,yy en] 92)):=(zg w w).alloc (zh _) _;obtain ⟨x0,x1,x2⟩:=IQ (N:=w.heap.size+1) lf (zg (w+1) (w.alloc (zd #[yx yw ep,yy eo,yy en] 92)));have al:w.heap.size+1≤wX.heap.size:=by rw [← hwX];simp
 rw [hwX] at x0 x1 x2 ac;have cc:=xS ad l c wX (hp.later ac).row hl;have hend:∀ w',ze wX wX w'→ze w w w':=fun w' h=>ac.trans (h.mono lf);obtain ⟨n,ag⟩:∃ n,l.length=n:=⟨_,rfl⟩;rw [ag] at hl cc ⊢;have HN:=yv ag;have CS:=yv cs;have ak:=yv hend;have aa:=yv (show w.heap.size<wX by omega);have CC:=yv cc;clear ag hp cs hF ac hend ho hn hpz ha cc;show zj prog 202 #[yz (some ad) n c,.agg #[yx yw ep,yy eo,yy en]] w _;go_enter func202,ntmps202;go_wp2_with fail;refine CC.out.mono ?_;rintro e w1 ⟨v,rfl,ab,hne,ae⟩;obtain ⟨g,cap,rfl,hg⟩:∃ g cap,v=yz (some ⟨g,0,none⟩) n cap∧wX.heap.size≤g:=by
  rcases ab.2 with ⟨e0,-⟩|⟨g,cap,cur,e0,hb,-⟩
  ·exact absurd e0 hne
  ·exact ⟨g,cap,e0,hb⟩
 have HG:=yv hg;have am:=yv ab;have an:=yv ae;clear hwX hne ab ae hg;go_wp2
 go_loopw [10] (fun i wr=>∃ k:Nat,k≤n∧i=yx yw k∧wr.ownsRow wX 90 2 (yz (some ⟨g,0,none⟩) n cap) n (l8.flat (uz l F k))∧ze wX wX wr) (fun i _=>n - (intOf i).toNat)
 case atStart=>exact ⟨0,Af _,rfl,by unfold uz;simpa [pd] using am.out,an.out⟩
 case round =>
  obtain ⟨k,hk,rfl,hown,hbel⟩:=hrel;by_cases hlt:k<n
  ·have hkl:k<l.length:=by rw [HN.out];exact hlt
   have y0:=(hbel.cell (p:=⟨w,0,none⟩) aa.out).trans x0;have y1:=(hbel.cell (p:=⟨w,1,none⟩) aa.out).trans x1;have y2:=(hbel.cell (p:=⟨w,2,none⟩) aa.out).trans x2;have hq:=GX hown k (by rw [oW];exact hkl);have hgk:(uz l F k)[k]! = l[k]! :=by rw [getElem!_def,NH l F k hkl]
   have rs:=CS.out _ (List.getElem_mem hkl);have hs:l8.flat (uz l F (k+1))=(l8.flat (uz l F k)).set (k * 2+1) (yx yw (F (l[k]!).p)):=by
    rw [FU l F k hkl];exact (LU (uz l F k) k ⟨(l[k]!).name,F (l[k]!).p⟩ (by rw [oW];exact hkl) (by rw [hgk])).symm
   rw [hgk] at hq;rw [← o6 hkl] at rs;obtain ⟨id,hie⟩:∃ x,(l[k]!).p=x:=⟨_,rfl⟩;rw [hie] at hs hq rs;obtain ⟨r,hr⟩:∃ r,F id=r:=⟨_,rfl⟩;rw [hr] at hs rs;have av:wr.drew ⟨g,k * 2+1,none⟩=some (yx yw id):=hq;have HS:=yv hs;have RS:=yv rs;have HO:=yv hown.drew;have b0:(0:Int)≤(k:Int):=lf;have b1:(k:Int)<(n:Int):=lf;clear hs rs hr al hown hgk hie hq;go_wp2_with fail;refine zn (S:=(fun w':zi=>ze wX wX w'∧w' ⟨w,0,none⟩=some (yx yw ep)∧w' ⟨w,1,none⟩=some (yy eo)∧w' ⟨w,2,none⟩=some (yy en))) lg ⟨hbel.drew,y0,y1,y2⟩ (fun hHeld=>?_);refine zo (i:=0) (v:=?_) (by simp only [zp,zq];rfl) lg lg lg (fun _ _ _ h=>by exact h) (zr ⟨lj,?_⟩) lm ?_;rotate_left
   ·(intro w hSw;(try dsimp only at hSw);go_simp;try with_reducible rfl)
   try simp only [zf,mj]
   refine ly 1 ?_;refine ly 2 ?_;refine ly 3 ?_;refine ly 4 ?_;refine ly 5 ?_;refine ly 6 ?_;refine m8 7 fun K hK=>?_;go_simp;refine hK.out _ _ ?_ (fun hHeld=>?_)
   ·exact hHeld
   clear hK K
   try simp only [zf,mj]
   refine m8 8 fun K hK=>?_;go_simp
   (go_at_call 214;refine (RS.out _).mono ?_;rintro e w3 ⟨rfl,ah⟩;have HK:=yv (QK hHeld ah aa.out);have ai:=yv (lM HO.out ah);clear ah;have cz:=GX ai.out k (by rw [oW,HN.out];exact hlt);have fz:=ai.out.frozenAt (k * 2+1))
   try go_wp2_with fail
   refine hK.out _ _ ?_ (fun hHeld=>?_)
   ·exact HK.out
   clear hK K
   try simp only [zf,mj]
   refine ly 9 ?_;refine ly 10 ?_;refine m8 11 fun K hK=>?_;go_simp;have aj:=yv (HK.out.1.setCell (p:=⟨g,k * 2+1,none⟩) HG.out (yx yw r));have ao:=yv (uS HK.out aj.out aa.out);have aq:=yv (ai.out.stored (k * 2+1) (yx yw r)).1
   try go_wp2_with fail
   refine hK.out _ _ ?_ (fun hHeld=>?_)
   ·exact ao.out
   clear hK K
   try simp only [zf,mj]
   refine zs lg ?_ _;go_wp2_with fail;go_roundw
   case rel=>exact ⟨k+1,lf,by go_num,by rw [HS.out];exact aq.out,aj.out⟩
   case measure=>simp [intOf];omega
  ·obtain rfl:k=n:=lf;have e:uz l F k=pd l F:=by
    unfold uz;rw [List.take_of_length_le (by rw [HN.out];exact zh _),zx (by rw [HN.out];exact zh _),List.append_nil]
   have hlm:(pd l F).length=k:=by rw [bJ,HN.out]
   rw [e] at hown;have af:wr.ownsRow wX 90 2 (yz (some ⟨g,0,none⟩) (pd l F).length cap) (pd l F).length (l8.flat (pd l F)):=by rw [hlm];exact hown
   obtain ⟨ad2,cp,he,hn⟩:=cK af;rw [hlm] at he;have ar:=yv hn;have HE:=yv he;have au:=yv hlm;clear hn hown hlm e af he;go_wp2;go_ret;have he:=HE.out;injection he with e1 _ e3;subst e1;subst e3;exact ⟨_,_,by rw [au.out];rfl,ar.out.more (by have:=aa.out;omega),ak.out _ hbel⟩
theorem yP (a:Option zk) (l:List l8) (c:Nat) (ep:Int) (eo en:ByteArray) (w:zi) (hp:uj w ⟨a,l,c⟩) (hl:l.length≤1000000)
 (ho:eo.size≤140737488355328) (hn:en.size≤140737488355328) (hpz:-2305843009213693952≤ep∧ep≤2305843009213693952) (ha:∀ x∈l,-2305843009213693952≤x.p∧x.p≤2305843009213693952) :
 zj prog 202 #[yz a l.length c,vj ep eo en] w (sa w (pd l (mw ep eo.size en.size))):=by
 cases a with
 | none =>
  obtain rfl:l=[]:=hp.len rfl;exact BO c ep eo en w (hp.nil rfl)
 | some ad=>exact yJ ad l c ep eo en w hp hl ho hn hpz ha
end Go.Proofs.YtbagenpobcgjnaaGreat
