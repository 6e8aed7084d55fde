/-
  Joined: MarkDev3, MarkDev4.
-/
import Derived.Test.YtbagenpobcgjnaaGreatJSq
import Derived.Test.YtbagenpobcgjnaaGreatJMarkDev
import Derived.Test.YtbagenpobcgjnaaGreatJMarkCat
import Derived.Deep.RegionHeld3
import Derived.Test.YtbagenpobcgjnaaGreatJEditDev
variable {w:Go.World}
namespace Go.Proofs.YtbagenpobcgjnaaGreat
open Go.Proofs.Tryz
set_option maxRecDepth 100000
open Lib (hid)
open Go.RowKit
set_option linter.unusedVariables false
theorem Mrks.take {B:Nat→Prop} {a:Option Addr} {l:List Mrk} (h:Mrks w B a l) (n:Nat):Mrks w B a (l.take n):=fun k hk=>by
 have hk2:k<l.length:=by rw [List.length_take] at hk;omega
 obtain ⟨ad,e,hb,q0,q1⟩:=h k hk2
 exact ⟨ad,e,hb,by rw [List.getElem_take];exact q0,by rw [List.getElem_take];exact q1⟩
theorem xR (ad:Addr) (n k:Nat):(ad.add n).add k=ad.add (n+k):=by
 unfold Addr.add
 by_cases hk:k=0
 ·subst hk;simp
 ·by_cases hn:n=0
  ·subst hn;simp [hk]
  ·simp [hk,hn];omega
theorem Mrks.drop {B:Nat→Prop} {ad:Addr} {l:List Mrk} (h:Mrks w B (some ad) l) (n:Nat):Mrks w B (some (ad.add (n * 2))) (l.drop n):=fun k hk=>by
 have hk2:n+k<l.length:=by rw [List.length_drop] at hk;omega
 obtain ⟨ad',e,hb,q0,q1⟩:=h (n+k) hk2
 obtain rfl:ad=ad':=by injection e
 have e1:(ad.add (n * 2)).add (k * 2)=ad.add ((n+k) * 2):=by rw [xR];congr 1;omega
 refine ⟨_,rfl,by rw [show (ad.add (n * 2)).block=ad.block by unfold Addr.add;split <;> rfl];exact hb,by rw [e1,List.getElem_drop];exact q0,by rw [e1,List.getElem_drop];exact q1⟩
theorem Pcs.later {W:World} {x:Pc} (h:Pcs w x) (hb:Below w.heap.size w W):Pcs W x:=⟨(h.row.below (fun _ h=>h) hb).more fun b hb2=>Nat.lt_of_lt_of_le hb2 hb.size,h.nil⟩
theorem Pcs.take {a:Option Addr} {l:List Mrk} {c:Nat} (h:Pcs w ⟨a,l,c⟩) (n:Nat):Pcs w ⟨a,l.take n,c⟩:=⟨Mrks.take h.row n,h.nil⟩
theorem cat2 {W:World} {p q:Pc} (i j:Nat) (hp:Pcs W p) (hq:Pcs W q) (hi:p.l.length=i) (hj:q.l.length=j) (hs:i+j≤1000) (t:TypeId) :
 Calls prog 180 #[.slice (some ⟨W.heap.size,0,none⟩) 2 2] (W.alloc (.cells #[.slice p.a i p.c,.slice q.a j q.c] t)) (RetMrksR (W.alloc (.cells #[.slice p.a i p.c,.slice q.a j q.c] t)) (p.l++q.l)):=by
 have hb:Below W.heap.size W (W.alloc (.cells #[.slice p.a i p.c,.slice q.a j q.c] t)):=(Below.refl W.heap.size W).alloc (Nat.le_refl _) _
 have h:=jK W.heap.size [p,q] (W.alloc (.cells #[.slice p.a i p.c,.slice q.a j q.c] t)) (by simp) (fun k hk=>by
  match k,hk with
  | 0,_=>simp [World.cell?_alloc_new,Pc.v,hi]
  | 1,_=>simp [World.cell?_alloc_new,Pc.v,hj]) (fun k hk=>by
  match k,hk with
  | 0,_=>exact hp.later hb
  | 1,_=>exact hq.later hb) (by simp) (by simp [sumP];omega)
 have e:catP [p,q]=p.l++q.l:=by simp [catP]
 rw [e] at h
 exact h
theorem cat3 {W:World} {p m q:Pc} (i n j:Nat) (hp:Pcs W p) (hm:Pcs W m) (hq:Pcs W q) (hi:p.l.length=i) (hn:m.l.length=n) (hj:q.l.length=j) (hs:i+n+j≤1000) (t:TypeId) :
 Calls prog 180 #[.slice (some ⟨W.heap.size,0,none⟩) 3 3] (W.alloc (.cells #[.slice p.a i p.c,.slice m.a n m.c,.slice q.a j q.c] t)) (RetMrksR (W.alloc (.cells #[.slice p.a i p.c,.slice m.a n m.c,.slice q.a j q.c] t)) (p.l++m.l++q.l)):=by
 have hb:Below W.heap.size W (W.alloc (.cells #[.slice p.a i p.c,.slice m.a n m.c,.slice q.a j q.c] t)):=(Below.refl W.heap.size W).alloc (Nat.le_refl _) _
 have h:=jK W.heap.size [p,m,q] (W.alloc (.cells #[.slice p.a i p.c,.slice m.a n m.c,.slice q.a j q.c] t)) (by simp) (fun k hk=>by
  match k,hk with
  | 0,_=>simp [World.cell?_alloc_new,Pc.v,hi]
  | 1,_=>simp [World.cell?_alloc_new,Pc.v,hn]
  | 2,_=>simp [World.cell?_alloc_new,Pc.v,hj]) (fun k hk=>by
  match k,hk with
  | 0,_=>exact hp.later hb
  | 1,_=>exact hm.later hb
  | 2,_=>exact hq.later hb) (by simp) (by simp [sumP];omega)
 have e:catP [p,m,q]=p.l++m.l++q.l:=by simp [catP]
 rw [e] at h
 exact h
theorem Pcs.drop {ad:Addr} {l:List Mrk} {c:Nat} (h:Pcs w ⟨some ad,l,c⟩) (n:Nat):Pcs w ⟨some (ad.add (n * 2)),l.drop n,c - n⟩:=⟨Mrks.drop h.row n,fun e=>by cases e⟩
theorem nA (w:World) (a:Addr) (c:Nat):Pcs w ⟨some a,[],c⟩:=⟨fun k hk=>absurd hk (by simp),fun e=>by cases e⟩
set_option maxHeartbeats 1600000 in
theorem nY (a:Option Addr) (l:List Mrk) (c:Nat) (s:ByteArray) (w:World) (hp:Pcs w ⟨a,l,c⟩) (hlc:l.length≤c) (hc:c≤maxLen) (hl:l.length≤40) (hri:riseM l=true) :
 Calls prog 152 #[.slice a l.length c,.string s] w (RetSetR w (drpM l s)):=by
 unfold maxLen at hc
 have hr:Mrks w (·<w.heap.size) a l:=hp.row
 have cf:=fK a l c s _ w hr (fun _ h=>h) (by omega) (fun W x _ _=>lS x W)
 by_cases hi:l.findIdx (nmB s)<l.length
 case neg =>
  have e2:drpM l s=([],8):=by unfold drpM;rw [if_neg hi]
  rw [e2]
  rw [decide_eq_false hi] at cf
  obtain ⟨n,hn⟩:∃ n,l.length=n:=⟨_,rfl⟩
  rw [hn] at cf ⊢
  obtain ⟨i,he⟩:∃ i,l.findIdx (nmB s)=i:=⟨_,rfl⟩
  rw [he] at cf
  have CF:=hid cf
  clear hr cf hi he hn e2 hp hri hlc hl
  go_enter func152,ntmps152
  go_wp2_with fail
  refine CF.out.mono ?_
  rintro e w1 ⟨rfl,ac⟩
  go_wp2
  go_ret2
  exact ⟨none,0,rfl,MrkR.none _ _,ac⟩
 have e2:drpM l s=(l.take (l.findIdx (nmB s))++l.drop (l.findIdx (nmB s)+1),0):=by unfold drpM;rw [if_pos hi,pP hri hi]
 rw [e2]
 rw [decide_eq_true hi] at cf
 obtain ⟨i,he⟩:∃ i,l.findIdx (nmB s)=i:=⟨_,rfl⟩
 rw [he] at hi cf ⊢
 obtain ⟨ad,rfl⟩:∃ ad,a=some ad:=by
  obtain ⟨ad,e,-⟩:=hr i hi
  exact ⟨ad,e⟩
 have ht:=hp.take i
 have hd:=hp.drop (i+1)
 have ah:c=i+1→l.drop (i+1)=[]:=fun h=>List.drop_eq_nil_of_le (by omega)
 have htl:(l.take i).length=i:=by rw [List.length_take];omega
 have hdl:(l.drop (i+1)).length=l.length - (i+1):=by rw [List.length_drop]
 obtain ⟨n,hn⟩:∃ n,l.length=n:=⟨_,rfl⟩
 rw [hn] at hi hl cf hlc hdl ⊢
 obtain ⟨T,hT⟩:∃ T,l.take i=T:=⟨_,rfl⟩
 obtain ⟨D,hD⟩:∃ D,l.drop (i+1)=D:=⟨_,rfl⟩
 rw [hT] at ht htl ⊢
 rw [hD] at hd ah hdl ⊢
 have CF:=hid cf;have HT:=hid ht;have HD:=hid hd;have ai:=hid ah;have ak:=hid htl;have al:=hid hdl
 clear hr cf he hn e2 hp hri ht hd ah htl hdl hT hD
 have z0:(0:Int)≤(i:Int):=by omega
 have z1:(i:Int)≤(c:Int):=by omega
 have z2:(i:Int)+1≤(n:Int):=by omega
 have z3:(0:Int)≤(i:Int)+1:=by omega
 have z4:(n:Int)≤(c:Int):=by omega
 have z5:((i:Int)+1).toNat=i+1:=by omega
 have z6:IntKind.i64.wrap ((i:Int)+1)=(i:Int)+1:=by rw [IntKind.wrap_i64];omega
 by_cases hce:c=i+1
 ·have am:n=i+1:=by omega
  have D0:=ai.out hce
  subst hce
  subst am
  subst D0
  have z7:(i:Int)≤(i:Int)+1:=by omega
  clear HD ai
  go_enter func152,ntmps152
  go_wp2_with fail
  refine CF.out.mono ?_
  rintro e w1 ⟨rfl,ac⟩
  have aa:=hid ac
  clear ac
  go_wp2_with fail
  refine wp_region_held_drew (S:=(fun w':World=>Below w.heap.size w w')) (by kernel_rfl) aa.out.drew (fun hHeld=>?_)
  refine wpAnyH_take (i:=0) (v:=?_) (by simp only [List.getElem?_toArray,List.getElem?_cons_zero];rfl) (by kernel_rfl) (by kernel_rfl) (by kernel_rfl) (fun _ _ _ h=>by exact h) (Or.inl ⟨by rfl,?_⟩) (by assumption) ?_
  rotate_left
  ·(intro w hSw;(try dsimp only at hSw);go_simp;try with_reducible rfl)
  try simp only [Act.put,sqp]
  refine sqt 1 ?_
  refine sqt 2 ?_
  refine sqt 3 ?_
  refine sqt 4 ?_
  refine sqt 5 ?_
  refine sqt 6 ?_
  refine sqr 7 fun K hK=>?_
  go_simp
  have ab:=hid (aa.out.drew.alloc aa.out.size (.cells #[.slice (some ad) i (i+1),.slice (some ad) 0 0] 22));have CC:=hid (cat2 (W:=w1.drew) (p:=⟨some ad,T,(i+1)⟩) (q:=⟨some ad,[],0⟩) i 0 (HT.out.later aa.out.drew) (nA _ _ _) ak.out rfl (by omega) 22)
  try go_wp2_with fail
  refine hK.out _ _ ?_ (fun hHeld=>?_)
  ·exact ab.out
  clear hK K
  try simp only [Act.put,sqp]
  refine sqr 8 fun K hK=>?_
  go_simp
  (go_at_call 180;refine (CC.out).mono ?_;rintro e w3 ⟨a3,c3,rfl,ae,af⟩;have ag:=hid (ab.out.trans (af.mono ab.out.size));have aj:=hid (ae.more ab.out.size);clear af ae)
  try go_wp2_with fail
  refine hK.out _ _ ?_ (fun hHeld=>?_)
  ·exact ag.out
  clear hK K
  try simp only [Act.put,sqp]
  refine sqt 9 ?_
  refine sqt 10 ?_
  refine wpAnyH_done (by kernel_rfl) ?_ _
  go_wp2_with fail
  go_ret2
  exact ⟨a3,c3,by simp,aj.out,ag.out⟩
 ·clear ai
  go_enter func152,ntmps152
  go_wp2_with fail
  refine CF.out.mono ?_
  rintro e w1 ⟨rfl,ac⟩
  have aa:=hid ac
  clear ac
  go_wp2_with fail
  refine wp_region_held_drew (S:=(fun w':World=>Below w.heap.size w w')) (by kernel_rfl) aa.out.drew (fun hHeld=>?_)
  refine wpAnyH_take (i:=0) (v:=?_) (by simp only [List.getElem?_toArray,List.getElem?_cons_zero];rfl) (by kernel_rfl) (by kernel_rfl) (by kernel_rfl) (fun _ _ _ h=>by exact h) (Or.inl ⟨by rfl,?_⟩) (by assumption) ?_
  rotate_left
  ·(intro w hSw;(try dsimp only at hSw);go_simp;try with_reducible rfl)
  try simp only [Act.put,sqp]
  refine sqt 1 ?_
  refine sqt 2 ?_
  refine sqt 3 ?_
  refine sqt 4 ?_
  refine sqt 5 ?_
  refine sqt 6 ?_
  refine sqr 7 fun K hK=>?_
  go_simp
  have ab:=hid (aa.out.drew.alloc aa.out.size (.cells #[.slice (some ad) i c,.slice (some (ad.add ((i+1) * 2))) (n - (i+1)) (c - (i+1))] 22));have CC:=hid (cat2 (W:=w1.drew) (p:=⟨some ad,T,c⟩) (q:=⟨some (ad.add ((i+1) * 2)),D,c - (i+1)⟩) i (n - (i+1)) (HT.out.later aa.out.drew) (HD.out.later aa.out.drew) ak.out al.out (by omega) 22)
  try go_wp2_with fail
  refine hK.out _ _ ?_ (fun hHeld=>?_)
  ·exact ab.out
  clear hK K
  try simp only [Act.put,sqp]
  refine sqr 8 fun K hK=>?_
  go_simp
  (go_at_call 180;refine (CC.out).mono ?_;rintro e w3 ⟨a3,c3,rfl,ae,af⟩;have ag:=hid (ab.out.trans (af.mono ab.out.size));have aj:=hid (ae.more ab.out.size);clear af ae)
  try go_wp2_with fail
  refine hK.out _ _ ?_ (fun hHeld=>?_)
  ·exact ag.out
  clear hK K
  try simp only [Act.put,sqp]
  refine sqt 9 ?_
  refine sqt 10 ?_
  refine wpAnyH_done (by kernel_rfl) ?_ _
  go_wp2_with fail
  go_ret2
  exact ⟨a3,c3,by simp,aj.out,ag.out⟩
theorem gZ (W:World) (xn:ByteArray) (xp:Int):Pcs (W.alloc (.cells #[.string xn,.int .i64 xp] 90)) ⟨some ⟨W.heap.size,0,none⟩,[⟨xn,xp⟩],1⟩:=
 ⟨fun k hk=>by
  obtain rfl:k=0:=by simpa using hk
  exact ⟨_,rfl,by simp,by simp [Addr.add,World.cell?_alloc_new],by simp [Addr.add,World.cell?_alloc_new]⟩,fun e=>by cases e⟩
set_option maxHeartbeats 1600000 in
theorem BV (a:Option Addr) (l:List Mrk) (c:Nat) (x:Mrk) (w:World) (hp:Pcs w ⟨a,l,c⟩) (hlc:l.length≤c) (hc:c≤maxLen) (hl:l.length≤40) (hx:x.name.size≤maxLen) (hm:markB x.name.data.toList=false) :
 Calls prog 151 #[.slice a l.length c,x.v] w (RetSetR w ([],7)):=by
 obtain ⟨xn,xp⟩:=x
 have cm:=bB xn hx
 rw [hm] at cm
 have CM:=hid cm;clear cm hm
 go_enter func151,ntmps151
 go_wp2_with fail
 refine (CM.out _).mono ?_
 rintro e w1 ⟨rfl,rfl⟩
 go_wp2
 go_ret2
 exact ⟨none,0,rfl,MrkR.none _ _,(Below.refl w.heap.size w).alloc (Nat.le_refl _) _⟩
theorem aY {wX w2 w3:World} {b:Nat} {x y:Value} (h:Below wX.heap.size wX w2∧w2.cell? ⟨b,0,none⟩=some x∧w2.cell? ⟨b,1,none⟩=some y) (hb:Below w2.heap.size w2 w3) (hx:b<wX.heap.size):Below wX.heap.size wX w3∧w3.cell? ⟨b,0,none⟩=some x∧w3.cell? ⟨b,1,none⟩=some y:=
 have hz:b<w2.heap.size:=Nat.lt_of_lt_of_le hx h.1.size
 ⟨h.1.trans (hb.mono h.1.size),(hb.cell (p:=⟨b,0,none⟩) hz).trans h.2.1,(hb.cell (p:=⟨b,1,none⟩) hz).trans h.2.2⟩
set_option maxHeartbeats 1600000 in
theorem KZ (a:Option Addr) (l:List Mrk) (c:Nat) (x:Mrk) (w:World) (hp:Pcs w ⟨a,l,c⟩) (hlc:l.length≤c) (hc:c≤maxLen) (hl:l.length≤40) (hx:x.name.size≤maxLen) (hri:riseM l=true) (hm:markB x.name.data.toList=true) (hi:l.findIdx (nmB x.name)<l.length) :
 Calls prog 151 #[.slice a l.length c,x.v] w (RetSetR w (withM (dropM l x.name) x,0)):=by
 rw [sX hri hi]
 unfold maxLen at hc
 obtain ⟨xn,xp⟩:=x
 have cm:=bB xn hx
 obtain ⟨wX,hwX⟩:∃ wX,w.alloc (.cells #[.string xn,.int .i64 xp] 90)=wX:=⟨_,rfl⟩
 have aj:Below w.heap.size w (w.alloc (.cells #[.string xn,.int .i64 xp] 90)):=(Below.refl w.heap.size w).alloc (Nat.le_refl _) _
 obtain ⟨x0,x1⟩:=pJ (N:=w.heap.size+1) (by omega) (Below.refl (w.heap.size+1) (w.alloc (.cells #[.string xn,.int .i64 xp] 90)))
 have aq:w.heap.size+1≤wX.heap.size:=by rw [← hwX];simp
 rw [hwX] at x0 x1 aj
 have hpX:Pcs wX ⟨a,l,c⟩:=hp.later aj
 have hr:Mrks wX (·<wX.heap.size) a l:=hpX.row
 have cf:=fK a l c xn _ wX hr (fun _ h=>h) (by omega) (fun W x _ _=>lS x W)
 have ak:=hid (fun w' (h:Below wX.heap.size wX w')=>aj.trans (h.mono (by omega)))
 have hi:l.findIdx (nmB xn)<l.length:=hi
 rw [hm] at cm
 rw [decide_eq_true hi] at cf
 show Calls _ _ _ w (RetSetR w (l.take (l.findIdx (nmB xn))++[⟨xn,xp⟩]++l.drop (l.findIdx (nmB xn)+1),0))
 obtain ⟨i,he⟩:∃ i,l.findIdx (nmB xn)=i:=⟨_,rfl⟩
 rw [he] at hi cf ⊢
 obtain ⟨ad,rfl⟩:∃ ad,a=some ad:=by
  obtain ⟨ad,e,-⟩:=hr i hi
  exact ⟨ad,e⟩
 have ht:=hpX.take i
 have hd:=hpX.drop (i+1)
 have al:c=i+1→l.drop (i+1)=[]:=fun h=>List.drop_eq_nil_of_le (by omega)
 have htl:(l.take i).length=i:=by rw [List.length_take];omega
 have hdl:(l.drop (i+1)).length=l.length - (i+1):=by rw [List.length_drop]
 obtain ⟨n,hn⟩:∃ n,l.length=n:=⟨_,rfl⟩
 rw [hn] at hi hl cf hlc hdl ⊢
 obtain ⟨T,hT⟩:∃ T,l.take i=T:=⟨_,rfl⟩
 obtain ⟨D,hD⟩:∃ D,l.drop (i+1)=D:=⟨_,rfl⟩
 rw [hT] at ht htl ⊢
 rw [hD] at hd al hdl ⊢
 have CM:=hid cm;have CF:=hid cf;have HT:=hid ht;have HD:=hid hd;have am:=hid al;have ao:=hid htl;have ar:=hid hdl;have ab:=hid (show w.heap.size<wX.heap.size by omega)
 clear cm hr cf he hn hp hpX hri ht hd al htl hdl hT hD aj aq hm hx
 have z0:(0:Int)≤(i:Int):=by omega
 have z1:(i:Int)≤(c:Int):=by omega
 have z2:(i:Int)+1≤(n:Int):=by omega
 have z3:(0:Int)≤(i:Int)+1:=by omega
 have z4:(n:Int)≤(c:Int):=by omega
 have z5:((i:Int)+1).toNat=i+1:=by omega
 have z6:IntKind.i64.wrap ((i:Int)+1)=(i:Int)+1:=by rw [IntKind.wrap_i64];omega
 by_cases hce:c=i+1
 ·have au:n=i+1:=by omega
  have D0:=am.out hce
  subst hce
  subst au
  subst D0
  have z7:(i:Int)≤(i:Int)+1:=by omega
  clear HD am
  go_enter func151,ntmps151
  go_wp2_with fail
  refine (CM.out _).mono ?_
  rintro e w0 ⟨rfl,rfl⟩
  go_wp2_with fail
  refine CF.out.mono ?_
  rintro e w1 ⟨rfl,ae⟩
  have aa:=hid ae
  clear hwX
  clear ae
  have y0:=(aa.out.cell (p:=⟨w.heap.size,0,none⟩) ab.out).trans x0
  have y1:=(aa.out.cell (p:=⟨w.heap.size,1,none⟩) ab.out).trans x1
  go_wp2_with fail
  refine wp_region_held_drew (S:=(fun w':World=>Below wX.heap.size wX w'∧w'.cell? ⟨w.heap.size,0,none⟩=some (.string xn)∧w'.cell? ⟨w.heap.size,1,none⟩=some (.int .i64 xp))) (by kernel_rfl) ⟨aa.out.drew,y0,y1⟩ (fun hHeld=>?_)
  refine wpAnyH_take (i:=0) (v:=?_) (by simp only [List.getElem?_toArray,List.getElem?_cons_zero];rfl) (by kernel_rfl) (by kernel_rfl) (by kernel_rfl) (fun _ _ _ h=>by exact h) (Or.inl ⟨by rfl,?_⟩) (by assumption) ?_
  rotate_left
  ·(intro w hSw;(try dsimp only at hSw);go_simp;try with_reducible rfl)
  try simp only [Act.put,sqp]
  refine sqt 1 ?_
  refine sqt 2 ?_
  refine sqt 3 ?_
  refine sqt 5 ?_
  refine sqt 6 ?_
  refine sqt 7 ?_
  refine sqt 8 ?_
  refine sqr 4 fun K hK=>?_
  go_simp
  have af:=hid (aY (show Below wX.heap.size wX w1.drew∧w1.drew.cell? ⟨w.heap.size,0,none⟩=some (.string xn)∧w1.drew.cell? ⟨w.heap.size,1,none⟩=some (.int .i64 xp) from ⟨aa.out.drew,y0,y1⟩) ((Below.refl w1.drew.heap.size w1.drew).alloc (Nat.le_refl _) (.cells #[.string xn,.int .i64 xp] 90)) ab.out)
  try go_wp2_with fail
  refine hK.out _ _ ?_ (fun hHeld=>?_)
  ·exact af.out
  clear hK K
  try simp only [Act.put,sqp]
  refine sqr 9 fun K hK=>?_
  go_simp
  have ac:=hid (aY af.out ((Below.refl (w1.drew.alloc (.cells #[.string xn,.int .i64 xp] 90)).heap.size (w1.drew.alloc (.cells #[.string xn,.int .i64 xp] 90))).alloc (Nat.le_refl _) (.cells #[.slice (some ad) i (i+1),.slice (some ⟨w1.drew.heap.size,0,none⟩) 1 1,.slice (some ad) 0 0] 22)) ab.out);have cc:=cat3 (W:=w1.drew.alloc (.cells #[.string xn,.int .i64 xp] 90)) (p:=⟨some ad,T,(i+1)⟩) (m:=⟨some ⟨w1.drew.heap.size,0,none⟩,[⟨xn,xp⟩],1⟩) (q:=⟨some ad,[],0⟩) i 1 0 (HT.out.later (aa.out.drew.trans (((Below.refl w1.drew.heap.size w1.drew).alloc (Nat.le_refl _) (.cells #[.string xn,.int .i64 xp] 90)).mono aa.out.drew.size))) (gZ w1.drew xn xp) (nA _ _ _) ao.out rfl rfl (by omega) 22;rw [show (w1.drew.alloc (.cells #[.string xn,.int .i64 xp] 90)).heap.size=w1.heap.size+1 by simp] at cc;have CC:=hid cc;clear cc
  try go_wp2_with fail
  refine hK.out _ _ ?_ (fun hHeld=>?_)
  ·exact ac.out
  clear hK K
  try simp only [Act.put,sqp]
  refine sqr 10 fun K hK=>?_
  go_simp
  (go_at_call 180;refine (CC.out).mono ?_;rintro e w3 ⟨a3,c3,rfl,ag,ah⟩;have ai:=hid (aY ac.out ah ab.out);have an:=hid (ag.more (b2:=w.heap.size) (by have h1:=ac.out.1.size;have h2:=ab.out;omega));clear ah ag)
  try go_wp2_with fail
  refine hK.out _ _ ?_ (fun hHeld=>?_)
  ·exact ai.out
  clear hK K
  try simp only [Act.put,sqp]
  refine sqt 11 ?_
  refine sqt 12 ?_
  refine wpAnyH_done (by kernel_rfl) ?_ _
  go_wp2_with fail
  go_ret2
  exact ⟨a3,c3,by simp,an.out,ak.out _ ai.out.1⟩
 ·clear am
  go_enter func151,ntmps151
  go_wp2_with fail
  refine (CM.out _).mono ?_
  rintro e w0 ⟨rfl,rfl⟩
  go_wp2_with fail
  refine CF.out.mono ?_
  rintro e w1 ⟨rfl,ae⟩
  have aa:=hid ae
  clear hwX
  clear ae
  have y0:=(aa.out.cell (p:=⟨w.heap.size,0,none⟩) ab.out).trans x0
  have y1:=(aa.out.cell (p:=⟨w.heap.size,1,none⟩) ab.out).trans x1
  go_wp2_with fail
  refine wp_region_held_drew (S:=(fun w':World=>Below wX.heap.size wX w'∧w'.cell? ⟨w.heap.size,0,none⟩=some (.string xn)∧w'.cell? ⟨w.heap.size,1,none⟩=some (.int .i64 xp))) (by kernel_rfl) ⟨aa.out.drew,y0,y1⟩ (fun hHeld=>?_)
  refine wpAnyH_take (i:=0) (v:=?_) (by simp only [List.getElem?_toArray,List.getElem?_cons_zero];rfl) (by kernel_rfl) (by kernel_rfl) (by kernel_rfl) (fun _ _ _ h=>by exact h) (Or.inl ⟨by rfl,?_⟩) (by assumption) ?_
  rotate_left
  ·(intro w hSw;(try dsimp only at hSw);go_simp;try with_reducible rfl)
  try simp only [Act.put,sqp]
  refine sqt 1 ?_
  refine sqt 2 ?_
  refine sqt 3 ?_
  refine sqt 5 ?_
  refine sqt 6 ?_
  refine sqt 7 ?_
  refine sqt 8 ?_
  refine sqr 4 fun K hK=>?_
  go_simp
  have af:=hid (aY (show Below wX.heap.size wX w1.drew∧w1.drew.cell? ⟨w.heap.size,0,none⟩=some (.string xn)∧w1.drew.cell? ⟨w.heap.size,1,none⟩=some (.int .i64 xp) from ⟨aa.out.drew,y0,y1⟩) ((Below.refl w1.drew.heap.size w1.drew).alloc (Nat.le_refl _) (.cells #[.string xn,.int .i64 xp] 90)) ab.out)
  try go_wp2_with fail
  refine hK.out _ _ ?_ (fun hHeld=>?_)
  ·exact af.out
  clear hK K
  try simp only [Act.put,sqp]
  refine sqr 9 fun K hK=>?_
  go_simp
  have ac:=hid (aY af.out ((Below.refl (w1.drew.alloc (.cells #[.string xn,.int .i64 xp] 90)).heap.size (w1.drew.alloc (.cells #[.string xn,.int .i64 xp] 90))).alloc (Nat.le_refl _) (.cells #[.slice (some ad) i c,.slice (some ⟨w1.drew.heap.size,0,none⟩) 1 1,.slice (some (ad.add ((i+1) * 2))) (n - (i+1)) (c - (i+1))] 22)) ab.out);have cc:=cat3 (W:=w1.drew.alloc (.cells #[.string xn,.int .i64 xp] 90)) (p:=⟨some ad,T,c⟩) (m:=⟨some ⟨w1.drew.heap.size,0,none⟩,[⟨xn,xp⟩],1⟩) (q:=⟨some (ad.add ((i+1) * 2)),D,c - (i+1)⟩) i 1 (n - (i+1)) (HT.out.later (aa.out.drew.trans (((Below.refl w1.drew.heap.size w1.drew).alloc (Nat.le_refl _) (.cells #[.string xn,.int .i64 xp] 90)).mono aa.out.drew.size))) (gZ w1.drew xn xp) (HD.out.later (aa.out.drew.trans (((Below.refl w1.drew.heap.size w1.drew).alloc (Nat.le_refl _) (.cells #[.string xn,.int .i64 xp] 90)).mono aa.out.drew.size))) ao.out rfl ar.out (by omega) 22;rw [show (w1.drew.alloc (.cells #[.string xn,.int .i64 xp] 90)).heap.size=w1.heap.size+1 by simp] at cc;have CC:=hid cc;clear cc
  try go_wp2_with fail
  refine hK.out _ _ ?_ (fun hHeld=>?_)
  ·exact ac.out
  clear hK K
  try simp only [Act.put,sqp]
  refine sqr 10 fun K hK=>?_
  go_simp
  (go_at_call 180;refine (CC.out).mono ?_;rintro e w3 ⟨a3,c3,rfl,ag,ah⟩;have ai:=hid (aY ac.out ah ab.out);have an:=hid (ag.more (b2:=w.heap.size) (by have h1:=ac.out.1.size;have h2:=ab.out;omega));clear ah ag)
  try go_wp2_with fail
  refine hK.out _ _ ?_ (fun hHeld=>?_)
  ·exact ai.out
  clear hK K
  try simp only [Act.put,sqp]
  refine sqt 11 ?_
  refine sqt 12 ?_
  refine wpAnyH_done (by kernel_rfl) ?_ _
  go_wp2_with fail
  go_ret2
  exact ⟨a3,c3,by simp,an.out,ak.out _ ai.out.1⟩
set_option maxHeartbeats 1600000 in
theorem FX (a:Option Addr) (l:List Mrk) (c:Nat) (x:Mrk) (w:World) (hp:Pcs w ⟨a,l,c⟩) (hlc:l.length≤c) (hc:c≤maxLen) (hl:l.length≤40) (hx:x.name.size≤maxLen) (hm:markB x.name.data.toList=true) (hi:¬ l.findIdx (nmB x.name)<l.length) (h16:16≤l.length) :
 Calls prog 151 #[.slice a l.length c,x.v] w (RetSetR w ([],9)):=by
 unfold maxLen at hc
 obtain ⟨xn,xp⟩:=x
 have cm:=bB xn hx
 obtain ⟨wX,hwX⟩:∃ wX,w.alloc (.cells #[.string xn,.int .i64 xp] 90)=wX:=⟨_,rfl⟩
 have aa:Below w.heap.size w (w.alloc (.cells #[.string xn,.int .i64 xp] 90)):=(Below.refl w.heap.size w).alloc (Nat.le_refl _) _
 obtain ⟨x0,x1⟩:=pJ (N:=w.heap.size+1) (by omega) (Below.refl (w.heap.size+1) (w.alloc (.cells #[.string xn,.int .i64 xp] 90)))
 have ad:w.heap.size+1≤wX.heap.size:=by rw [← hwX];simp
 rw [hwX] at x0 x1 aa
 have hpX:Pcs wX ⟨a,l,c⟩:=hp.later aa
 have hr:Mrks wX (·<wX.heap.size) a l:=hpX.row
 have cf:=fK a l c xn _ wX hr (fun _ h=>h) (by omega) (fun W x _ _=>lS x W)
 have ab:=hid (fun w' (h:Below wX.heap.size wX w')=>aa.trans (h.mono (by omega)))
 have hi:¬ l.findIdx (nmB xn)<l.length:=hi
 rw [hm] at cm
 rw [decide_eq_false hi] at cf
 obtain ⟨i,he⟩:∃ i,l.findIdx (nmB xn)=i:=⟨_,rfl⟩
 rw [he] at cf
 obtain ⟨n,hn⟩:∃ n,l.length=n:=⟨_,rfl⟩
 rw [hn] at cf h16 ⊢
 have CM:=hid cm;have CF:=hid cf
 have z0:(16:Int)≤(n:Int):=by omega
 clear cm hr cf he hn hp hpX aa hm hx hi hlc hl
 go_enter func151,ntmps151
 go_wp2_with fail
 refine (CM.out _).mono ?_
 rintro e w0 ⟨rfl,rfl⟩
 go_wp2_with fail
 refine CF.out.mono ?_
 rintro e w1 ⟨rfl,ac⟩
 go_wp2
 go_ret2
 exact ⟨none,0,rfl,MrkR.none _ _,ab.out _ ac⟩
set_option maxHeartbeats 1600000 in
theorem LB (a:Option Addr) (l:List Mrk) (c:Nat) (x:Mrk) (w:World) (hp:Pcs w ⟨a,l,c⟩) (hlc:l.length≤c) (hc:c≤maxLen) (hl:l.length≤40) (hx:x.name.size≤maxLen) (hm:markB x.name.data.toList=true) (hi:¬ l.findIdx (nmB x.name)<l.length) (h16:¬ 16≤l.length) :
 Calls prog 151 #[.slice a l.length c,x.v] w (RetSetR w (withM l x,0)):=by
 unfold maxLen at hc
 obtain ⟨xn,xp⟩:=x
 have cm:=bB xn hx
 obtain ⟨wX,hwX⟩:∃ wX,w.alloc (.cells #[.string xn,.int .i64 xp] 90)=wX:=⟨_,rfl⟩
 have am:Below w.heap.size w (w.alloc (.cells #[.string xn,.int .i64 xp] 90)):=(Below.refl w.heap.size w).alloc (Nat.le_refl _) _
 obtain ⟨x0,x1⟩:=pJ (N:=w.heap.size+1) (by omega) (Below.refl (w.heap.size+1) (w.alloc (.cells #[.string xn,.int .i64 xp] 90)))
 have ay:w.heap.size+1≤wX.heap.size:=by rw [← hwX];simp
 rw [hwX] at x0 x1 am
 have hpX:Pcs wX ⟨a,l,c⟩:=hp.later am
 have hr:Mrks wX (·<wX.heap.size) a l:=hpX.row
 have cf:=fK a l c xn _ wX hr (fun _ h=>h) (by omega) (fun W x _ _=>lS x W)
 have al:=hid (fun w' (h:Below wX.heap.size wX w')=>am.trans (h.mono (by omega)))
 have hi:¬ l.findIdx (nmB xn)<l.length:=hi
 rw [hm] at cm
 rw [decide_eq_false hi] at cf
 have cb:∀ W,Below wX.heap.size wX W→Calls prog 181 #[.slice a l.length c,.func (.func 182) #[] #[.pointer (some ⟨w.heap.size,0,none⟩)],.bool true] W fun e w'=>e=.returned (.tuple #[.int .i64 (l.findIdx (gtB xn):Nat),.bool (decide (l.findIdx (gtB xn)<l.length))])∧Below W.heap.size W w':=fun W hW =>
  sS a l c xn w.heap.size _ W (hpX.later hW).row (fun _ h=>h) (by omega) fun W2 y h2 _=>zA y xn w.heap.size W2 (by have:=hW.size;have:=h2.size;omega) (((hW.trans (h2.mono hW.size)).cell (p:=⟨w.heap.size,0,none⟩) (show w.heap.size<wX.heap.size by omega)).trans x0)
 obtain ⟨i0,he⟩:∃ i,l.findIdx (nmB xn)=i:=⟨_,rfl⟩
 rw [he] at cf
 show Calls _ _ _ w (RetSetR w (l.take (l.findIdx (gtB xn))++[⟨xn,xp⟩]++l.drop (l.findIdx (gtB xn)),0))
 have hg:=nT l (gtB xn)
 obtain ⟨i,hgi⟩:∃ i,l.findIdx (gtB xn)=i:=⟨_,rfl⟩
 rw [hgi] at hg cb ⊢
 have ht:=hpX.take i
 have hd:∀ ad,a=some ad→Pcs wX ⟨some (ad.add (i * 2)),l.drop i,c - i⟩:=fun ad e=>by subst e;exact hpX.drop i
 have ar:c=i→l.drop i=[]:=fun h=>List.drop_eq_nil_of_le (by omega)
 have hnil:a=none→l=[]∧c=0:=fun e=>⟨hpX.len e,hpX.nil e⟩
 have htl:(l.take i).length=i:=by rw [List.length_take];omega
 have hdl:(l.drop i).length=l.length - i:=by rw [List.length_drop]
 obtain ⟨q,hq⟩:∃ q,decide (i<l.length)=q:=⟨_,rfl⟩
 rw [hq] at cb
 obtain ⟨n,hn⟩:∃ n,l.length=n:=⟨_,rfl⟩
 have av:a=none→n=0:=fun e=>by rw [← hn,(hnil e).1];rfl
 have aw:a=none→c=0:=fun e=>(hnil e).2
 rw [hn] at hg hl cf cb hlc hdl h16 ⊢
 obtain ⟨T,hT⟩:∃ T,l.take i=T:=⟨_,rfl⟩
 obtain ⟨D,hD⟩:∃ D,l.drop i=D:=⟨_,rfl⟩
 rw [hT] at ht htl ⊢
 rw [hD] at hd ar hdl ⊢
 have CM:=hid cm;have CF:=hid cf;have CB:=hid cb;have HT:=hid ht;have HD:=hid hd;have an:=hid ar;have au:=hid htl;have ax:=hid hdl;have ab:=hid (show w.heap.size<wX.heap.size by omega);have ao:=hid av;have aq:=hid aw
 clear cm hr cf cb he hn hp hpX ht hd ar htl hdl hT hD am ay hm hx hi hnil hgi hq av aw
 have z0:(0:Int)≤(i:Int):=by omega
 have z1:(i:Int)≤(c:Int):=by omega
 have z2:(i:Int)≤(n:Int):=by omega
 have z4:(n:Int)≤(c:Int):=by omega
 have z8:(n:Int)<16:=by omega
 cases a with
 | none =>
  have n0:=ao.out rfl
  have c0:=aq.out rfl
  obtain rfl:i=0:=by omega
  have T0:T=[]:=List.length_eq_zero_iff.1 au.out
  have D0:D=[]:=List.length_eq_zero_iff.1 (by rw [ax.out];omega)
  subst n0
  subst c0
  subst T0
  subst D0
  have PN:=hid (fun W:World=>(show Pcs W ⟨none,[],0⟩ from ⟨fun k hk=>absurd hk (by simp),fun _=>rfl⟩))
  clear HD an ao aq z0 z1 z2 z4 z8
  go_enter func151,ntmps151
  go_wp2_with fail
  refine (CM.out _).mono ?_
  rintro e w0 ⟨rfl,rfl⟩
  go_wp2_with fail
  refine CF.out.mono ?_
  rintro e w1 ⟨rfl,ac⟩
  have aa:=hid ac
  clear hwX
  go_wp2_with fail
  refine (CB.out _ ac).mono ?_
  rintro e w2 ⟨rfl,af⟩
  have aa:=hid (ac.trans (af.mono ac.size))
  clear af
  clear ac
  have y0:=(aa.out.cell (p:=⟨w.heap.size,0,none⟩) ab.out).trans x0
  have y1:=(aa.out.cell (p:=⟨w.heap.size,1,none⟩) ab.out).trans x1
  go_wp2_with fail
  refine wp_region_held_drew (S:=(fun w':World=>Below wX.heap.size wX w'∧w'.cell? ⟨w.heap.size,0,none⟩=some (.string xn)∧w'.cell? ⟨w.heap.size,1,none⟩=some (.int .i64 xp))) (by kernel_rfl) ⟨aa.out.drew,y0,y1⟩ (fun hHeld=>?_)
  refine wpAnyH_take (i:=0) (v:=?_) (by simp only [List.getElem?_toArray,List.getElem?_cons_zero];rfl) (by kernel_rfl) (by kernel_rfl) (by kernel_rfl) (fun _ _ _ h=>by exact h) (Or.inl ⟨by rfl,?_⟩) (by assumption) ?_
  rotate_left
  ·(intro w hSw;(try dsimp only at hSw);go_simp;try with_reducible rfl)
  try simp only [Act.put,sqp]
  refine sqt 1 ?_
  refine sqt 2 ?_
  refine sqt 3 ?_
  refine sqt 5 ?_
  refine sqt 6 ?_
  refine sqt 7 ?_
  refine sqr 4 fun K hK=>?_
  go_simp
  have ag:=hid (aY (show Below wX.heap.size wX w2.drew∧w2.drew.cell? ⟨w.heap.size,0,none⟩=some (.string xn)∧w2.drew.cell? ⟨w.heap.size,1,none⟩=some (.int .i64 xp) from ⟨aa.out.drew,y0,y1⟩) ((Below.refl w2.drew.heap.size w2.drew).alloc (Nat.le_refl _) (.cells #[.string xn,.int .i64 xp] 90)) ab.out)
  try go_wp2_with fail
  refine hK.out _ _ ?_ (fun hHeld=>?_)
  ·exact ag.out
  clear hK K
  try simp only [Act.put,sqp]
  refine sqr 8 fun K hK=>?_
  go_simp
  have ae:=hid (aY ag.out ((Below.refl (w2.drew.alloc (.cells #[.string xn,.int .i64 xp] 90)).heap.size (w2.drew.alloc (.cells #[.string xn,.int .i64 xp] 90))).alloc (Nat.le_refl _) (.cells #[.slice none 0 0,.slice (some ⟨w2.drew.heap.size,0,none⟩) 1 1,.slice none 0 0] 22)) ab.out);have cc:=cat3 (W:=w2.drew.alloc (.cells #[.string xn,.int .i64 xp] 90)) (p:=⟨none,[],0⟩) (m:=⟨some ⟨w2.drew.heap.size,0,none⟩,[⟨xn,xp⟩],1⟩) (q:=⟨none,[],0⟩) 0 1 0 (PN.out _) (gZ w2.drew xn xp) (PN.out _) rfl rfl rfl (by omega) 22;rw [show (w2.drew.alloc (.cells #[.string xn,.int .i64 xp] 90)).heap.size=w2.heap.size+1 by simp] at cc;have CC:=hid cc;clear cc
  try go_wp2_with fail
  refine hK.out _ _ ?_ (fun hHeld=>?_)
  ·exact ae.out
  clear hK K
  try simp only [Act.put,sqp]
  refine sqr 9 fun K hK=>?_
  go_simp
  (go_at_call 180;refine (CC.out).mono ?_;rintro e w3 ⟨a3,c3,rfl,ah,ai⟩;have aj:=hid (aY ae.out ai ab.out);have ak:=hid (ah.more (b2:=w.heap.size) (by have h1:=ae.out.1.size;have h2:=ab.out;omega));clear ai ah)
  try go_wp2_with fail
  refine hK.out _ _ ?_ (fun hHeld=>?_)
  ·exact aj.out
  clear hK K
  try simp only [Act.put,sqp]
  refine sqt 10 ?_
  refine sqt 11 ?_
  refine wpAnyH_done (by kernel_rfl) ?_ _
  go_wp2_with fail
  go_ret2
  exact ⟨a3,c3,by simp,ak.out,al.out _ aj.out.1⟩
 | some ad =>
  have HD:=hid (HD.out ad rfl)
  by_cases hce:c=i
  ·have az:n=i:=by omega
   have D0:=an.out hce
   subst hce
   subst az
   subst D0
   clear HD an ao aq
   go_enter func151,ntmps151
   go_wp2_with fail
   refine (CM.out _).mono ?_
   rintro e w0 ⟨rfl,rfl⟩
   go_wp2_with fail
   refine CF.out.mono ?_
   rintro e w1 ⟨rfl,ac⟩
   have aa:=hid ac
   clear hwX
   go_wp2_with fail
   refine (CB.out _ ac).mono ?_
   rintro e w2 ⟨rfl,af⟩
   have aa:=hid (ac.trans (af.mono ac.size))
   clear af
   clear ac
   have y0:=(aa.out.cell (p:=⟨w.heap.size,0,none⟩) ab.out).trans x0
   have y1:=(aa.out.cell (p:=⟨w.heap.size,1,none⟩) ab.out).trans x1
   go_wp2_with fail
   refine wp_region_held_drew (S:=(fun w':World=>Below wX.heap.size wX w'∧w'.cell? ⟨w.heap.size,0,none⟩=some (.string xn)∧w'.cell? ⟨w.heap.size,1,none⟩=some (.int .i64 xp))) (by kernel_rfl) ⟨aa.out.drew,y0,y1⟩ (fun hHeld=>?_)
   refine wpAnyH_take (i:=0) (v:=?_) (by simp only [List.getElem?_toArray,List.getElem?_cons_zero];rfl) (by kernel_rfl) (by kernel_rfl) (by kernel_rfl) (fun _ _ _ h=>by exact h) (Or.inl ⟨by rfl,?_⟩) (by assumption) ?_
   rotate_left
   ·(intro w hSw;(try dsimp only at hSw);go_simp;try with_reducible rfl)
   try simp only [Act.put,sqp]
   refine sqt 1 ?_
   refine sqt 2 ?_
   refine sqt 3 ?_
   refine sqt 5 ?_
   refine sqt 6 ?_
   refine sqt 7 ?_
   refine sqr 4 fun K hK=>?_
   go_simp
   have ag:=hid (aY (show Below wX.heap.size wX w2.drew∧w2.drew.cell? ⟨w.heap.size,0,none⟩=some (.string xn)∧w2.drew.cell? ⟨w.heap.size,1,none⟩=some (.int .i64 xp) from ⟨aa.out.drew,y0,y1⟩) ((Below.refl w2.drew.heap.size w2.drew).alloc (Nat.le_refl _) (.cells #[.string xn,.int .i64 xp] 90)) ab.out)
   try go_wp2_with fail
   refine hK.out _ _ ?_ (fun hHeld=>?_)
   ·exact ag.out
   clear hK K
   try simp only [Act.put,sqp]
   refine sqr 8 fun K hK=>?_
   go_simp
   have ae:=hid (aY ag.out ((Below.refl (w2.drew.alloc (.cells #[.string xn,.int .i64 xp] 90)).heap.size (w2.drew.alloc (.cells #[.string xn,.int .i64 xp] 90))).alloc (Nat.le_refl _) (.cells #[.slice (some ad) n n,.slice (some ⟨w2.drew.heap.size,0,none⟩) 1 1,.slice (some ad) 0 0] 22)) ab.out);have cc:=cat3 (W:=w2.drew.alloc (.cells #[.string xn,.int .i64 xp] 90)) (p:=⟨some ad,T,n⟩) (m:=⟨some ⟨w2.drew.heap.size,0,none⟩,[⟨xn,xp⟩],1⟩) (q:=⟨some ad,[],0⟩) n 1 0 (HT.out.later (aa.out.drew.trans (((Below.refl w2.drew.heap.size w2.drew).alloc (Nat.le_refl _) (.cells #[.string xn,.int .i64 xp] 90)).mono aa.out.drew.size))) (gZ w2.drew xn xp) (nA _ _ _) au.out rfl rfl (by omega) 22;rw [show (w2.drew.alloc (.cells #[.string xn,.int .i64 xp] 90)).heap.size=w2.heap.size+1 by simp] at cc;have CC:=hid cc;clear cc
   try go_wp2_with fail
   refine hK.out _ _ ?_ (fun hHeld=>?_)
   ·exact ae.out
   clear hK K
   try simp only [Act.put,sqp]
   refine sqr 9 fun K hK=>?_
   go_simp
   (go_at_call 180;refine (CC.out).mono ?_;rintro e w3 ⟨a3,c3,rfl,ah,ai⟩;have aj:=hid (aY ae.out ai ab.out);have ak:=hid (ah.more (b2:=w.heap.size) (by have h1:=ae.out.1.size;have h2:=ab.out;omega));clear ai ah)
   try go_wp2_with fail
   refine hK.out _ _ ?_ (fun hHeld=>?_)
   ·exact aj.out
   clear hK K
   try simp only [Act.put,sqp]
   refine sqt 10 ?_
   refine sqt 11 ?_
   refine wpAnyH_done (by kernel_rfl) ?_ _
   go_wp2_with fail
   go_ret2
   exact ⟨a3,c3,by simp,ak.out,al.out _ aj.out.1⟩
  ·clear an ao aq
   go_enter func151,ntmps151
   go_wp2_with fail
   refine (CM.out _).mono ?_
   rintro e w0 ⟨rfl,rfl⟩
   go_wp2_with fail
   refine CF.out.mono ?_
   rintro e w1 ⟨rfl,ac⟩
   have aa:=hid ac
   clear hwX
   go_wp2_with fail
   refine (CB.out _ ac).mono ?_
   rintro e w2 ⟨rfl,af⟩
   have aa:=hid (ac.trans (af.mono ac.size))
   clear af
   clear ac
   have y0:=(aa.out.cell (p:=⟨w.heap.size,0,none⟩) ab.out).trans x0
   have y1:=(aa.out.cell (p:=⟨w.heap.size,1,none⟩) ab.out).trans x1
   go_wp2_with fail
   refine wp_region_held_drew (S:=(fun w':World=>Below wX.heap.size wX w'∧w'.cell? ⟨w.heap.size,0,none⟩=some (.string xn)∧w'.cell? ⟨w.heap.size,1,none⟩=some (.int .i64 xp))) (by kernel_rfl) ⟨aa.out.drew,y0,y1⟩ (fun hHeld=>?_)
   refine wpAnyH_take (i:=0) (v:=?_) (by simp only [List.getElem?_toArray,List.getElem?_cons_zero];rfl) (by kernel_rfl) (by kernel_rfl) (by kernel_rfl) (fun _ _ _ h=>by exact h) (Or.inl ⟨by rfl,?_⟩) (by assumption) ?_
   rotate_left
   ·(intro w hSw;(try dsimp only at hSw);go_simp;try with_reducible rfl)
   try simp only [Act.put,sqp]
   refine sqt 1 ?_
   refine sqt 2 ?_
   refine sqt 3 ?_
   refine sqt 5 ?_
   refine sqt 6 ?_
   refine sqt 7 ?_
   refine sqr 4 fun K hK=>?_
   go_simp
   have ag:=hid (aY (show Below wX.heap.size wX w2.drew∧w2.drew.cell? ⟨w.heap.size,0,none⟩=some (.string xn)∧w2.drew.cell? ⟨w.heap.size,1,none⟩=some (.int .i64 xp) from ⟨aa.out.drew,y0,y1⟩) ((Below.refl w2.drew.heap.size w2.drew).alloc (Nat.le_refl _) (.cells #[.string xn,.int .i64 xp] 90)) ab.out)
   try go_wp2_with fail
   refine hK.out _ _ ?_ (fun hHeld=>?_)
   ·exact ag.out
   clear hK K
   try simp only [Act.put,sqp]
   refine sqr 8 fun K hK=>?_
   go_simp
   have ae:=hid (aY ag.out ((Below.refl (w2.drew.alloc (.cells #[.string xn,.int .i64 xp] 90)).heap.size (w2.drew.alloc (.cells #[.string xn,.int .i64 xp] 90))).alloc (Nat.le_refl _) (.cells #[.slice (some ad) i c,.slice (some ⟨w2.drew.heap.size,0,none⟩) 1 1,.slice (some (ad.add (i * 2))) (n - i) (c - i)] 22)) ab.out);have cc:=cat3 (W:=w2.drew.alloc (.cells #[.string xn,.int .i64 xp] 90)) (p:=⟨some ad,T,c⟩) (m:=⟨some ⟨w2.drew.heap.size,0,none⟩,[⟨xn,xp⟩],1⟩) (q:=⟨some (ad.add (i * 2)),D,c - i⟩) i 1 (n - i) (HT.out.later (aa.out.drew.trans (((Below.refl w2.drew.heap.size w2.drew).alloc (Nat.le_refl _) (.cells #[.string xn,.int .i64 xp] 90)).mono aa.out.drew.size))) (gZ w2.drew xn xp) (HD.out.later (aa.out.drew.trans (((Below.refl w2.drew.heap.size w2.drew).alloc (Nat.le_refl _) (.cells #[.string xn,.int .i64 xp] 90)).mono aa.out.drew.size))) au.out rfl ax.out (by omega) 22;rw [show (w2.drew.alloc (.cells #[.string xn,.int .i64 xp] 90)).heap.size=w2.heap.size+1 by simp] at cc;have CC:=hid cc;clear cc
   try go_wp2_with fail
   refine hK.out _ _ ?_ (fun hHeld=>?_)
   ·exact ae.out
   clear hK K
   try simp only [Act.put,sqp]
   refine sqr 9 fun K hK=>?_
   go_simp
   (go_at_call 180;refine (CC.out).mono ?_;rintro e w3 ⟨a3,c3,rfl,ah,ai⟩;have aj:=hid (aY ae.out ai ab.out);have ak:=hid (ah.more (b2:=w.heap.size) (by have h1:=ae.out.1.size;have h2:=ab.out;omega));clear ai ah)
   try go_wp2_with fail
   refine hK.out _ _ ?_ (fun hHeld=>?_)
   ·exact aj.out
   clear hK K
   try simp only [Act.put,sqp]
   refine sqt 10 ?_
   refine sqt 11 ?_
   refine wpAnyH_done (by kernel_rfl) ?_ _
   go_wp2_with fail
   go_ret2
   exact ⟨a3,c3,by simp,ak.out,al.out _ aj.out.1⟩
theorem qV (a:Option Addr) (l:List Mrk) (c:Nat) (x:Mrk) (w:World) (hp:Pcs w ⟨a,l,c⟩) (hlc:l.length≤c) (hc:c≤maxLen) (hl:l.length≤40) (hx:x.name.size≤maxLen) (hri:riseM l=true) :
 Calls prog 151 #[.slice a l.length c,x.v] w (RetSetR w (setM l x)):=by
 unfold setM
 by_cases h1:markB x.name.data.toList=false
 ·rw [if_pos h1]
  exact BV a l c x w hp hlc hc hl hx h1
 rw [if_neg h1]
 have h1:markB x.name.data.toList=true:=by simpa using h1
 by_cases h2:l.findIdx (nmB x.name)<l.length
 ·rw [if_pos h2]
  exact KZ a l c x w hp hlc hc hl hx hri h1 h2
 rw [if_neg h2]
 by_cases h3:16≤l.length
 ·rw [if_pos h3]
  exact FX a l c x w hp hlc hc hl hx h1 h2 h3
 ·rw [if_neg h3]
  exact LB a l c x w hp hlc hc hl hx h1 h2 h3
set_option maxHeartbeats 1000000 in
theorem wB (ad:Addr) (l:List Mrk) (c:Nat) (w:World) (hr:Mrks w (·<w.heap.size) (some ad) l) (hl:l.length≤1000000) :
 Calls prog 91 #[.slice (some ad) l.length c] w fun e w'=>∃ v,e=.returned v∧w'.ownsRow w.heap.size 90 2 v l.length (Mrk.flat l)∧v≠.slice none 0 0∧Below w.heap.size w w':=by
 obtain ⟨i0,hi,ae,af,ag⟩:=info_parts iJ
 have q22:∀ (w:World) (a:Option Addr) (n c n' c':Nat),(binOp .eql 22 (.slice a n c) (.slice none n' c')).run prog w=.ok (.bool a.isNone) w:=fun w a n c n' c'=>Lib.run_eql_slice_nil w _ _ a n c n' c' underlying22
 have ab:=Lib.hid (rJ hr);have aa:=Lib.hid (Mrk.flat_len l);have ac:=Lib.hid (tU l)
 obtain ⟨n,hn⟩:∃ n,l.length=n:=⟨_,rfl⟩
 rw [hn] at hl aa ⊢
 obtain ⟨F,hF⟩:∃ F,Mrk.flat l=F:=⟨_,rfl⟩
 rw [hF] at ab aa ac ⊢
 clear hr hn hF
 go_enter func91,ntmps91
 go_wp2_with (at_builtin;refine wpList_append_own _ rfl _ _ 22 rfl w.heap.size 90 i0 _ 2 24 underlying22 hi ae af ag rfl (by decide) _ _ _ rfl (World.ownsRow_made w #[] 0 (Nat.le_refl _) (Nat.zero_le _) (by simp)) ad n c F rfl aa.out (fun j u hj=>Lib.cell?_alloc_some _ (ab.out j u hj)) ac.out (by unfold maxLen;omega) (by omega) (by simp) ?_)
 intro v' w1 hown hgrow hnil
 go_wp2
 go_ret
 refine ⟨v',rfl,by simpa using hown,?_,?_⟩
 ·exact hnil
 ·exact ((Below.refl _ w).alloc (Nat.le_refl _) _).grown hgrow (by simp) (by intro k hk;simp [Value.ownBlock] at hk;omega)
theorem BH (w:World):Calls prog 91 #[.slice none 0 0] w fun e w'=>e=.returned (.slice none 0 0)∧w'=w:=by
 have h:=AnyE.slices_Clone_nil Tryz.mkClone 0 0 w
 change Calls prog 91 _ _ _ at h
 exact h
def mixM (l:List Mrk) (F:Int→Int) (k:Nat):List Mrk:=shfM (l.take k) F++l.drop k
theorem nC (l:List Mrk) (F:Int→Int) (k:Nat):(mixM l F k).length=l.length:=by
 unfold mixM
 rw [List.length_append,bT,← List.length_append,List.take_append_drop]
theorem MF (l:List Mrk) (F:Int→Int) (k:Nat) (h:k<l.length):(mixM l F k)[k]? = some l[k]! :=by
 unfold mixM
 rw [List.getElem?_append_right (by rw [bT,List.length_take];omega),bT,List.length_take,Nat.min_eq_left (by omega),Nat.sub_self,List.getElem?_drop,Nat.add_zero,List.getElem?_eq_getElem h,mget h]
theorem BZ (l:List Mrk) (F:Int→Int) (k:Nat) (h:k<l.length):mixM l F (k+1)=(mixM l F k).set k ⟨(l[k]!).name,F (l[k]!).p⟩:=by
 unfold mixM
 have hl:(shfM (l.take k) F).length=k:=by rw [bT,List.length_take];omega
 rw [GD l F k h,List.set_append_right _ _ (by rw [hl];exact Nat.le_refl _),hl,Nat.sub_self,List.append_assoc]
 congr 1
 rw [List.drop_eq_getElem_cons h,List.set_cons_zero]
 rfl
theorem JZ (l:List Mrk) (k:Nat) (x:Mrk) (h:k<l.length) (hx:x.name=(l[k]!).name):(Mrk.flat l).set (k * 2+1) (.int .i64 x.p)=Mrk.flat (l.set k x):=by
 induction l generalizing k with
 | nil=>simp at h
 | cons a r ih =>
  have e:∀ y:Mrk,∀ s,Mrk.flat (y::s)=.string y.name::.int .i64 y.p::Mrk.flat s:=fun y s=>by simp [Mrk.flat]
  cases k with
  | zero =>
   have hx:x.name=a.name:=hx
   rw [e,List.set_cons_zero,e,hx]
   rfl
  | succ k =>
   have e2:(a::r).set (k+1) x=a::r.set k x:=rfl
   rw [e2,e,e,show (k+1) * 2+1=k * 2+1+1+1 by omega,List.set_cons_succ,List.set_cons_succ,ih k (by simpa using h) (by simpa using hx)]
theorem BX {base g cap:Nat} {t:TypeId} {n:Nat} {l:List Mrk} (h:w.ownsRow base t 2 (.slice (some ⟨g,0,none⟩) n cap) n (Mrk.flat l)) (k:Nat) (hk:k<l.length):w.cell? ⟨g,k * 2+1,none⟩=some (.int .i64 (l[k]!).p):=by
 have hl:l.length=n:=by have:=h.1;rw [Mrk.flat_len] at this;omega
 rw [h.cellAt (k * 2+1) (by omega),(Mrk.flat_get l k hk).2,mget hk]
section
variable {wX w2 w3 : World} {b : Nat} {z u v : Value}
theorem uH (h:Below wX.heap.size wX w2∧w2.cell? ⟨b,0,none⟩=some z∧w2.cell? ⟨b,1,none⟩=some u∧w2.cell? ⟨b,2,none⟩=some v) (hb:Below wX.heap.size wX w3) (hx:b<wX.heap.size) :
 Below wX.heap.size wX w3∧w3.cell? ⟨b,0,none⟩=some z∧w3.cell? ⟨b,1,none⟩=some u∧w3.cell? ⟨b,2,none⟩=some v:=by
 have g:∀ p:Addr,p.block<wX.heap.size→w3.cell? p=w2.cell? p:=fun p hp=>(hb.cell hp).trans (h.1.cell hp).symm
 exact ⟨hb,(g _ hx).trans h.2.1,(g _ hx).trans h.2.2.1,(g _ hx).trans h.2.2.2⟩
theorem NS (h:Below wX.heap.size wX w2∧w2.cell? ⟨b,0,none⟩=some z∧w2.cell? ⟨b,1,none⟩=some u∧w2.cell? ⟨b,2,none⟩=some v) (hb:Below w2.heap.size w2 w3) (hx:b<wX.heap.size) :
 Below wX.heap.size wX w3∧w3.cell? ⟨b,0,none⟩=some z∧w3.cell? ⟨b,1,none⟩=some u∧w3.cell? ⟨b,2,none⟩=some v:=uH h (h.1.trans (hb.mono h.1.size)) hx
end
set_option maxHeartbeats 800000 in
theorem BC (c:Nat) (ep:Int) (eo en:ByteArray) (w:World) (hc:c=0):Calls prog 202 #[.slice none 0 c,edV ep eo en] w (RetMrksR w []):=by
 subst hc
 show Calls prog 202 #[.slice none 0 0,.agg #[.int .i64 ep,.string eo,.string en]] w _
 go_enter func202,ntmps202
 go_wp2_with fail
 refine (BH _).mono ?_
 rintro e w1 ⟨rfl,rfl⟩
 go_wp2
 refine wp_loop_rounds 1 ?_
 rw [rounds_succ]
 go_wp2
 go_ret
 exact ⟨none,0,rfl,MrkR.none _ _,(Below.refl w.heap.size w).alloc (Nat.le_refl _) _⟩
set_option maxHeartbeats 1600000 in
theorem wO (ad:Addr) (l:List Mrk) (c:Nat) (ep:Int) (eo en:ByteArray) (w:World) (hp:Pcs w ⟨some ad,l,c⟩) (hl:l.length≤1000000)
 (ho:eo.size≤140737488355328) (hn:en.size≤140737488355328) (hpz:-2305843009213693952≤ep∧ep≤2305843009213693952) (ha:∀ x∈l,-2305843009213693952≤x.p∧x.p≤2305843009213693952) :
 Calls prog 202 #[.slice (some ad) l.length c,edV ep eo en] w (RetMrksR w (shfM l (shiftI ep eo.size en.size))):=by
 have cs:=fun x (hx:x∈l)=>DM ep x.p eo en ho hn hpz (ha x hx)
 obtain ⟨F,hF⟩:∃ F,shiftI ep eo.size en.size=F:=⟨_,rfl⟩
 rw [hF] at cs ⊢
 obtain ⟨wX,hwX⟩:∃ wX,w.alloc (.cells #[.int .i64 ep,.string eo,.string en] 92)=wX:=⟨_,rfl⟩
 have ac:Below w.heap.size w (w.alloc (.cells #[.int .i64 ep,.string eo,.string en] 92)):=(Below.refl w.heap.size w).alloc (Nat.le_refl _) _
 obtain ⟨x0,x1,x2⟩:=OW (N:=w.heap.size+1) (by omega) (Below.refl (w.heap.size+1) (w.alloc (.cells #[.int .i64 ep,.string eo,.string en] 92)))
 have al:w.heap.size+1≤wX.heap.size:=by rw [← hwX];simp
 rw [hwX] at x0 x1 x2 ac
 have cc:=wB ad l c wX (hp.later ac).row hl
 have hend:∀ w',Below wX.heap.size wX w'→Below w.heap.size w w':=fun w' h=>ac.trans (h.mono (by omega))
 obtain ⟨n,ag⟩:∃ n,l.length=n:=⟨_,rfl⟩
 rw [ag] at hl cc ⊢
 have HN:=Lib.hid ag;have CS:=Lib.hid cs;have ak:=Lib.hid hend;have aa:=Lib.hid (show w.heap.size<wX.heap.size by omega);have CC:=Lib.hid cc
 clear ag hp cs hF ac hend ho hn hpz ha cc
 show Calls prog 202 #[.slice (some ad) n c,.agg #[.int .i64 ep,.string eo,.string en]] w _
 go_enter func202,ntmps202
 go_wp2_with fail
 refine CC.out.mono ?_
 rintro e w1 ⟨v,rfl,ab,hne,ae⟩
 obtain ⟨g,cap,rfl,hg⟩:∃ g cap,v=.slice (some ⟨g,0,none⟩) n cap∧wX.heap.size≤g:=by
  rcases ab.2 with ⟨e0,-⟩|⟨g,cap,cur,e0,hb,-⟩
  ·exact absurd e0 hne
  ·exact ⟨g,cap,e0,hb⟩
 have HG:=Lib.hid hg
 have am:=Lib.hid ab;have an:=Lib.hid ae
 clear hwX hne ab ae hg
 go_wp2
 go_loopw [10] (fun i wr=>∃ k:Nat,k≤n∧i=.int .i64 k∧wr.ownsRow wX.heap.size 90 2 (.slice (some ⟨g,0,none⟩) n cap) n (Mrk.flat (mixM l F k))∧Below wX.heap.size wX wr) (fun i _=>n - (intOf i).toNat)
 case atStart=>exact ⟨0,Nat.zero_le _,rfl,by unfold mixM;simpa [shfM] using am.out,an.out⟩
 case round =>
  obtain ⟨k,hk,rfl,hown,hbel⟩:=hrel
  by_cases hlt:k<n
  ·have hkl:k<l.length:=by rw [HN.out];exact hlt
   have y0:=(hbel.cell (p:=⟨w.heap.size,0,none⟩) aa.out).trans x0
   have y1:=(hbel.cell (p:=⟨w.heap.size,1,none⟩) aa.out).trans x1
   have y2:=(hbel.cell (p:=⟨w.heap.size,2,none⟩) aa.out).trans x2
   have hq:=BX hown k (by rw [nC];exact hkl)
   have hgk:(mixM l F k)[k]! = l[k]! :=by rw [getElem!_def,MF l F k hkl]
   have rs:=CS.out _ (List.getElem_mem hkl)
   have hs:Mrk.flat (mixM l F (k+1))=(Mrk.flat (mixM l F k)).set (k * 2+1) (.int .i64 (F (l[k]!).p)):=by
    rw [BZ l F k hkl]
    exact (JZ (mixM l F k) k ⟨(l[k]!).name,F (l[k]!).p⟩ (by rw [nC];exact hkl) (by rw [hgk])).symm
   rw [hgk] at hq
   rw [← mget hkl] at rs
   obtain ⟨id,hid⟩:∃ x,(l[k]!).p=x:=⟨_,rfl⟩
   rw [hid] at hs hq rs
   obtain ⟨r,hr⟩:∃ r,F id=r:=⟨_,rfl⟩
   rw [hr] at hs rs
   have av:wr.drew.cell? ⟨g,k * 2+1,none⟩=some (.int .i64 id):=hq
   have HS:=Lib.hid hs;have RS:=Lib.hid rs;have HO:=Lib.hid hown.drew
   have b0:(0:Int)≤(k:Int):=by omega
   have b1:(k:Int)<(n:Int):=by omega
   clear hs rs hr al hown hgk hid hq
   go_wp2_with fail
   refine wp_region_held_drew (S:=(fun w':World=>Below wX.heap.size wX w'∧w'.cell? ⟨w.heap.size,0,none⟩=some (.int .i64 ep)∧w'.cell? ⟨w.heap.size,1,none⟩=some (.string eo)∧w'.cell? ⟨w.heap.size,2,none⟩=some (.string en))) (by kernel_rfl) ⟨hbel.drew,y0,y1,y2⟩ (fun hHeld=>?_)
   refine wpAnyH_take (i:=0) (v:=?_) (by simp only [List.getElem?_toArray,List.getElem?_cons_zero];rfl) (by kernel_rfl) (by kernel_rfl) (by kernel_rfl) (fun _ _ _ h=>by exact h) (Or.inl ⟨by rfl,?_⟩) (by assumption) ?_
   rotate_left
   ·(intro w hSw;(try dsimp only at hSw);go_simp;try with_reducible rfl)
   try simp only [Act.put,sqp]
   refine sqt 1 ?_
   refine sqt 2 ?_
   refine sqt 3 ?_
   refine sqt 4 ?_
   refine sqt 5 ?_
   refine sqt 6 ?_
   refine sqr 7 fun K hK=>?_
   go_simp
   refine hK.out _ _ ?_ (fun hHeld=>?_)
   ·exact hHeld
   clear hK K
   try simp only [Act.put,sqp]
   refine sqr 8 fun K hK=>?_
   go_simp
   (go_at_call 214;refine (RS.out _).mono ?_;rintro e w3 ⟨rfl,ah⟩;have HK:=Lib.hid (NS hHeld ah aa.out);have ai:=Lib.hid (kY HO.out ah);clear ah;have cz:=BX ai.out k (by rw [nC,HN.out];exact hlt);have fz:=ai.out.frozenAt (k * 2+1))
   try go_wp2_with fail
   refine hK.out _ _ ?_ (fun hHeld=>?_)
   ·exact HK.out
   clear hK K
   try simp only [Act.put,sqp]
   refine sqt 9 ?_
   refine sqt 10 ?_
   refine sqr 11 fun K hK=>?_
   go_simp
   have aj:=Lib.hid (HK.out.1.setCell (p:=⟨g,k * 2+1,none⟩) HG.out (.int .i64 r));have ao:=Lib.hid (uH HK.out aj.out aa.out);have aq:=Lib.hid (ai.out.stored (k * 2+1) (.int .i64 r)).1
   try go_wp2_with fail
   refine hK.out _ _ ?_ (fun hHeld=>?_)
   ·exact ao.out
   clear hK K
   try simp only [Act.put,sqp]
   refine wpAnyH_done (by kernel_rfl) ?_ _
   go_wp2_with fail
   go_roundw
   case rel=>exact ⟨k+1,by omega,by go_num,by rw [HS.out];exact aq.out,aj.out⟩
   case measure=>simp [intOf];omega
  ·obtain rfl:k=n:=by omega
   have e:mixM l F k=shfM l F:=by
    unfold mixM
    rw [List.take_of_length_le (by rw [HN.out];exact Nat.le_refl _),List.drop_eq_nil_of_le (by rw [HN.out];exact Nat.le_refl _),List.append_nil]
   have hlm:(shfM l F).length=k:=by rw [bT,HN.out]
   rw [e] at hown
   have af:wr.ownsRow wX.heap.size 90 2 (.slice (some ⟨g,0,none⟩) (shfM l F).length cap) (shfM l F).length (Mrk.flat (shfM l F)):=by rw [hlm];exact hown
   obtain ⟨ad2,cp,he,hn⟩:=pR af
   rw [hlm] at he
   have ar:=Lib.hid hn;have HE:=Lib.hid he;have au:=Lib.hid hlm
   clear hn hown hlm e af he
   go_wp2
   go_ret
   have he:=HE.out
   injection he with e1 _ e3
   subst e1
   subst e3
   exact ⟨_,_,by rw [au.out];rfl,ar.out.more (by have:=aa.out;omega),ak.out _ hbel⟩
theorem wA (a:Option Addr) (l:List Mrk) (c:Nat) (ep:Int) (eo en:ByteArray) (w:World) (hp:Pcs w ⟨a,l,c⟩) (hl:l.length≤1000000)
 (ho:eo.size≤140737488355328) (hn:en.size≤140737488355328) (hpz:-2305843009213693952≤ep∧ep≤2305843009213693952) (ha:∀ x∈l,-2305843009213693952≤x.p∧x.p≤2305843009213693952) :
 Calls prog 202 #[.slice a l.length c,edV ep eo en] w (RetMrksR w (shfM l (shiftI ep eo.size en.size))):=by
 cases a with
 | none =>
  obtain rfl:l=[]:=hp.len rfl
  exact BC c ep eo en w (hp.nil rfl)
 | some ad=>exact wO ad l c ep eo en w hp hl ho hn hpz ha
end Go.Proofs.YtbagenpobcgjnaaGreat
