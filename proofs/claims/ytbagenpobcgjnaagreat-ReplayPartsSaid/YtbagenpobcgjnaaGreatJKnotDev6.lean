/-
  Joined: KnotDev6, WeldLay.
-/
import Derived.Test.YtbagenpobcgjnaaGreatJKnotDev4
import Derived.Test.YtbagenpobcgjnaaGreatJStrs
import Derived.Carry
import Derived.Laws.StructEq
import Derived.ChangeKeysEq
import Derived.Test.YtbagenpobcgjnaaGreatJSq
import Derived.Test.YtbagenpobcgjnaaGreatJOpenOps
import Derived.Deep.RegionHeld3
import Derived.Deep.AppendLies
variable {L:List ByteArray} {S:List Nat} {b base c g h n:Nat} {w w':Go.World}
namespace Go.Proofs.YtbagenpobcgjnaaGreat
open Go.RowKit
set_option linter.unusedVariables false
set_option linter.unusedSimpArgs false
open Go.Proofs.Tryz
set_option maxRecDepth 100000
open Lib (hid)
def Off (S:List Nat) (w:World) (i:Nat):Prop:=i<w.heap.size∧i ∉ S
def InS (S:List Nat) (w:World):Prop:=∀ m∈S,m<w.heap.size
theorem InS.on (h:InS S w) (hs:w.heap.size≤w'.heap.size):InS S w':=fun m hm=>Nat.lt_of_lt_of_le (h m hm) hs
theorem Off.on {i:Nat} (h:Off S w i) (hs:w.heap.size≤w'.heap.size):Off S w' i:=⟨Nat.lt_of_lt_of_le h.1 hs,h.2⟩
theorem xD {i:Nat} (hS:InS S w) (h1:w.heap.size≤i) (h2:i<w'.heap.size):Off S w' i:=⟨h2,fun g=>by have:=hS i g;omega⟩
theorem KnotW.later (k:KnotW w (Off S w) h b L) (hb:Below w.heap.size w w'):KnotW w' (Off S w') h b L:=
 (k.below hb fun _ h=>h.1).weak fun i hi=>hi.on hb.size
theorem KnotW.apartS (k:KnotW w (Off S w) h b L) (ha:Apart S w w'):KnotW w' (Off S w') h b L:=
 (k.keep ha.size fun i hi=>ha.block i hi.1 hi.2).weak fun i hi=>hi.on ha.size
theorem KnotN.made {K:List Kid} (n:KnotN w' (Off S w) h b K g c) (hS:InS S w) (hb:w.heap.size≤b) (hg:w.heap.size≤g) (hs:w.heap.size≤w'.heap.size):KnotW w' (Off S w') (h+1) b (flat K):=
 n.knot (fun i hi=>hi.on hs) (xD hS hb n.blk.lt) (xD hS hg n.row.1)
def RetOwn (w:World) (K:List Kid) (e:Ending) (w':World):Prop:=∃ v,e=.returned v∧w'.ownsRow w.heap.size 128 1 v K.length (ptrs K)∧Below w.heap.size w w'
theorem BB {o:Nat} {l:List Value} (hl:l.length=n) (hn:n≤1000000) (hr:PRow w g o l) (h1:∀ u∈l,u.oneCell'=true) :
 Calls prog 212 #[.slice (some ⟨g,o,none⟩) n c] w fun e w'=>∃ v',e=.returned v'∧w'.ownsRow w.heap.size 128 1 v' n l∧Below w.heap.size w w':=by
 obtain ⟨i0,hi,aa,ab,ac⟩:=info_parts cJ
 refine (AnyE.slices_Clone Tryz.knClone i0 (.pointer none) 1 8 hi aa ab ac rfl (by decide) (fun w=>by exact Tryz.sizeOf128 w) g o n c l w (by omega) (by unfold maxLen;omega) (by omega) (fun j u hj=>?_) h1).mono ?_
 ·obtain ⟨ad,rfl⟩:=List.getElem?_eq_some_iff.1 hj
  exact hr.2 j ad
 ·rintro e w' ⟨v',rfl,hown,hne,hb⟩
  exact ⟨v',rfl,hown,hb⟩
theorem LS {B:Nat→Prop} {K:List Kid} (hk:KnotN w B h b K g c) :
 Calls prog 208 #[pv b] w (RetOwn w K):=by
 obtain ⟨-,-,-,-,-,-,c6⟩:=Blk.seven hk.blk
 have h8:=hk.eight
 have ck:=BB (c:=c) (aP K) (by omega) hk.row (gF K)
 have CK:=hid ck
 obtain ⟨n,hn⟩:∃ n,K.length=n:=⟨_,rfl⟩
 have HN:=hid hn
 rw [hn] at c6 CK
 clear ck hk hn h8
 go_enter func208,ntmps208
 go_wp2_with fail
 refine CK.out.mono ?_;rintro e w1 ⟨v',rfl,ho,hb⟩
 have HQ:=hid (And.intro ho hb)
 clear ho hb
 go_wp2
 go_ret
 exact ⟨v',rfl,by rw [HN.out];exact HQ.out.1,HQ.out.2⟩
set_option maxHeartbeats 800000 in
theorem dF {K:List Kid} (hk:KnotN w (Off S w) h b K g c) (hh:h≤900) :
 Calls prog 192 #[pv b] w (RetOwn w K):=by
 have ck:=LS hk
 have h2:=hk.two
 have h8:=hk.eight
 obtain ⟨n,hn⟩:∃ n,K.length=n:=⟨_,rfl⟩
 rw [hn] at h2 h8
 have CK:=hid ck;have HK:=hid hk;have HN:=hid hn
 clear ck hk hn
 go_enter func192,ntmps192
 go_wp2_with fail
 refine CK.out.mono ?_;rintro e w1 ⟨v',rfl,ho,ab⟩
 obtain ⟨g',c',rfl,hc',hg',hr⟩:=bF ho (by rw [HN.out];omega)
 rw [HN.out] at hc' ho ⊢
 have HO:=hid ho;have aa:=hid ab;have HR:=hid hr
 clear ho ab hr hg'
 go_wp2
 go_loopw [10] (fun i wr=>∃ k:Nat,k≤n∧i=.int .i64 k∧Below w1.heap.size w1 wr) (fun i _=>n - (intOf i).toNat)
 case atStart=>exact ⟨0,Nat.zero_le _,rfl,Below.refl _ _⟩
 case round =>
  obtain ⟨k,hkn,rfl,hbel⟩:=hrel
  by_cases hlt:k<n
  ·have hkl:k<K.length:=by rw [HN.out];exact hlt
   have hbw:=aa.out.trans (hbel.mono aa.out.size)
   have q0:=(HR.out.on hbel).2 k (by rw [aP];exact hkl)
   rw [show (ptrs K)[k]'(by rw [aP];exact hkl)=pv K[k].b by simp [ptrs],Nat.zero_add] at q0
   have kk:=(((HK.out.kids K[k] (List.getElem_mem hkl)).later hbw).hgt (by omega)).later
   have kb:=(Hgt.on (.inr ⟨b,_,_,_,_,_,_,_,_,rfl,by omega,by omega,by omega,HK.out.blk⟩:Hgt w (some ⟨b,0,none⟩) ((h:Int)+1)) hbw).later
   obtain ⟨bk,hbk⟩:∃ bk,K[k].b=bk:=⟨_,rfl⟩
   rw [hbk] at q0 kk
   have HB:=hid hbel
   have KK:=hid kk;have KB:=hid kb
   clear hbel kk kb hbk hkl hbw
   go_wp2_with fail
   refine (KK.out _ (Below.refl _ _)).mono ?_;rintro e w2 ⟨rfl,ac⟩
   have ae:=hid ac
   clear ac
   go_wp2_with fail
   refine (KB.out _ ae.out).mono ?_;rintro e w3 ⟨rfl,ad⟩
   have af:=hid ad
   clear ad
   go_wp2
   go_roundw
   case rel=>exact ⟨k+1,by omega,by go_num,HB.out.trans (af.out.mono HB.out.size)⟩
   case measure=>simp [intOf];omega
  ·obtain rfl:k=n:=by omega
   have HB:=hid hbel
   clear hbel
   go_wp2
   go_ret
   exact ⟨_,rfl,by rw [HN.out];exact bW HO.out HB.out,aa.out.trans (HB.out.mono aa.out.size)⟩
set_option maxHeartbeats 800000 in
theorem DI (w:World):Calls prog 192 #[.pointer none] w fun e w'=>e=.returned (.slice none 0 0)∧Below w.heap.size w w':=by
 have ck:=LG w
 have CK:=hid ck
 clear ck
 go_enter func192,ntmps192
 go_wp2_with fail
 refine CK.out.mono ?_;rintro e w1 ⟨rfl,aa⟩
 have ab:=hid aa
 clear aa
 go_wp2
 go_loopw [10] (fun i wr=>i=.int .i64 0∧wr=w1) (fun i _=>0)
 case atStart=>exact ⟨rfl,rfl⟩
 case round =>
  obtain ⟨rfl,rfl⟩:=hrel
  go_wp2
  go_ret
  exact ⟨rfl,ab.out⟩
set_option maxHeartbeats 800000 in
theorem fO (hk:KnotW w (Off S w) 0 b L) :
 Calls prog 192 #[pv b] w fun e w'=>e=.returned (.slice none 0 0)∧Below w.heap.size w w':=by
 obtain ⟨-,s,-,-,hB⟩:=hk
 have ck:=FD hB
 have CK:=hid ck
 clear ck hB
 go_enter func192,ntmps192
 go_wp2_with fail
 refine CK.out.mono ?_;rintro e w1 ⟨rfl,aa⟩
 have ab:=hid aa
 clear aa
 go_wp2
 go_loopw [10] (fun i wr=>i=.int .i64 0∧wr=w1) (fun i _=>0)
 case atStart=>exact ⟨rfl,rfl⟩
 case round =>
  obtain ⟨rfl,rfl⟩:=hrel
  go_wp2
  go_ret
  exact ⟨rfl,ab.out⟩
def RetKids (S:List Nat) (w:World) (h:Nat) (L:List ByteArray) (e:Ending) (w':World):Prop:=
 ∃ (r c:Nat) (K:List Kid),e=.returned (.slice (some ⟨r,0,none⟩) K.length c)∧w'.ownsRow w.heap.size 128 1 (.slice (some ⟨r,0,none⟩) K.length c) K.length (ptrs K)∧1≤K.length∧K.length≤2∧flat K=L∧(∀ k∈K,KnotW w' (Off (r::S) w') h k.b k.L)∧Below w.heap.size w w'
theorem KnotW.beside {r:Nat} (k:KnotW w (Off S w) h b L) (hb:Below w.heap.size w w') (hr:w.heap.size≤r):KnotW w' (Off (r::S) w') h b L:=
 (k.below hb fun _ h=>h.1).weak fun i hi=>⟨Nat.lt_of_lt_of_le hi.1 hb.size,fun g=>by
  rcases List.mem_cons.1 g with rfl|g
  ·have:=hi.1;omega
  ·exact hi.2 g⟩
theorem NJ {w1:World} (hb:Below w.heap.size w w1) (k:KnotW w1 (Off S w1) h b L) :
 RetKids S w h L (.returned (.slice (some ⟨w1.heap.size,0,none⟩) 1 1)) (w1.alloc (.cells #[pv b] 128)):=
 ⟨w1.heap.size,1,[⟨b,L⟩],rfl,World.ownsRow_lit w1 #[pv b] 1 hb.size (by decide) rfl,Nat.le_refl _,by simp,by simp [flat],fun x hx=>by
  rw [List.mem_singleton.1 hx]
  exact k.beside ((Below.refl _ _).alloc (Nat.le_refl _) _) (Nat.le_refl _),hb.alloc hb.size _⟩
theorem tQ {w1:World} {b':Nat} {L':List ByteArray} (hb:Below w.heap.size w w1) (k:KnotW w1 (Off S w1) h b L) (k':KnotW w1 (Off S w1) h b' L') :
 RetKids S w h (L++L') (.returned (.slice (some ⟨w1.heap.size,0,none⟩) 2 2)) (w1.alloc (.cells #[pv b,pv b'] 128)):=
 ⟨w1.heap.size,2,[⟨b,L⟩,⟨b',L'⟩],rfl,World.ownsRow_lit w1 #[pv b,pv b'] 2 hb.size (by decide) rfl,by simp,by simp,by simp [flat],fun x hx=>by
  simp at hx
  rcases hx with rfl|rfl
  ·exact k.beside ((Below.refl _ _).alloc (Nat.le_refl _) _) (Nat.le_refl _)
  ·exact k'.beside ((Below.refl _ _).alloc (Nat.le_refl _) _) (Nat.le_refl _),hb.alloc hb.size _⟩
theorem tX {base' size:Nat} {t:TypeId} {v:Value} {xs:List Value} (h:w.ownsRow base t size v n xs) (hb:base'≤base):w.ownsRow base' t size v n xs:=by
 refine ⟨h.1,?_⟩
 rcases h.2 with h2|⟨g,cap,cur,hv,aa,hr⟩
 ·exact .inl h2
 ·exact .inr ⟨g,cap,cur,hv,Nat.le_trans hb aa,hr⟩
theorem IW {k:Nat} {t:TypeId} {xs:List Value} (h:w.ownsRow base t 1 (.slice (some ⟨g,0,none⟩) n c) n xs) (hk:k≤n):w.ownsRow base t 1 (.slice (some ⟨g,0,none⟩) k c) k (xs.take k):=by
 have h1:=h.1
 refine ⟨by rw [List.length_take];omega,?_⟩
 rcases h.2 with ⟨h2,-⟩|⟨g',cap,cur,hv,aa,hg,hc,hm,hs,ht⟩
 ·simp at h2
 ·simp only [Value.slice.injEq,Option.some.injEq,Addr.mk.injEq,and_true,true_and] at hv
  obtain ⟨rfl,rfl⟩:=hv
  refine .inr ⟨g,c,cur,rfl,aa,hg,by omega,hm,hs,?_⟩
  rw [← ht,List.take_take,Nat.min_eq_left (by omega),Nat.mul_one]
theorem RetKids.from {w1:World} {e:Ending} (r:RetKids S w1 h L e w') (hb:Below w.heap.size w w1):RetKids S w h L e w':=by
 obtain ⟨r,c,K,h1,h2,h3,h4,h5,h6,h7⟩:=r
 exact ⟨r,c,K,h1,tX h2 hb.size,h3,h4,h5,h6,hb.trans (h7.mono hb.size)⟩
theorem mL {g' cap:Nat} {K1 K2:List Kid} (h1:∀ k∈K1,KnotW w (Off (g'::S) w) h k.b k.L) (h2:∀ k∈K2,KnotW w (Off (g'::S) w) h k.b k.L)
 (hg:w.grownBy w' (some g')) (ho:w'.ownsRow base 128 1 (.slice (some ⟨g,0,none⟩) n cap) n (ptrs K1++ptrs K2)) (hn:K1.length+K2.length=n) (h0:0<n) (hh:h≤900) (hz:(wholeL (flat (K1++K2))).size≤1000000) :
 JoinP w' (Off S w') g 0 n h (K1++K2):=by
 obtain ⟨g1,c1,e,-,-,hr⟩:=bF ho h0
 simp only [Value.slice.injEq,Option.some.injEq,Addr.mk.injEq,and_true,true_and] at e
 obtain ⟨rfl,rfl⟩:=e
 have step:∀ {b:Nat} {L:List ByteArray},KnotW w (Off (g'::S) w) h b L→KnotW w' (Off S w') h b L:=fun k =>
  (k.keep hg.size fun i hi=>hg.block i hi.1 fun e=>hi.2 (by injection e with e;rw [e];exact List.mem_cons_self)).weak fun i hi=>⟨Nat.lt_of_lt_of_le hi.1 hg.size,fun g=>hi.2 (List.mem_cons_of_mem _ g)⟩
 refine ⟨by rw [List.length_append];exact hn,by rw [show ptrs (K1++K2)=ptrs K1++ptrs K2 by simp [ptrs]];exact hr,fun k hk=>?_,fun i hi=>hi.1,hh,hz⟩
 rcases List.mem_append.1 hk with q|q
 ·exact step (h1 k q)
 ·exact step (h2 k q)
set_option maxHeartbeats 800000 in
theorem IE {K:List Kid} (hS:InS S w) (p:JoinP w (Off S w) g 0 n h K) (h2:2≤n) (h8:n≤8) :
 Calls prog 193 #[.slice (some ⟨g,0,none⟩) n c] w (RetKids S w (h+1) (flat K)):=by
 have cj:=dP (c:=c) p h2 h8
 have CJ:=hid cj;have HS:=hid hS
 clear cj p hS
 go_enter func193,ntmps193
 go_wp2_with fail
 refine CJ.out.mono ?_;rintro e w1 ⟨b,g',c',rfl,hb,hg,hkn,aa⟩
 have hr:=NJ aa (hkn.made HS.out hb hg aa.size)
 have HR:=hid hr
 clear hr hb hg hkn aa
 go_wp2
 go_ret
 exact HR.out
set_option maxHeartbeats 1600000 in
theorem BK {M:List Kid} (hS:InS S w) (p:JoinP w (Off S w) g 0 n h M) (h9:9≤n) (h16:n≤16) (hc:n≤c) :
 Calls prog 193 #[.slice (some ⟨g,0,none⟩) n c] w (RetKids S w (h+1) (flat M)):=by
 have cn:=fun W=>DV (a:=some ⟨g,0,none⟩) (n:=n) (c:=c) (w:=W) (.inr (by omega))
 obtain ⟨m,hm⟩:∃ m,n / 2=m:=⟨_,rfl⟩
 have e1:(n:Int) / 2=(m:Int):=by omega
 have ak:4≤m:=by omega
 have am:m≤8:=by omega
 have ag:2≤n - m:=by omega
 have ah:n - m≤8:=by omega
 have hml:m<n:=by omega
 have cj1:∀ W,Below w.heap.size w W→Calls prog 198 #[.slice (some ⟨g,0,none⟩) m c] W (RetJoin W (Off S w) h (M.take m)):=fun W hb=>dP ((p.on hb).head (by omega)) (by omega) (by omega)
 have cj2:∀ W,Below w.heap.size w W→Calls prog 198 #[.slice (some ⟨g,m,none⟩) (n - m:Nat) (c - m:Nat)] W (RetJoin W (Off S w) h (M.drop m)):=fun W hb=>by
  have:=dP (c:=c - m) ((p.on hb).tail m) ag ah
  rwa [Nat.zero_add] at this
 have hf:flat (M.take m)++flat (M.drop m)=flat M:=by rw [← flat_app,List.take_append_drop]
 have CN:=hid cn;have C1:=hid cj1;have C2:=hid cj2;have HS:=hid hS;have HF:=hid hf
 have b1:(m:Int)≤(c:Int):=by omega
 have b2:(m:Int)≤(n:Int):=by omega
 have b3:¬ c=m:=by omega
 have b4:m≤c:=by omega
 have b5:m≤n:=by omega
 have b6:n≤c:=hc
 clear cn cj1 cj2 hS p hf hm h9 ak ag ah
 go_enter func193,ntmps193
 go_wp2_with fail
 refine (CN.out _).mono ?_;rintro e w1 ⟨rfl,ai⟩
 have ab:=hid ai
 clear ai
 go_wp2_with fail
 refine wp_region_held_drew (S:=(fun w':World=>Below w1.heap.size w1 w')) (by kernel_rfl) (Below.refl _ _).drew (fun hHeld=>?_)
 refine sqt 0 ?_
 refine sqt 1 ?_
 refine sqt 2 ?_
 refine sqt 4 ?_
 refine sqt 5 ?_
 refine sqt 6 ?_
 refine sqr 3 fun K hK=>?_
 go_simp
 (go_at_call 198;refine (C1.out _ (ab.out.trans (hHeld.mono ab.out.size))).mono ?_;rintro e w2 ⟨k1,g1,x1,rfl,q1,q2,q3,aj⟩;have ad:=hid (hHeld.trans (aj.mono hHeld.size));have an:=hid hHeld;have aa:=hid (show w.heap.size≤k1∧w.heap.size≤g1∧KnotN w2 (Off S w) h k1 (M.take m) g1 x1∧Below w.heap.size w w2 from ⟨by have:=ab.out.size;have:=hHeld.size;omega,by have:=ab.out.size;have:=hHeld.size;omega,q3,ab.out.trans (ad.out.mono ab.out.size)⟩);clear q1 q2 q3 aj)
 try go_wp2_with fail
 refine hK.out _ _ ?_ (fun hHeld=>?_)
 ·exact ad.out
 clear hK K
 try simp only [Act.put,sqp]
 refine sqr 7 fun K hK=>?_
 go_simp
 (go_at_call 198;refine (C2.out _ aa.out.2.2.2).mono ?_;rintro e w3 ⟨k2,g2,x2,rfl,q1,q2,q3,ae⟩;have af:=hid (ad.out.trans (ae.mono ad.out.size));have ac:=hid (show w2.heap.size≤k2∧w2.heap.size≤g2∧KnotN w3 (Off S w) h k2 (M.drop m) g2 x2∧Below w2.heap.size w2 w3 from ⟨q1,q2,q3,ae⟩);clear q1 q2 q3 ae)
 try go_wp2_with fail
 refine hK.out _ _ ?_ (fun hHeld=>?_)
 ·exact af.out
 clear hK K
 try simp only [Act.put,sqp]
 refine sqr 8 fun K hK=>?_
 go_simp
 have al:=hid (af.out.alloc af.out.size (.cells #[pv k1,pv k2] 128))
 try go_wp2_with fail
 refine hK.out _ _ ?_ (fun hHeld=>?_)
 ·exact al.out
 clear hK K
 try simp only [Act.put,sqp]
 refine sqt 9 ?_
 refine wpAnyH_done (by kernel_rfl) ?_ _
 go_wp2_with fail
 go_ret
 have kk1:=((aa.out.2.2.1.made HS.out aa.out.1 aa.out.2.1 aa.out.2.2.2.size).later ac.out.2.2.2)
 have hbw:=aa.out.2.2.2.trans (ac.out.2.2.2.mono aa.out.2.2.2.size)
 have kk2:=ac.out.2.2.1.made HS.out (Nat.le_trans aa.out.2.2.2.size ac.out.1) (Nat.le_trans aa.out.2.2.2.size ac.out.2.1) hbw.size
 have hr:=tQ hbw kk1 kk2
 rw [HF.out] at hr
 exact hr
abbrev layV (bl:Nat):Value:=.func (.func 191) #[] #[.pointer (some ⟨bl,0,none⟩)]
def LayC (n:Nat):Prop:=∀ (S:List Nat) (w:World) (a b ha hb bl:Nat) (L R:List ByteArray),ha+hb≤n→InS S w→w.cell? ⟨bl,0,none⟩=some (layV bl)→KnotW w (Off S w) ha a L→KnotW w (Off S w) hb b R→ha≤800→hb≤800 →
 (wholeL (L++R)).size≤1000000→Calls prog 191 #[pv a,pv b,.pointer (some ⟨bl,0,none⟩)] w (RetKids S w (max ha hb) (L++R))
theorem pS (k:KnotW w (Off S w) h b L) (hh:h≤900) :
 Calls prog 192 #[pv b] w fun e w'=>∃ a n c,e=.returned (.slice a n c)∧(h=0→a=none∧n=0∧c=0)∧Below w.heap.size w w':=by
 cases h with
 | zero=>exact (fO k).mono fun e w' ⟨he,hb⟩=>⟨none,0,0,he,fun _=>⟨rfl,rfl,rfl⟩,hb⟩
 | succ h =>
  obtain ⟨K,g,c,hn,rfl,-⟩:=k.node
  refine (dF hn (by omega)).mono ?_
  rintro e w' ⟨v,rfl,ho,hb⟩
  have:=hn.two
  obtain ⟨g',c',rfl,-⟩:=bF ho (by omega)
  exact ⟨_,_,_,rfl,fun h=>by omega,hb⟩
set_option maxHeartbeats 1600000 in
theorem uX:LayC 0:=by
 intro S w a b ha hb bl L R hn hS hbox ka kb am an hz
 obtain rfl:ha=0:=by omega
 obtain rfl:hb=0:=by omega
 have c1:=fO ka
 have c2:=fun W (hW:Below w.heap.size w W)=>fO (kb.later hW)
 have k1:=(ka.hgt (by decide)).later
 have k2:=(kb.hgt (by decide)).later
 have HR:=hid (fun (W:World) (hW:Below w.heap.size w W)=>tQ hW (ka.later hW) (kb.later hW))
 rw [show ((0:Nat):Int)=0 from rfl] at k1 k2
 have C1:=hid c1;have C2:=hid c2;have K1:=hid k1;have K2:=hid k2
 clear c1 c2 k1 k2 ka kb hS hz hbox
 go_enter func191,ntmps191
 go_wp2_with fail
 refine C1.out.mono ?_;rintro e w1 ⟨rfl,aa⟩
 have ab:=hid aa
 clear aa
 go_wp2_with fail
 refine (onward ab.out (C2.out _ ab.out)).mono ?_;rintro e w2 ⟨rfl,ac⟩
 have ah:=hid ac
 clear ac
 go_wp2_with fail
 refine (K1.out _ ah.out).mono ?_;rintro e w3 ⟨rfl,ad⟩
 have ai:=hid ad
 clear ad
 go_wp2_with fail
 refine (K2.out _ ai.out).mono ?_;rintro e w4 ⟨rfl,ae⟩
 have aj:=hid ae
 clear ae
 go_wp2_with fail
 refine (K1.out _ aj.out).mono ?_;rintro e w5 ⟨rfl,af⟩
 have ak:=hid af
 clear af
 go_wp2_with fail
 refine (K2.out _ ak.out).mono ?_;rintro e w6 ⟨rfl,ag⟩
 have al:=hid ag
 clear ag
 go_wp2
 go_ret
 exact HR.out w6 al.out
theorem mM {K:List Kid} (hS:InS S w) (p:JoinP w (Off S w) g 0 n h K) (h2:2≤n) (h16:n≤16) (hc:n≤c) :
 Calls prog 193 #[.slice (some ⟨g,0,none⟩) n c] w (RetKids S w (h+1) (flat K)):=by
 rcases Nat.lt_or_ge n 9 with h9|h9
 ·exact IE hS p h2 (by omega)
 ·exact BK hS p h9 h16 hc
theorem Hgt.at' {p:Option Addr} {h:Int} (k:Hgt w p h):∀ W,Below w.heap.size w W→Calls prog 175 #[.pointer p] W fun e w'=>e=.returned (.int .i64 h)∧Below W.heap.size W w':=
 fun W hb=>(k.on hb).call
theorem kN {o:Nat} {l:List Value} (h:PRow w g o l):∀ j u,l[j]? = some u→w.cell? ((⟨g,o,none⟩:Addr).add j)=some u:=fun j u hj=>by
 obtain ⟨hj1,rfl⟩:=List.getElem?_eq_some_iff.1 hj
 rw [show (⟨g,o,none⟩:Addr).add j=⟨g,o+j,none⟩ by unfold Addr.add;split <;> simp_all]
 exact h.2 j hj1
theorem fZ {t:TypeId} {l:List Value} (ho:w.ownsRow base t 1 (.slice (some ⟨g,0,none⟩) n c) n l) (h0:0<n):n≤c∧base≤g∧PRow w g 0 l:=by
 obtain ⟨g1,c1,e,hc,hb,hr⟩:=bF ho h0
 simp only [Value.slice.injEq,Option.some.injEq,Addr.mk.injEq,and_true,true_and] at e
 obtain ⟨rfl,rfl⟩:=e
 exact ⟨hc,hb,hr⟩
theorem KnotW.lessS {r:Nat} (k:KnotW w (Off (r::S) w) h b L):KnotW w (Off S w) h b L:=k.weak fun i hi=>⟨hi.1,fun g=>hi.2 (List.mem_cons_of_mem _ g)⟩
theorem sV {S:List Nat} {w w5 w6:World} {h g' m c5 r g5 cap N:Nat} {K0 K2:List Kid} {L R xL:List ByteArray} (hk0:∀ k∈K0,KnotW w (Off S w) h k.b k.L) (hl:K0.length=m) (hL:L=flat K0++xL) (hb:Below w.heap.size w w5) (hg':w.heap.size≤g')
 (hk2:∀ k∈K2,KnotW w5 (Off (r::g'::S) w5) h k.b k.L) (hf:flat K2=xL++R) (hN:m+K2.length=N) (h0:0<N) (hh:h≤900) (hz:(wholeL (L++R)).size≤1000000)
 (ho:w6.ownsRow w.heap.size 128 1 (.slice (some ⟨g5,0,none⟩) N cap) N (ptrs K0++ptrs K2)) (hg:w5.grownBy w6 (some g')) :
 JoinP w6 (Off S w6) g5 0 N h (K0++K2)∧flat (K0++K2)=L++R:=by
 have e:flat (K0++K2)=L++R:=by rw [flat_app,hf,hL,List.append_assoc]
 exact ⟨mL (fun k hk=>(hk0 k hk).beside hb hg') (fun k hk=>(hk2 k hk).lessS) hg ho (by omega) h0 hh (by rw [e];exact hz),e⟩
theorem sA {S:List Nat} {w w5 w6:World} {h m r g5 cap N:Nat} {K0 K2:List Kid} {L R xL:List ByteArray} (hk0:∀ k∈K0,KnotW w (Off S w) h k.b k.L) (hl:K0.length=m) (hR:R=xL++flat K0) (hb:Below w.heap.size w w5) (hr:w.heap.size≤r)
 (hk2:∀ k∈K2,KnotW w5 (Off (r::S) w5) h k.b k.L) (hf:flat K2=L++xL) (hN:K2.length+m=N) (h0:0<N) (hh:h≤900) (hz:(wholeL (L++R)).size≤1000000)
 (ho:w6.ownsRow w.heap.size 128 1 (.slice (some ⟨g5,0,none⟩) N cap) N (ptrs K2++ptrs K0)) (hg:w5.grownBy w6 (some r)) :
 JoinP w6 (Off S w6) g5 0 N h (K2++K0)∧flat (K2++K0)=L++R:=by
 have e:flat (K2++K0)=L++R:=by rw [flat_app,hf,hR,List.append_assoc]
 exact ⟨mL hk2 (fun k hk=>(hk0 k hk).beside hb hr) hg ho (by omega) h0 hh (by rw [e];exact hz),e⟩
set_option maxHeartbeats 1600000 in
theorem IQ {z:Nat} (ih:LayC z) {a hb bl:Nat} {R:List ByteArray} (hn:h+hb≤z) (hS:InS S w) (hbox:w.cell? ⟨bl,0,none⟩=some (layV bl)) (ka:KnotW w (Off S w) (h+1) a L) (kb:KnotW w (Off S w) hb b R) (hlt:hb<h+1) (ha8:h+1≤800)
 (hz:(wholeL (L++R)).size≤1000000):Calls prog 191 #[pv a,pv b,.pointer (some ⟨bl,0,none⟩)] w (RetKids S w (h+1) (L++R)):=by
 obtain ⟨i0,hi,a6,a7,a8⟩:=info_parts cJ
 have k1:=(ka.hgt (by omega)).at'
 have k2:=(kb.hgt (by omega)).at'
 have c2:=fun W (hW:Below w.heap.size w W)=>pS (kb.later hW) (by omega)
 obtain ⟨M,g,c,hM,rfl,-⟩:=ka.node
 have c1:=dF hM (by omega)
 obtain ⟨m,hm⟩:∃ m,M.length=m+1:=⟨M.length - 1,by have:=hM.two;omega⟩
 have bf:1≤m:=by have:=hM.two;omega
 have bg:m≤7:=by have:=hM.eight;omega
 obtain ⟨x,hx⟩:∃ x,M[m]'(by omega)=x:=⟨_,rfl⟩
 have hMs:M=M.take m++[x]:=by
  have:=List.take_succ_eq_append_getElem (l:=M) (i:=m) (by omega)
  rw [List.take_of_length_le (by omega),hx] at this
  exact this
 have hML:flat M=flat (M.take m)++x.L:=by
  conv=>lhs;rw [hMs]
  rw [flat_app,cV]
 have aq:∀ k∈M.take m,KnotW w (Off S w) h k.b k.L:=fun k hk=>hM.kids k (List.mem_of_mem_take hk)
 have af:(M.take m).length=m:=by rw [List.length_take];omega
 have ar:(ptrs M).take m=ptrs (M.take m):=by unfold ptrs;rw [List.map_take]
 have hpx:∀ (W:World) (g':Nat),PRow W g' 0 (ptrs M)→W.cell? ⟨g',m,none⟩=some (pv x.b):=fun W g' hp=>by
  have:=hp.2 m (by rw [aP];omega)
  rw [show (ptrs M)[m]'(by rw [aP];omega)=pv x.b by rw [← hx];simp [ptrs],Nat.zero_add] at this
  exact this
 have kx:KnotW w (Off S w) h x.b x.L:=by rw [← hx];exact hM.kids _ (List.getElem_mem _)
 have hxz:(wholeL (x.L++R)).size≤1000000:=by
  rw [hML,List.append_assoc,aE,ByteArray.size_append] at hz
  omega
 have hbl:=World.block_lt_of_cell? w _ hbox
 have hih:∀ (W:World) (g':Nat),Below w.heap.size w W→w.heap.size≤g'→g'<W.heap.size→Calls prog 191 #[pv x.b,pv b,.pointer (some ⟨bl,0,none⟩)] W (RetKids (g'::S) W h (x.L++R)):=fun W g' hW h1 h2=>by
  have:=ih (g'::S) W x.b b h hb bl x.L R hn (fun q hq=>by
   rcases List.mem_cons.1 hq with rfl|hq
   ·exact h2
   ·exact Nat.lt_of_lt_of_le (hS q hq) hW.size) ((hW.cell hbl).trans hbox) (kx.beside hW h1) (kb.beside hW h1) (by omega) (by omega) hxz
  rwa [Nat.max_eq_left (by omega)] at this
 have hend:=fun (w5 w6:World) (g' r g5 cap N:Nat) (K2:List Kid)=>@sV S w w5 w6 h g' m 0 r g5 cap N (M.take m) K2 (flat M) R x.L aq af hML
 obtain ⟨xb,hxb⟩:∃ xb,x.b=xb:=⟨_,rfl⟩
 rw [hxb] at hpx hih
 obtain ⟨u,hu⟩:∃ u:Int,((h+1:Nat):Int)=u:=⟨_,rfl⟩
 obtain ⟨v,hv⟩:∃ v:Int,(hb:Int)=v:=⟨_,rfl⟩
 have huv:v<u:=by omega
 rw [hu] at k1
 rw [hv] at k2
 have K1:=hid k1;have K2:=hid k2;have C1:=hid c1;have C2:=hid c2;have HI:=hid hih;have HE:=hid hend;have HM:=hid hm;have a9:=hid ar;have ba:=hid hpx;have HS:=hid hS
 have HZ:=hid hz;have ac:=hid hbox;have ad:=hid hbl;have bh:=hid af
 have hh:h≤900:=by omega
 clear k1 k2 c1 c2 hih hend hm ar hpx hx hMs hML aq af kx hxz hbl hbox hxb hu hv hS hM ka kb hz ih hn hlt ha8
 go_enter func191,ntmps191
 go_wp2_with fail
 refine C1.out.mono ?_;rintro e w1 ⟨v1,rfl,ae,au⟩
 obtain ⟨g',c',rfl,hc',hg',av⟩:=bF ae (by rw [HM.out];omega)
 rw [HM.out] at ae hc' ⊢
 have bb:=hid ae;have ag:=hid au;have HG:=hid hg';have aw:=hid av
 clear ae au hg' av
 go_wp2_with fail
 refine (C2.out _ ag.out).mono ?_;rintro e w2 ⟨a2,n2,c2,rfl,-,ah⟩
 have ai:=hid (ag.out.trans (ah.mono ag.out.size));have ax:=hid ah
 clear ah
 go_wp2_with fail
 refine (K1.out _ ai.out).mono ?_;rintro e w3 ⟨rfl,aj⟩
 have ak:=hid (ai.out.trans (aj.mono ai.out.size));have ay:=hid (ax.out.trans (aj.mono ax.out.size))
 clear aj
 go_wp2_with fail
 refine (K2.out _ ak.out).mono ?_;rintro e w4 ⟨rfl,al⟩
 have az:=hid (ak.out.trans (al.mono ak.out.size));have am:=hid (ay.out.trans (al.mono ay.out.size))
 clear al
 go_wp2_with fail
 have q1:w4.cell? ⟨g',m,none⟩=some (pv xb):=ba.out w4 g' (aw.out.on am.out)
 have q2:w4.drew.cell? ⟨g',m,none⟩=some (pv xb):=q1
 have b1:m≤c':=by omega
 have b2:(m:Int)<(m:Int)+1:=by omega
 refine wp_region_held_drew (S:=(fun w':World=>Below w.heap.size w w'∧w'.cell? ⟨bl,0,none⟩=some (layV bl))) (by kernel_rfl) ⟨az.out.drew,(az.out.cell (p:=⟨bl,0,none⟩) ad.out).trans ac.out⟩ (fun hHeld=>?_)
 refine sqt 0 ?_
 refine sqt 1 ?_
 refine sqt 2 ?_
 refine sqt 4 ?_
 refine sqt 5 ?_
 refine sqt 6 ?_
 refine sqt 8 ?_
 refine sqt 3 ?_
 refine sqr 7 fun K hK=>?_
 go_simp
 refine hK.out _ _ ?_ (fun hHeld=>?_)
 ·exact hHeld
 clear hK K
 try simp only [Act.put,sqp]
 refine sqr 9 fun K hK=>?_
 go_simp
 (go_at_call 191;refine (HI.out _ g' hHeld.1 HG.out (Nat.lt_of_lt_of_le aw.out.1 am.out.size)).mono ?_;rintro e w5 ⟨r,c5,X2,rfl,a0,x1,x2,hf,a1,an⟩;have ab:=hid (hHeld.1.trans (an.mono hHeld.1.size));have a3:=hid (show w5.ownsRow w.heap.size 128 1 (.slice (some ⟨g',0,none⟩) m c') m (ptrs (M.take m)) from by rw [← a9.out];exact IW (bW (bW bb.out am.out.drew) an) (by omega));have bc:=hid (kN (fZ a0 (by omega)).2.2);have bd:=hid hf;have be:=hid a1;clear a0 hf a1 an)
 try go_wp2_with fail
 refine hK.out _ _ ?_ (fun hHeld=>?_)
 ·exact ⟨ab.out,(ab.out.cell (p:=⟨bl,0,none⟩) ad.out).trans ac.out⟩
 clear hK K
 try simp only [Act.put,sqp]
 have ao:w.heap.size≤w5.heap.size:=ab.out.size
 refine sqr 10 fun K hK=>?_
 refine step_append_lies _ rfl (.tmp 29) (.tmp 36) 206 rfl w.heap.size 128 i0 (.pointer none) 1 8 underlying206 hi a6 a7 a8 rfl (by decide) (.slice (some ⟨g',0,none⟩) m c') m (ptrs (M.take m)) rfl a3.out ⟨r,0,none⟩ X2.length c5 (ptrs X2) rfl (by rw [aP];omega) bc.out (gF _) (by omega) (by unfold maxLen;omega) (by omega) ao _ rfl ?_
 intro g5 cap w6 hown' hgrow _ _
 have aa:=hid (ab.out.grown hgrow ao (aM a3.out))
 have hJ:=HE.out w5 w6 g' r g5 cap (m+X2.length) X2 ab.out HG.out be.out bd.out rfl (by omega) hh HZ.out hown' hgrow
 have ho:=mM (c:=cap) (HS.out.on aa.out.size) hJ.1 (by omega) (by omega) (fZ hown' (by omega)).1
 rw [hJ.2] at ho
 have HO:=hid ho
 clear hown' hgrow hJ ho
 refine hK.out _ _ ?_ (fun hHeld=>?_)
 ·exact ⟨aa.out,(aa.out.cell (p:=⟨bl,0,none⟩) ad.out).trans ac.out⟩
 clear hK K
 try simp only [Act.put,sqp]
 refine sqr 11 fun K hK=>?_
 go_simp
 (go_at_call 193;refine HO.out.mono ?_;intro e w7 hr;have HR:=hid (hr.from aa.out);obtain ⟨r7,c7,X7,rfl,-,-,-,-,-,a4⟩:=hr;have a5:=hid (aa.out.trans (a4.mono aa.out.size));clear a4)
 try go_wp2_with fail
 refine hK.out _ _ ?_ (fun hHeld=>?_)
 ·exact ⟨a5.out,(a5.out.cell (p:=⟨bl,0,none⟩) ad.out).trans ac.out⟩
 clear hK K
 try simp only [Act.put,sqp]
 refine sqt 12 ?_
 refine wpAnyH_done (by kernel_rfl) ?_ _
 go_wp2_with fail
 go_ret
 exact HR.out
set_option maxHeartbeats 1600000 in
theorem FP {z:Nat} (ih:LayC z) {a ha bl:Nat} {R:List ByteArray} (hn:ha+h≤z) (hS:InS S w) (hbox:w.cell? ⟨bl,0,none⟩=some (layV bl)) (ka:KnotW w (Off S w) ha a L) (kb:KnotW w (Off S w) (h+1) b R) (hlt:ha<h+1) (hb8:h+1≤800)
 (hz:(wholeL (L++R)).size≤1000000):Calls prog 191 #[pv a,pv b,.pointer (some ⟨bl,0,none⟩)] w (RetKids S w (h+1) (L++R)):=by
 obtain ⟨i0,hi,bb,bc,bd⟩:=info_parts cJ
 have k1:=(ka.hgt (by omega)).at'
 have k2:=(kb.hgt (by omega)).at'
 have c1:=pS ka (by omega)
 obtain ⟨M,g,c,hM,rfl,-⟩:=kb.node
 have c2:∀ W,Below w.heap.size w W→Calls prog 192 #[pv b] W (RetOwn W M):=fun W hW=>dF (S:=S) ⟨hM.two,hM.eight,hM.cap,fun k hk=>(hM.kids k hk).later hW,hM.row.on hW,hM.blk.onto hW⟩ (by omega)
 have h2:=hM.two
 have h8:=hM.eight
 cases M with
 | nil=>exact absurd h2 (by simp)
 | cons x M =>
 obtain ⟨m,hm⟩:∃ m,M.length=m:=⟨_,rfl⟩
 have bk:1≤m:=by rw [List.length_cons] at h2;omega
 have bm:m≤7:=by rw [List.length_cons] at h8;omega
 have hML:flat (x::M)=x.L++flat M:=by simp [flat]
 have ar:∀ k∈M,KnotW w (Off S w) h k.b k.L:=fun k hk=>hM.kids k (List.mem_cons_of_mem _ hk)
 have hpx:∀ (W:World) (g':Nat),PRow W g' 0 (ptrs (x::M))→W.cell? ⟨g',0,none⟩=some (pv x.b)∧PRow W g' 1 (ptrs M):=fun W g' hp=>⟨hp.2 0 (by rw [aP];simp),hp.sub 1⟩
 have kx:KnotW w (Off S w) h x.b x.L:=hM.kids _ List.mem_cons_self
 have hxz:(wholeL (L++x.L)).size≤1000000:=by
  rw [hML,← List.append_assoc,aE,ByteArray.size_append] at hz
  omega
 have hbl:=World.block_lt_of_cell? w _ hbox
 have hih:∀ (W:World),Below w.heap.size w W→Calls prog 191 #[pv a,pv x.b,.pointer (some ⟨bl,0,none⟩)] W (RetKids S W h (L++x.L)):=fun W hW=>by
  have:=ih S W a x.b ha h bl L x.L hn (hS.on hW.size) ((hW.cell hbl).trans hbox) (ka.later hW) (kx.later hW) (by omega) (by omega) hxz
  rwa [Nat.max_eq_right (by omega)] at this
 have hend:=fun (w5 w6:World) (r g5 cap N:Nat) (K2:List Kid)=>@sA S w w5 w6 h m r g5 cap N M K2 L (flat (x::M)) x.L ar hm hML
 have hpl:(ptrs M).length=m:=by rw [aP];exact hm
 have ag:(x::M).length=m+1:=by rw [List.length_cons,hm]
 obtain ⟨xb,hxb⟩:∃ xb,x.b=xb:=⟨_,rfl⟩
 rw [hxb] at hpx hih
 obtain ⟨u,hu⟩:∃ u:Int,((h+1:Nat):Int)=u:=⟨_,rfl⟩
 obtain ⟨v,hv⟩:∃ v:Int,(ha:Int)=v:=⟨_,rfl⟩
 have huv:v<u:=by omega
 have bj:¬ u<v:=by omega
 rw [hv] at k1
 rw [hu] at k2
 have K1:=hid k1;have K2:=hid k2;have C1:=hid c1;have C2:=hid c2;have HI:=hid hih;have HE:=hid hend;have HM:=hid ag;have be:=hid hpl;have au:=hid hpx;have HS:=hid hS
 have HZ:=hid hz;have ad:=hid hbox;have ae:=hid hbl
 have hh:h≤900:=by omega
 clear k1 k2 c1 c2 hih hend ag hpl hm hpx hML ar kx hxz hbl hbox hxb hu hv hS hM ka kb hz ih hn hlt hb8 h2 h8
 go_enter func191,ntmps191
 go_wp2_with fail
 refine C1.out.mono ?_;rintro e w1 ⟨a2,n2,c2,rfl,-,av⟩
 have af:=hid av
 clear av
 go_wp2_with fail
 refine (C2.out _ af.out).mono ?_;rintro e w2 ⟨v1,rfl,aw,ax⟩
 obtain ⟨g',c',rfl,hc',hg',ay⟩:=bF aw (by rw [HM.out];omega)
 rw [HM.out] at hc' ⊢
 have ah:=hid (af.out.trans (ax.mono af.out.size));have az:=hid (Below.refl w2.heap.size w2)
 have HG:=hid (Nat.le_trans af.out.size hg');have a0:=hid ay
 clear aw ax hg' ay
 go_wp2_with fail
 refine (K1.out _ ah.out).mono ?_;rintro e w3 ⟨rfl,ai⟩
 have aj:=hid (ah.out.trans (ai.mono ah.out.size));have a1:=hid (az.out.trans (ai.mono az.out.size))
 clear ai
 go_wp2_with fail
 refine (K2.out _ aj.out).mono ?_;rintro e w4 ⟨rfl,ak⟩
 have al:=hid (aj.out.trans (ak.mono aj.out.size));have a3:=hid (a1.out.trans (ak.mono a1.out.size))
 clear ak
 go_wp2_with fail
 refine (K1.out _ al.out).mono ?_;rintro e w5 ⟨rfl,aa⟩
 have am:=hid (al.out.trans (aa.mono al.out.size));have a4:=hid (a3.out.trans (aa.mono a3.out.size))
 clear aa
 go_wp2_with fail
 refine (K2.out _ am.out).mono ?_;rintro e w6 ⟨rfl,an⟩
 have a5:=hid (am.out.trans (an.mono am.out.size));have a6:=hid (a4.out.trans (an.mono a4.out.size))
 clear an
 go_wp2_with fail
 have q1:w6.cell? ⟨g',0,none⟩=some (pv xb):=(au.out w6 g' (a0.out.on a6.out)).1
 have q2:w6.drew.cell? ⟨g',0,none⟩=some (pv xb):=q1
 have b1:m+1≤c':=by omega
 have b2:¬ c'=1:=by omega
 have b3:(0:Int)<(m:Int)+1:=by omega
 have b4:(1:Int)≤(m:Int)+1:=by omega
 refine wp_region_held_drew (S:=(fun w':World=>Below w.heap.size w w'∧w'.cell? ⟨bl,0,none⟩=some (layV bl))) (by kernel_rfl) ⟨a5.out.drew,(a5.out.cell (p:=⟨bl,0,none⟩) ae.out).trans ad.out⟩ (fun hHeld=>?_)
 refine sqt 1 ?_
 refine sqt 2 ?_
 refine sqt 3 ?_
 refine sqt 6 ?_
 refine sqt 7 ?_
 refine sqt 0 ?_
 refine sqr 4 fun K hK=>?_
 go_simp
 refine hK.out _ _ ?_ (fun hHeld=>?_)
 ·exact hHeld
 clear hK K
 try simp only [Act.put,sqp]
 refine sqr 5 fun K hK=>?_
 go_simp
 (go_at_call 191;refine (HI.out _ hHeld.1).mono ?_;rintro e w7 ⟨r,c5,X2,rfl,ao,x1,x2,hf,a7,aa⟩;have ac:=hid (hHeld.1.trans (aa.mono hHeld.1.size));have bf:=hid (Nat.le_trans hHeld.1.size (fZ ao (by omega)).2.1);have a8:=hid (tX ao hHeld.1.size);have bg:=hid (kN ((au.out w7 g' ((a0.out.on a6.out.drew).on aa)).2));have bh:=hid hf;have bi:=hid a7;clear ao hf a7 aa)
 try go_wp2_with fail
 refine hK.out _ _ ?_ (fun hHeld=>?_)
 ·exact ⟨ac.out,(ac.out.cell (p:=⟨bl,0,none⟩) ae.out).trans ad.out⟩
 clear hK K
 try simp only [Act.put,sqp]
 have aq:w.heap.size≤w7.heap.size:=ac.out.size
 refine sqr 8 fun K hK=>?_
 refine step_append_lies _ rfl (.tmp 55) (.tmp 57) 206 rfl w.heap.size 128 i0 (.pointer none) 1 8 underlying206 hi bb bc bd rfl (by decide) (.slice (some ⟨r,0,none⟩) X2.length c5) X2.length (ptrs X2) rfl a8.out ⟨g',1,none⟩ m (c' - 1) (ptrs M) rfl (by rw [be.out];omega) bg.out (gF _) (by omega) (by unfold maxLen;omega) (by omega) aq _ rfl ?_
 intro g5 cap w6' hown' hgrow _ _
 have ab:=hid (ac.out.grown hgrow aq (aM a8.out))
 have hJ:=HE.out w7 w6' r g5 cap (X2.length+m) X2 ac.out bf.out bi.out bh.out rfl (by omega) hh HZ.out hown' hgrow
 have ho:=mM (c:=cap) (HS.out.on ab.out.size) hJ.1 (by omega) (by omega) (fZ hown' (by omega)).1
 rw [hJ.2] at ho
 have HO:=hid ho
 clear hown' hgrow hJ ho
 refine hK.out _ _ ?_ (fun hHeld=>?_)
 ·exact ⟨ab.out,(ab.out.cell (p:=⟨bl,0,none⟩) ae.out).trans ad.out⟩
 clear hK K
 try simp only [Act.put,sqp]
 refine sqr 9 fun K hK=>?_
 go_simp
 (go_at_call 193;refine HO.out.mono ?_;intro e w9 hr;have HR:=hid (hr.from ab.out);obtain ⟨r7,c7,X7,rfl,-,-,-,-,-,a9⟩:=hr;have ba:=hid (ab.out.trans (a9.mono ab.out.size));clear a9)
 try go_wp2_with fail
 refine hK.out _ _ ?_ (fun hHeld=>?_)
 ·exact ⟨ba.out,(ba.out.cell (p:=⟨bl,0,none⟩) ae.out).trans ad.out⟩
 clear hK K
 try simp only [Act.put,sqp]
 refine sqt 10 ?_
 refine wpAnyH_done (by kernel_rfl) ?_ _
 go_wp2_with fail
 go_ret
 exact HR.out
set_option maxHeartbeats 1600000 in
theorem JJ {a bl:Nat} {R:List ByteArray} (hS:InS S w) (ka:KnotW w (Off S w) (h+1) a L) (kb:KnotW w (Off S w) (h+1) b R) (hh8:h+1≤800)
 (hz:(wholeL (L++R)).size≤1000000):Calls prog 191 #[pv a,pv b,.pointer (some ⟨bl,0,none⟩)] w (RetKids S w (h+1) (L++R)):=by
 obtain ⟨i0,hi,a3,a4,a5⟩:=info_parts cJ
 have k1:=(ka.hgt (by omega)).at'
 have k2:=(kb.hgt (by omega)).at'
 obtain ⟨M1,g1,x1,ab,rfl,-⟩:=ka.node
 obtain ⟨M2,g2,x2,aa,rfl,-⟩:=kb.node
 have c1:=dF ab (by omega)
 have c2:∀ W,Below w.heap.size w W→Calls prog 192 #[pv b] W (RetOwn W M2):=fun W hW=>dF (S:=S) ⟨aa.two,aa.eight,aa.cap,fun k hk=>(aa.kids k hk).later hW,aa.row.on hW,aa.blk.onto hW⟩ (by omega)
 have hend:∀ (w5 w6:World) (g' g5 cap N:Nat),Below w.heap.size w w5→w.heap.size≤g'→M1.length+M2.length=N→0<N→w6.ownsRow w.heap.size 128 1 (.slice (some ⟨g5,0,none⟩) N cap) N (ptrs M1++ptrs M2)→w5.grownBy w6 (some g')→JoinP w6 (Off S w6) g5 0 N h (M1++M2):=fun w5 w6 g' g5 cap N hb hg hN h0 ho hgr =>
  mL (fun k hk=>(ab.kids k hk).beside hb hg) (fun k hk=>(aa.kids k hk).beside hb hg) hgr ho hN h0 (by omega) (by rw [flat_app];exact hz)
 have hf:flat (M1++M2)=flat M1++flat M2:=flat_app M1 M2
 have p2:=ab.two
 have p8:=ab.eight
 have q2:=aa.two
 have q8:=aa.eight
 obtain ⟨n,hn⟩:∃ n,M1.length=n:=⟨_,rfl⟩
 obtain ⟨m,hm⟩:∃ m,M2.length=m:=⟨_,rfl⟩
 rw [hn] at p2 p8
 rw [hm] at q2 q8
 rw [hn,hm] at hend
 obtain ⟨u,hu⟩:∃ u:Int,((h+1:Nat):Int)=u:=⟨_,rfl⟩
 rw [hu] at k1 k2
 have K1:=hid k1;have K2:=hid k2;have C1:=hid c1;have C2:=hid c2;have HE:=hid hend;have HN:=hid hn;have HM:=hid hm;have HS:=hid hS;have HF:=hid hf
 have hh:h≤900:=by omega
 clear k1 k2 c1 c2 hend hf hn hm hu hS ab aa ka kb hz hh8
 go_enter func191,ntmps191
 go_wp2_with fail
 refine C1.out.mono ?_;rintro e w1 ⟨v1,rfl,ac,ao⟩
 obtain ⟨ga,ca,rfl,hca,hga,-⟩:=bF ac (by rw [HN.out];omega)
 rw [HN.out] at ac hca ⊢
 have a6:=hid ac;have ah:=hid ao;have HG:=hid hga
 clear ac ao hga
 go_wp2_with fail
 refine (C2.out _ ah.out).mono ?_;rintro e w2 ⟨v2,rfl,aq,ai⟩
 obtain ⟨gb,cb,rfl,hcb,hgb,ar⟩:=bF aq (by rw [HM.out];omega)
 rw [HM.out] at hcb ⊢
 have aj:=hid (ah.out.trans (ai.mono ah.out.size));have au:=hid ai;have a7:=hid ar
 have av:=hid (Below.refl w2.heap.size w2)
 clear aq ai hgb ar
 go_wp2_with fail
 refine (K1.out _ aj.out).mono ?_;rintro e w3 ⟨rfl,ad⟩
 have ak:=hid (aj.out.trans (ad.mono aj.out.size));have aw:=hid (au.out.trans (ad.mono au.out.size));have ax:=hid (av.out.trans (ad.mono av.out.size))
 clear ad
 go_wp2_with fail
 refine (K2.out _ ak.out).mono ?_;rintro e w4 ⟨rfl,ae⟩
 have al:=hid (ak.out.trans (ae.mono ak.out.size));have ay:=hid (aw.out.trans (ae.mono aw.out.size));have az:=hid (ax.out.trans (ae.mono ax.out.size))
 clear ae
 go_wp2_with fail
 refine (K1.out _ al.out).mono ?_;rintro e w5 ⟨rfl,af⟩
 have am:=hid (al.out.trans (af.mono al.out.size));have a0:=hid (ay.out.trans (af.mono ay.out.size));have a1:=hid (az.out.trans (af.mono az.out.size))
 clear af
 go_wp2_with fail
 refine (K2.out _ am.out).mono ?_;rintro e w6 ⟨rfl,ag⟩
 have an:=hid (am.out.trans (ag.mono am.out.size));have a8:=hid (a0.out.trans (ag.mono a0.out.size));have a9:=hid (a1.out.trans (ag.mono a1.out.size))
 clear ag
 have hown:=bW a6.out a8.out
 have hsz:w.heap.size≤w6.heap.size:=an.out.size
 have HW:=hid (kN (a7.out.on a9.out))
 go_wp2_with (at_builtin;refine wpList_append_own _ rfl _ _ 206 rfl w.heap.size 128 i0 (.pointer none) 1 8 underlying206 hi a3 a4 a5 rfl (by decide) _ _ _ rfl hown ⟨gb,0,none⟩ m cb (ptrs M2) rfl (by rw [aP,HM.out];omega) HW.out (gF M2) (by unfold maxLen;omega) (by omega) hsz ?_;intro v' w7 hown' hgrow _)
 obtain ⟨g5,cap,rfl,hcap,-,-⟩:=bF hown' (by omega)
 have a2:=hid (an.out.grown hgrow hsz (aM hown))
 have hJ:=HE.out w6 w7 ga g5 cap (n+m) an.out HG.out rfl (by omega) hown' hgrow
 have ho:=mM (c:=cap) (HS.out.on a2.out.size) hJ (by omega) (by omega) hcap
 rw [HF.out] at ho
 have HO:=hid ho
 clear hown' hgrow hJ ho hown
 go_wp2_with fail
 refine HO.out.mono ?_;intro e w9 hr
 have HR:=hid (hr.from a2.out)
 obtain ⟨r7,c7,X7,rfl,-,-,-,-,-,ba⟩:=hr
 clear ba
 go_wp2
 go_ret
 exact HR.out
theorem NR (n:Nat):LayC n:=by
 induction n with
 | zero=>exact uX
 | succ n ih =>
  intro S w a b ha hb bl L R hn hS hbox ka kb aa ab hz
  rcases Nat.lt_trichotomy ha hb with h|h|h
  ·obtain ⟨h',rfl⟩:∃ h',hb=h'+1:=⟨hb - 1,by omega⟩
   rw [Nat.max_eq_right (by omega)]
   exact FP ih (by omega) hS hbox ka kb h ab hz
  ·subst h
   cases ha with
   | zero=>exact uX S w a b 0 0 bl L R (by omega) hS hbox ka kb aa ab hz
   | succ h'=>rw [Nat.max_self];exact JJ hS ka kb aa hz
  ·obtain ⟨h',rfl⟩:∃ h',ha=h'+1:=⟨ha - 1,by omega⟩
   rw [Nat.max_eq_left (by omega)]
   exact IQ ih (by omega) hS hbox ka kb h aa hz
end Go.Proofs.YtbagenpobcgjnaaGreat
