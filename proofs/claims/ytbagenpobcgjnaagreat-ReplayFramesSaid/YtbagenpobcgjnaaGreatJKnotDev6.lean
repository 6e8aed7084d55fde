/-
  Joined: KnotDev6, WeldLay.
-/
import Derived.Test.YtbagenpobcgjnaaGreatJKnotDev4
open Go renaming Calls->zp,Value->zv,World->zn,info_parts->zz,step_append_lies->Av,wpAnyH_done->Ai,wp_region_held_drew->Ah
open Go.Act renaming put->zr
open Go.Ending renaming returned->zt
open Go.Lib renaming hid->zk
open Go.RowKit renaming Below->zm
open Go.RowKit.Below renaming refl->zu
open Go.Value renaming pointer->zq,slice->zo
open Go.Value.slice renaming injEq->Ad
open Go.World renaming block_lt_of_cell?->Ar,ownsRow_lit->An
open List renaming append_assoc->Aa,getElem?_eq_some_iff->Ak,getElem_mem->Al,length_cons->Aj,length_take->Ao,mem_cons->Am,mem_cons_of_mem->Ag,mem_cons_self->Ap
open Nat renaming le_refl->zw,le_trans->zy,lt_of_lt_of_le->zx,max_eq_left->Au,max_eq_right->Aw,zero_add->Ab
open Option.some renaming injEq->Ae
variable {L:List ByteArray} {S:List Nat} {b base c g h n:Nat} {w w':Go.World}
namespace Go.Proofs.YtbagenpobcgjnaaGreat
open Go.RowKit
set_option linter.unusedVariables false
set_option linter.unusedSimpArgs false
open Go.Proofs.Tryz
set_option maxRecDepth 100000
open Lib (hid)
def ph (S:List Nat) (w:zn) (i:Nat):Prop:=i<w∧i ∉ S
def qg (S:List Nat) (w:zn):Prop:=∀ m∈S,m<w.heap.size
theorem qg.on (h:qg S w) (hs:w.heap.size≤w'):qg S w':=fun m hm=>zx (h m hm) hs
theorem ph.on {i:Nat} (h:ph S w i) (hs:w.heap.size≤w'):ph S w' i:=⟨zx h.1 hs,h.2⟩
theorem CZ {i:Nat} (hS:qg S w) (h1:w≤i) (h2:i<w'):ph S w' i:=⟨h2,fun g=>by have:=hS i g;omega⟩
theorem mb.later (k:mb w (ph S w) h b L) (hb:zm w w w'):mb w' (ph S w') h b L:=
 (k.below hb fun _ h=>h.1).weak fun i hi=>hi.on hb.size
theorem mb.apartS (k:mb w (ph S w) h b L) (ha:lx S w w'):mb w' (ph S w') h b L:=
 (k.keep ha.size fun i hi=>ha.block i hi.1 hi.2).weak fun i hi=>hi.on ha.size
theorem ui.made {K:List pd} (n:ui w' (ph S w) h b K g c) (hS:qg S w) (hb:w≤b) (hg:w≤g) (hs:w.heap.size≤w'):mb w' (ph S w') (h+1) b (flat K):=
 n.knot (fun i hi=>hi.on hs) (CZ hS hb n.blk.lt) (CZ hS hg n.row.1)
def xh (w:zn) (K:List pd) (e:Ending) (w':zn):Prop:=∃ v,e=zt v∧w'.ownsRow w 128 1 v K.length (nu K)∧zm w w w'
theorem FT {o:Nat} {l:List zv} (hl:l.length=n) (hn:n≤1000000) (hr:qr w g o l) (h1:∀ u∈l,u.oneCell'=true) :
 zp prog 212 #[zo (some ⟨g,o,none⟩) n c] w fun e w'=>∃ v',e=zt v'∧w'.ownsRow w 128 1 v' n l∧zm w w w':=by
 obtain ⟨i0,hi,aa,ab,ac⟩:=zz dD;refine (AnyE.slices_Clone Tryz.knClone i0 (zq none) 1 8 hi aa ab ac rfl lj (fun w=>by exact Tryz.sizeOf128 w) g o n c l w lg lq lg (fun j u hj=>?_) h1).mono ?_
 ·obtain ⟨ad,rfl⟩:=Ak.1 hj;exact hr.2 j ad
 ·rintro e w' ⟨v',rfl,hown,hne,hb⟩;exact ⟨v',rfl,hown,hb⟩
theorem PO {B:Nat→Prop} {K:List pd} (hk:ui w B h b K g c) :
 zp prog 208 #[pv b] w (xh w K):=by
 obtain ⟨-,-,-,-,-,-,c6⟩:=l6.seven hk.blk;have h8:=hk.eight;have ck:=FT (c:=c) (aP K) lg hk.row (iG K);have CK:=zk ck;obtain ⟨n,hn⟩:∃ n,K.length=n:=⟨_,rfl⟩;have HN:=zk hn;rw [hn] at c6 CK;clear ck hk hn h8;go_enter func208,ntmps208;go_wp2_with fail;refine CK.out.mono ?_;rintro e w1 ⟨v',rfl,ho,hb⟩;have HQ:=zk (And.intro ho hb);clear ho hb;go_wp2;go_ret;exact ⟨v',rfl,by rw [HN.out];exact HQ.out.1,HQ.out.2⟩
set_option maxHeartbeats 800000 in
theorem eB {K:List pd} (hk:ui w (ph S w) h b K g c) (hh:h≤900) :
 zp prog 192 #[pv b] w (xh w K):=by
 have ck:=PO hk;have h2:=hk.two;have h8:=hk.eight;obtain ⟨n,hn⟩:∃ n,K.length=n:=⟨_,rfl⟩;rw [hn] at h2 h8;have CK:=zk ck;have HK:=zk hk;have HN:=zk hn;clear ck hk hn;go_enter func192,ntmps192;go_wp2_with fail;refine CK.out.mono ?_;rintro e w1 ⟨v',rfl,ho,ab⟩;obtain ⟨g',c',rfl,hc',hg',hr⟩:=bL ho (by rw [HN.out];omega);rw [HN.out] at hc' ho ⊢;have HO:=zk ho;have aa:=zk ab;have HR:=zk hr;clear ho ab hr hg';go_wp2
 go_loopw [10] (fun i wr=>∃ k:Nat,k≤n∧i=.int .i64 k∧zm w1 w1 wr) (fun i _=>n - (intOf i).toNat)
 case atStart=>exact ⟨0,Nat.zero_le _,rfl,zu _ _⟩
 case round =>
  obtain ⟨k,hkn,rfl,hbel⟩:=hrel;by_cases hlt:k<n
  ·have hkl:k<K.length:=by rw [HN.out];exact hlt
   have hbw:=aa.out.trans (hbel.mono aa.out.size);have q0:=(HR.out.on hbel).2 k (by rw [aP];exact hkl);rw [show (nu K)[k]'(by rw [aP];exact hkl)=pv K[k].b by simp [nu],Ab] at q0;have kk:=(((HK.out.kids K[k] (Al hkl)).later hbw).hgt lg).later;have kb:=(xx.on (.inr ⟨b,_,_,_,_,_,_,_,_,rfl,lg,lg,lg,HK.out.blk⟩:xx w (some ⟨b,0,none⟩) ((h:Int)+1)) hbw).later;obtain ⟨bk,hbk⟩:∃ bk,K[k].b=bk:=⟨_,rfl⟩;rw [hbk] at q0 kk;have HB:=zk hbel;have KK:=zk kk;have KB:=zk kb;clear hbel kk kb hbk hkl hbw;go_wp2_with fail;refine (KK.out _ (zu _ _)).mono ?_;rintro e w2 ⟨rfl,ac⟩;have ae:=zk ac;clear ac;go_wp2_with fail;refine (KB.out _ ae.out).mono ?_;rintro e w3 ⟨rfl,ad⟩;have af:=zk ad;clear ad;go_wp2;go_roundw
   case rel=>exact ⟨k+1,lg,by go_num,HB.out.trans (af.out.mono HB.out.size)⟩
   case measure=>simp [intOf];omega
  ·obtain rfl:k=n:=lg;have HB:=zk hbel;clear hbel;go_wp2;go_ret;exact ⟨_,rfl,by rw [HN.out];exact cW HO.out HB.out,aa.out.trans (HB.out.mono aa.out.size)⟩
set_option maxHeartbeats 800000 in
theorem JP (w:zn):zp prog 192 #[zq none] w fun e w'=>e=zt (zo none 0 0)∧zm w w w':=by
 have ck:=MW w;have CK:=zk ck;clear ck;go_enter func192,ntmps192;go_wp2_with fail;refine CK.out.mono ?_;rintro e w1 ⟨rfl,aa⟩;have ab:=zk aa;clear aa;go_wp2
 go_loopw [10] (fun i wr=>i=.int .i64 0∧wr=w1) (fun i _=>0)
 case atStart=>exact ⟨rfl,rfl⟩
 case round =>
  obtain ⟨rfl,rfl⟩:=hrel;go_wp2;go_ret;exact ⟨rfl,ab.out⟩
set_option maxHeartbeats 800000 in
theorem gG (hk:mb w (ph S w) 0 b L) :
 zp prog 192 #[pv b] w fun e w'=>e=zt (zo none 0 0)∧zm w w w':=by
 obtain ⟨-,s,-,-,hB⟩:=hk;have ck:=LT hB;have CK:=zk ck;clear ck hB;go_enter func192,ntmps192;go_wp2_with fail;refine CK.out.mono ?_;rintro e w1 ⟨rfl,aa⟩;have ab:=zk aa;clear aa;go_wp2
 go_loopw [10] (fun i wr=>i=.int .i64 0∧wr=w1) (fun i _=>0)
 case atStart=>exact ⟨rfl,rfl⟩
 case round =>
  obtain ⟨rfl,rfl⟩:=hrel;go_wp2;go_ret;exact ⟨rfl,ab.out⟩
def pt (S:List Nat) (w:zn) (h:Nat) (L:List ByteArray) (e:Ending) (w':zn):Prop:=
 ∃ (r c:Nat) (K:List pd),e=zt (zo (some ⟨r,0,none⟩) K.length c)∧w'.ownsRow w 128 1 (zo (some ⟨r,0,none⟩) K.length c) K.length (nu K)∧1≤K.length∧K.length≤2∧flat K=L∧(∀ k∈K,mb w' (ph (r::S) w') h k.b k.L)∧zm w w w'
theorem mb.beside {r:Nat} (k:mb w (ph S w) h b L) (hb:zm w w w') (hr:w≤r):mb w' (ph (r::S) w') h b L:=
 (k.below hb fun _ h=>h.1).weak fun i hi=>⟨zx hi.1 hb.size,fun g=>by
  rcases Am.1 g with rfl|g
  ·have:=hi.1;omega
  ·exact hi.2 g⟩
theorem RM {w1:zn} (hb:zm w w w1) (k:mb w1 (ph S w1) h b L) :
 pt S w h L (zt (zo (some ⟨w1,0,none⟩) 1 1)) (w1.alloc (.cells #[pv b] 128)):=
 ⟨w1,1,[⟨b,L⟩],rfl,An w1 #[pv b] 1 hb.size lj rfl,zw _,li,by simp [flat],fun x hx=>by
  rw [List.mem_singleton.1 hx];exact k.beside ((zu _ _).alloc (zw _) _) (zw _),hb.alloc hb.size _⟩
theorem vE {w1:zn} {b':Nat} {L':List ByteArray} (hb:zm w w w1) (k:mb w1 (ph S w1) h b L) (k':mb w1 (ph S w1) h b' L') :
 pt S w h (L++L') (zt (zo (some ⟨w1,0,none⟩) 2 2)) (w1.alloc (.cells #[pv b,pv b'] 128)):=
 ⟨w1,2,[⟨b,L⟩,⟨b',L'⟩],rfl,An w1 #[pv b,pv b'] 2 hb.size lj rfl,li,li,by simp [flat],fun x hx=>by
  simp at hx;rcases hx with rfl|rfl
  ·exact k.beside ((zu _ _).alloc (zw _) _) (zw _)
  ·exact k'.beside ((zu _ _).alloc (zw _) _) (zw _),hb.alloc hb.size _⟩
theorem yJ {base' size:Nat} {t:TypeId} {v:zv} {xs:List zv} (h:w.ownsRow base t size v n xs) (hb:base'≤base):w.ownsRow base' t size v n xs:=by
 refine ⟨h.1,?_⟩;rcases h.2 with h2|⟨g,cap,cur,hv,aa,hr⟩
 ·exact .inl h2
 ·exact .inr ⟨g,cap,cur,hv,zy hb aa,hr⟩
theorem OH {k:Nat} {t:TypeId} {xs:List zv} (h:w.ownsRow base t 1 (zo (some ⟨g,0,none⟩) n c) n xs) (hk:k≤n):w.ownsRow base t 1 (zo (some ⟨g,0,none⟩) k c) k (xs.take k):=by
 have h1:=h.1;refine ⟨by rw [Ao];omega,?_⟩;rcases h.2 with ⟨h2,-⟩|⟨g',cap,cur,hv,aa,hg,hc,hm,hs,ht⟩
 ·simp at h2
 ·simp only [Ad,Ae,Addr.mk.injEq,and_true,true_and] at hv;obtain ⟨rfl,rfl⟩:=hv;refine .inr ⟨g,c,cur,rfl,aa,hg,lg,hm,hs,?_⟩;rw [← ht,List.take_take,Nat.min_eq_left lg,Nat.mul_one]
theorem pt.from {w1:zn} {e:Ending} (r:pt S w1 h L e w') (hb:zm w w w1):pt S w h L e w':=by
 obtain ⟨r,c,K,h1,h2,h3,h4,h5,h6,h7⟩:=r;exact ⟨r,c,K,h1,yJ h2 hb.size,h3,h4,h5,h6,hb.trans (h7.mono hb.size)⟩
theorem pF {g' cap:Nat} {K1 K2:List pd} (h1:∀ k∈K1,mb w (ph (g'::S) w) h k.b k.L) (h2:∀ k∈K2,mb w (ph (g'::S) w) h k.b k.L)
 (hg:w.grownBy w' (some g')) (ho:w'.ownsRow base 128 1 (zo (some ⟨g,0,none⟩) n cap) n (nu K1++nu K2)) (hn:K1.length+K2.length=n) (h0:0<n) (hh:h≤900) (hz:(ly (flat (K1++K2))).size≤1000000) :
 m7 w' (ph S w') g 0 n h (K1++K2):=by
 obtain ⟨g1,c1,e,-,-,hr⟩:=bL ho h0;simp only [Ad,Ae,Addr.mk.injEq,and_true,true_and] at e;obtain ⟨rfl,rfl⟩:=e;have step:∀ {b:Nat} {L:List ByteArray},mb w (ph (g'::S) w) h b L→mb w' (ph S w') h b L:=fun k =>
  (k.keep hg.size fun i hi=>hg.block i hi.1 fun e=>hi.2 (by injection e with e;rw [e];exact Ap)).weak fun i hi=>⟨zx hi.1 hg.size,fun g=>hi.2 (Ag _ g)⟩
 refine ⟨by rw [List.length_append];exact hn,by rw [show nu (K1++K2)=nu K1++nu K2 by simp [nu]];exact hr,fun k hk=>?_,fun i hi=>hi.1,hh,hz⟩;rcases List.mem_append.1 hk with q|q
 ·exact step (h1 k q)
 ·exact step (h2 k q)
set_option maxHeartbeats 800000 in
theorem MU {K:List pd} (hS:qg S w) (p:m7 w (ph S w) g 0 n h K) (h2:2≤n) (h8:n≤8) :
 zp prog 193 #[zo (some ⟨g,0,none⟩) n c] w (pt S w (h+1) (flat K)):=by
 have cj:=eK (c:=c) p h2 h8;have CJ:=zk cj;have HS:=zk hS;clear cj p hS;go_enter func193,ntmps193;go_wp2_with fail;refine CJ.out.mono ?_;rintro e w1 ⟨b,g',c',rfl,hb,hg,hkn,aa⟩;have hr:=RM aa (hkn.made HS.out hb hg aa.size);have HR:=zk hr;clear hr hb hg hkn aa;go_wp2;go_ret;exact HR.out
set_option maxHeartbeats 1600000 in
theorem IW {M:List pd} (hS:qg S w) (p:m7 w (ph S w) g 0 n h M) (h9:9≤n) (h16:n≤16) (hc:n≤c) :
 zp prog 193 #[zo (some ⟨g,0,none⟩) n c] w (pt S w (h+1) (flat M)):=by
 have cn:=fun W=>ME (a:=some ⟨g,0,none⟩) (n:=n) (c:=c) (w:=W) (.inr lg);obtain ⟨m,hm⟩:∃ m,n / 2=m:=⟨_,rfl⟩;have e1:(n:Int) / 2=(m:Int):=lg;have ak:4≤m:=lg;have am:m≤8:=lg;have ag:2≤n - m:=lg;have ah:n - m≤8:=lg;have hml:m<n:=lg;have cj1:∀ W,zm w w W→zp prog 198 #[zo (some ⟨g,0,none⟩) m c] W (vy W (ph S w) h (M.take m)):=fun W hb=>eK ((p.on hb).head lg) lg lg;have cj2:∀ W,zm w w W→zp prog 198 #[zo (some ⟨g,m,none⟩) (n - m:Nat) (c - m:Nat)] W (vy W (ph S w) h (M.drop m)):=fun W hb=>by
  have:=eK (c:=c - m) ((p.on hb).tail m) ag ah;rwa [Ab] at this
 have hf:flat (M.take m)++flat (M.drop m)=flat M:=by rw [← od,List.take_append_drop]
 have CN:=zk cn;have C1:=zk cj1;have C2:=zk cj2;have HS:=zk hS;have HF:=zk hf;have b1:(m:Int)≤(c:Int):=lg;have b2:(m:Int)≤(n:Int):=lg;have b3:¬ c=m:=lg;have b4:m≤c:=lg;have b5:m≤n:=lg;have b6:n≤c:=hc;clear cn cj1 cj2 hS p hf hm h9 ak ag ah;go_enter func193,ntmps193;go_wp2_with fail;refine (CN.out _).mono ?_;rintro e w1 ⟨rfl,ai⟩;have ab:=zk ai;clear ai;go_wp2_with fail;refine Ah (S:=(fun w':zn=>zm w1 w1 w')) lh (zu _ _).drew (fun hHeld=>?_);refine lz 0 ?_;refine lz 1 ?_;refine lz 2 ?_;refine lz 4 ?_;refine lz 5 ?_;refine lz 6 ?_;refine m8 3 fun K hK=>?_;go_simp
 (go_at_call 198;refine (C1.out _ (ab.out.trans (hHeld.mono ab.out.size))).mono ?_;rintro e w2 ⟨k1,g1,x1,rfl,q1,q2,q3,aj⟩;have ad:=zk (hHeld.trans (aj.mono hHeld.size));have an:=zk hHeld;have aa:=zk (show w≤k1∧w≤g1∧ui w2 (ph S w) h k1 (M.take m) g1 x1∧zm w w w2 from ⟨by have:=ab.out.size;have:=hHeld.size;omega,by have:=ab.out.size;have:=hHeld.size;omega,q3,ab.out.trans (ad.out.mono ab.out.size)⟩);clear q1 q2 q3 aj)
 try go_wp2_with fail
 refine hK.out _ _ ?_ (fun hHeld=>?_)
 ·exact ad.out
 clear hK K
 try simp only [zr,mj]
 refine m8 7 fun K hK=>?_;go_simp
 (go_at_call 198;refine (C2.out _ aa.out.2.2.2).mono ?_;rintro e w3 ⟨k2,g2,x2,rfl,q1,q2,q3,ae⟩;have af:=zk (ad.out.trans (ae.mono ad.out.size));have ac:=zk (show w2≤k2∧w2≤g2∧ui w3 (ph S w) h k2 (M.drop m) g2 x2∧zm w2 w2 w3 from ⟨q1,q2,q3,ae⟩);clear q1 q2 q3 ae)
 try go_wp2_with fail
 refine hK.out _ _ ?_ (fun hHeld=>?_)
 ·exact af.out
 clear hK K
 try simp only [zr,mj]
 refine m8 8 fun K hK=>?_;go_simp;have al:=zk (af.out.alloc af.out.size (.cells #[pv k1,pv k2] 128))
 try go_wp2_with fail
 refine hK.out _ _ ?_ (fun hHeld=>?_)
 ·exact al.out
 clear hK K
 try simp only [zr,mj]
 refine lz 9 ?_;refine Ai lh ?_ _;go_wp2_with fail;go_ret;have kk1:=((aa.out.2.2.1.made HS.out aa.out.1 aa.out.2.1 aa.out.2.2.2.size).later ac.out.2.2.2);have hbw:=aa.out.2.2.2.trans (ac.out.2.2.2.mono aa.out.2.2.2.size);have kk2:=ac.out.2.2.1.made HS.out (zy aa.out.2.2.2.size ac.out.1) (zy aa.out.2.2.2.size ac.out.2.1) hbw.size;have hr:=vE hbw kk1 kk2;rw [HF.out] at hr;exact hr
abbrev vu (bl:Nat):zv:=.func (.func 191) #[] #[zq (some ⟨bl,0,none⟩)]
def LayC (n:Nat):Prop:=∀ (S:List Nat) (w:zn) (a b ha hb bl:Nat) (L R:List ByteArray),ha+hb≤n→qg S w→w ⟨bl,0,none⟩=some (vu bl)→mb w (ph S w) ha a L→mb w (ph S w) hb b R→ha≤800→hb≤800 →
 (ly (L++R)).size≤1000000→zp prog 191 #[pv a,pv b,zq (some ⟨bl,0,none⟩)] w (pt S w (max ha hb) (L++R))
theorem tT (k:mb w (ph S w) h b L) (hh:h≤900) :
 zp prog 192 #[pv b] w fun e w'=>∃ a n c,e=zt (zo a n c)∧(h=0→a=none∧n=0∧c=0)∧zm w w w':=by
 cases h with
 | zero=>exact (gG k).mono fun e w' ⟨he,hb⟩=>⟨none,0,0,he,fun _=>⟨rfl,rfl,rfl⟩,hb⟩
 | succ h =>
  obtain ⟨K,g,c,hn,rfl,-⟩:=k.node;refine (eB hn lg).mono ?_;rintro e w' ⟨v,rfl,ho,hb⟩;have:=hn.two;obtain ⟨g',c',rfl,-⟩:=bL ho lg;exact ⟨_,_,_,rfl,fun h=>lg,hb⟩
set_option maxHeartbeats 1600000 in
theorem xB:LayC 0:=by
 intro S w a b ha hb bl L R hn hS hbox ka kb am an hz;obtain rfl:ha=0:=lg;obtain rfl:hb=0:=lg;have c1:=gG ka;have c2:=fun W (hW:zm w w W)=>gG (kb.later hW);have k1:=(ka.hgt lj).later;have k2:=(kb.hgt lj).later;have HR:=zk (fun (W:zn) (hW:zm w w W)=>vE hW (ka.later hW) (kb.later hW));rw [show ((0:Nat):Int)=0 from rfl] at k1 k2;have C1:=zk c1;have C2:=zk c2;have K1:=zk k1;have K2:=zk k2;clear c1 c2 k1 k2 ka kb hS hz hbox;go_enter func191,ntmps191;go_wp2_with fail;refine C1.out.mono ?_;rintro e w1 ⟨rfl,aa⟩;have ab:=zk aa;clear aa;go_wp2_with fail;refine (mw ab.out (C2.out _ ab.out)).mono ?_;rintro e w2 ⟨rfl,ac⟩;have ah:=zk ac;clear ac;go_wp2_with fail;refine (K1.out _ ah.out).mono ?_;rintro e w3 ⟨rfl,ad⟩;have ai:=zk ad;clear ad;go_wp2_with fail;refine (K2.out _ ai.out).mono ?_;rintro e w4 ⟨rfl,ae⟩;have aj:=zk ae;clear ae;go_wp2_with fail;refine (K1.out _ aj.out).mono ?_;rintro e w5 ⟨rfl,af⟩;have ak:=zk af;clear af;go_wp2_with fail;refine (K2.out _ ak.out).mono ?_;rintro e w6 ⟨rfl,ag⟩;have al:=zk ag;clear ag;go_wp2;go_ret;exact HR.out w6 al.out
theorem pK {K:List pd} (hS:qg S w) (p:m7 w (ph S w) g 0 n h K) (h2:2≤n) (h16:n≤16) (hc:n≤c) :
 zp prog 193 #[zo (some ⟨g,0,none⟩) n c] w (pt S w (h+1) (flat K)):=by
 rcases Nat.lt_or_ge n 9 with h9|h9
 ·exact MU hS p h2 lg
 ·exact IW hS p h9 h16 hc
theorem xx.at' {p:Option Addr} {h:Int} (k:xx w p h):∀ W,zm w w W→zp prog 175 #[zq p] W fun e w'=>e=zt (.int .i64 h)∧zm W.heap.size W w':=
 fun W hb=>(k.on hb).call
theorem mO {o:Nat} {l:List zv} (h:qr w g o l):∀ j u,l[j]? = some u→w ((⟨g,o,none⟩:Addr).add j)=some u:=fun j u hj=>by
 obtain ⟨hj1,rfl⟩:=Ak.1 hj;rw [show (⟨g,o,none⟩:Addr).add j=⟨g,o+j,none⟩ by unfold Addr.add;split <;> simp_all];exact h.2 j hj1
theorem iE {t:TypeId} {l:List zv} (ho:w.ownsRow base t 1 (zo (some ⟨g,0,none⟩) n c) n l) (h0:0<n):n≤c∧base≤g∧qr w g 0 l:=by
 obtain ⟨g1,c1,e,hc,hb,hr⟩:=bL ho h0;simp only [Ad,Ae,Addr.mk.injEq,and_true,true_and] at e;obtain ⟨rfl,rfl⟩:=e;exact ⟨hc,hb,hr⟩
theorem mb.lessS {r:Nat} (k:mb w (ph (r::S) w) h b L):mb w (ph S w) h b L:=k.weak fun i hi=>⟨hi.1,fun g=>hi.2 (Ag _ g)⟩
theorem xI {S:List Nat} {w w5 w6:zn} {h g' m c5 r g5 cap N:Nat} {K0 K2:List pd} {L R xL:List ByteArray} (hk0:∀ k∈K0,mb w (ph S w) h k.b k.L) (hl:K0.length=m) (hL:L=flat K0++xL) (hb:zm w w w5) (hg':w≤g')
 (hk2:∀ k∈K2,mb w5 (ph (r::g'::S) w5) h k.b k.L) (hf:flat K2=xL++R) (hN:m+K2.length=N) (h0:0<N) (hh:h≤900) (hz:(ly (L++R)).size≤1000000)
 (ho:w6.ownsRow w 128 1 (zo (some ⟨g5,0,none⟩) N cap) N (nu K0++nu K2)) (hg:w5.grownBy w6 (some g')) :
 m7 w6 (ph S w6) g5 0 N h (K0++K2)∧flat (K0++K2)=L++R:=by
 have e:flat (K0++K2)=L++R:=by rw [od,hf,hL,Aa]
 exact ⟨pF (fun k hk=>(hk0 k hk).beside hb hg') (fun k hk=>(hk2 k hk).lessS) hg ho lg h0 hh (by rw [e];exact hz),e⟩
theorem uQ {S:List Nat} {w w5 w6:zn} {h m r g5 cap N:Nat} {K0 K2:List pd} {L R xL:List ByteArray} (hk0:∀ k∈K0,mb w (ph S w) h k.b k.L) (hl:K0.length=m) (hR:R=xL++flat K0) (hb:zm w w w5) (hr:w≤r)
 (hk2:∀ k∈K2,mb w5 (ph (r::S) w5) h k.b k.L) (hf:flat K2=L++xL) (hN:K2.length+m=N) (h0:0<N) (hh:h≤900) (hz:(ly (L++R)).size≤1000000)
 (ho:w6.ownsRow w 128 1 (zo (some ⟨g5,0,none⟩) N cap) N (nu K2++nu K0)) (hg:w5.grownBy w6 (some r)) :
 m7 w6 (ph S w6) g5 0 N h (K2++K0)∧flat (K2++K0)=L++R:=by
 have e:flat (K2++K0)=L++R:=by rw [od,hf,hR,Aa]
 exact ⟨pF hk2 (fun k hk=>(hk0 k hk).beside hb hr) hg ho lg h0 hh (by rw [e];exact hz),e⟩
set_option maxHeartbeats 1600000 in
theorem ND {z:Nat} (ih:LayC z) {a hb bl:Nat} {R:List ByteArray} (hn:h+hb≤z) (hS:qg S w) (hbox:w ⟨bl,0,none⟩=some (vu bl)) (ka:mb w (ph S w) (h+1) a L) (kb:mb w (ph S w) hb b R) (hlt:hb<h+1) (ha8:h+1≤800)
 (hz:(ly (L++R)).size≤1000000):zp prog 191 #[pv a,pv b,zq (some ⟨bl,0,none⟩)] w (pt S w (h+1) (L++R)):=by
 obtain ⟨i0,hi,a6,a7,a8⟩:=zz dD;have k1:=(ka.hgt lg).at';have k2:=(kb.hgt lg).at';have c2:=fun W (hW:zm w w W)=>tT (kb.later hW) lg;obtain ⟨M,g,c,hM,rfl,-⟩:=ka.node;have c1:=eB hM lg;obtain ⟨m,hm⟩:∃ m,M.length=m+1:=⟨M.length - 1,by have:=hM.two;omega⟩;have bf:1≤m:=by have:=hM.two;omega
 have bg:m≤7:=by have:=hM.eight;omega
 obtain ⟨x,hx⟩:∃ x,M[m]' lg=x:=⟨_,rfl⟩;have hMs:M=M.take m++[x]:=by
  have:=List.take_succ_eq_append_getElem (l:=M) (i:=m) lg;rw [List.take_of_length_le lg,hx] at this;exact this
 have hML:flat M=flat (M.take m)++x.L:=by
  conv=>lhs;rw [hMs]
  rw [od,dI]
 have aq:∀ k∈M.take m,mb w (ph S w) h k.b k.L:=fun k hk=>hM.kids k (List.mem_of_mem_take hk);have af:(M.take m).length=m:=by rw [Ao];omega
 have ar:(nu M).take m=nu (M.take m):=by unfold nu;rw [List.map_take]
 have hpx:∀ (W:zn) (g':Nat),qr W g' 0 (nu M)→W ⟨g',m,none⟩=some (pv x.b):=fun W g' hp=>by
  have:=hp.2 m (by rw [aP];omega);rw [show (nu M)[m]'(by rw [aP];omega)=pv x.b by rw [← hx];simp [nu],Ab] at this;exact this
 have kx:mb w (ph S w) h x.b x.L:=by rw [← hx];exact hM.kids _ (Al _)
 have hxz:(ly (x.L++R)).size≤1000000:=by
  rw [hML,Aa,aJ,ByteArray.size_append] at hz;omega
 have hbl:=Ar w _ hbox;have hih:∀ (W:zn) (g':Nat),zm w w W→w≤g'→g'<W→zp prog 191 #[pv x.b,pv b,zq (some ⟨bl,0,none⟩)] W (pt (g'::S) W h (x.L++R)):=fun W g' hW h1 h2=>by
  have:=ih (g'::S) W x.b b h hb bl x.L R hn (fun q hq=>by
   rcases Am.1 hq with rfl|hq
   ·exact h2
   ·exact zx (hS q hq) hW.size) ((hW.cell hbl).trans hbox) (kx.beside hW h1) (kb.beside hW h1) lg lg hxz
  rwa [Au lg] at this
 have hend:=fun (w5 w6:zn) (g' r g5 cap N:Nat) (K2:List pd)=>@xI S w w5 w6 h g' m 0 r g5 cap N (M.take m) K2 (flat M) R x.L aq af hML;obtain ⟨xb,hxb⟩:∃ xb,x.b=xb:=⟨_,rfl⟩;rw [hxb] at hpx hih;obtain ⟨u,hu⟩:∃ u:Int,((h+1:Nat):Int)=u:=⟨_,rfl⟩;obtain ⟨v,hv⟩:∃ v:Int,(hb:Int)=v:=⟨_,rfl⟩;have huv:v<u:=lg;rw [hu] at k1;rw [hv] at k2;have K1:=zk k1;have K2:=zk k2;have C1:=zk c1;have C2:=zk c2;have HI:=zk hih;have HE:=zk hend;have HM:=zk hm;have a9:=zk ar;have ba:=zk hpx;have HS:=zk hS;have HZ:=zk hz;have ac:=zk hbox;have ad:=zk hbl;have bh:=zk af;have hh:h≤900:=lg;clear k1 k2 c1 c2 hih hend hm ar hpx hx hMs hML aq af kx hxz hbl hbox hxb hu hv hS hM ka kb hz ih hn hlt ha8;go_enter func191,ntmps191;go_wp2_with fail;refine C1.out.mono ?_;rintro e w1 ⟨v1,rfl,ae,au⟩;obtain ⟨g',c',rfl,hc',hg',av⟩:=bL ae (by rw [HM.out];omega);rw [HM.out] at ae hc' ⊢;have bb:=zk ae;have ag:=zk au;have HG:=zk hg';have aw:=zk av;clear ae au hg' av;go_wp2_with fail;refine (C2.out _ ag.out).mono ?_;rintro e w2 ⟨a2,n2,c2,rfl,-,ah⟩;have ai:=zk (ag.out.trans (ah.mono ag.out.size));have ax:=zk ah;clear ah;go_wp2_with fail;refine (K1.out _ ai.out).mono ?_;rintro e w3 ⟨rfl,aj⟩;have ak:=zk (ai.out.trans (aj.mono ai.out.size));have ay:=zk (ax.out.trans (aj.mono ax.out.size));clear aj;go_wp2_with fail;refine (K2.out _ ak.out).mono ?_;rintro e w4 ⟨rfl,al⟩;have az:=zk (ak.out.trans (al.mono ak.out.size));have am:=zk (ay.out.trans (al.mono ay.out.size));clear al;go_wp2_with fail;have q1:w4 ⟨g',m,none⟩=some (pv xb):=ba.out w4 g' (aw.out.on am.out);have q2:w4.drew ⟨g',m,none⟩=some (pv xb):=q1;have b1:m≤c':=lg;have b2:(m:Int)<(m:Int)+1:=lg;refine Ah (S:=(fun w':zn=>zm w w w'∧w' ⟨bl,0,none⟩=some (vu bl))) lh ⟨az.out.drew,(az.out.cell (p:=⟨bl,0,none⟩) ad.out).trans ac.out⟩ (fun hHeld=>?_);refine lz 0 ?_;refine lz 1 ?_;refine lz 2 ?_;refine lz 4 ?_;refine lz 5 ?_;refine lz 6 ?_;refine lz 8 ?_;refine lz 3 ?_;refine m8 7 fun K hK=>?_;go_simp;refine hK.out _ _ ?_ (fun hHeld=>?_)
 ·exact hHeld
 clear hK K
 try simp only [zr,mj]
 refine m8 9 fun K hK=>?_;go_simp
 (go_at_call 191;refine (HI.out _ g' hHeld.1 HG.out (zx aw.out.1 am.out.size)).mono ?_;rintro e w5 ⟨r,c5,X2,rfl,a0,x1,x2,hf,a1,an⟩;have ab:=zk (hHeld.1.trans (an.mono hHeld.1.size));have a3:=zk (show w5.ownsRow w.heap.size 128 1 (zo (some ⟨g',0,none⟩) m c') m (nu (M.take m)) from by rw [← a9.out];exact OH (cW (cW bb.out am.out.drew) an) lg);have bc:=zk (mO (iE a0 lg).2.2);have bd:=zk hf;have be:=zk a1;clear a0 hf a1 an)
 try go_wp2_with fail
 refine hK.out _ _ ?_ (fun hHeld=>?_)
 ·exact ⟨ab.out,(ab.out.cell (p:=⟨bl,0,none⟩) ad.out).trans ac.out⟩
 clear hK K
 try simp only [zr,mj]
 have ao:w.heap.size≤w5:=ab.out.size;refine m8 10 fun K hK=>?_;refine Av _ rfl (.tmp 29) (.tmp 36) 206 rfl w.heap.size 128 i0 (zq none) 1 8 underlying206 hi a6 a7 a8 rfl lj (zo (some ⟨g',0,none⟩) m c') m (nu (M.take m)) rfl a3.out ⟨r,0,none⟩ X2.length c5 (nu X2) rfl (by rw [aP];omega) bc.out (iG _) lg lq lg ao _ rfl ?_;intro g5 cap w6 hown' hgrow _ _;have aa:=zk (ab.out.grown hgrow ao (aB a3.out));have hJ:=HE.out w5 w6 g' r g5 cap (m+X2.length) X2 ab.out HG.out be.out bd.out rfl lg hh HZ.out hown' hgrow;have ho:=pK (c:=cap) (HS.out.on aa.out.size) hJ.1 lg lg (iE hown' lg).1;rw [hJ.2] at ho;have HO:=zk ho;clear hown' hgrow hJ ho;refine hK.out _ _ ?_ (fun hHeld=>?_)
 ·exact ⟨aa.out,(aa.out.cell (p:=⟨bl,0,none⟩) ad.out).trans ac.out⟩
 clear hK K
 try simp only [zr,mj]
 refine m8 11 fun K hK=>?_;go_simp
 (go_at_call 193;refine HO.out.mono ?_;intro e w7 hr;have HR:=zk (hr.from aa.out);obtain ⟨r7,c7,X7,rfl,-,-,-,-,-,a4⟩:=hr;have a5:=zk (aa.out.trans (a4.mono aa.out.size));clear a4)
 try go_wp2_with fail
 refine hK.out _ _ ?_ (fun hHeld=>?_)
 ·exact ⟨a5.out,(a5.out.cell (p:=⟨bl,0,none⟩) ad.out).trans ac.out⟩
 clear hK K
 try simp only [zr,mj]
 refine lz 12 ?_;refine Ai lh ?_ _;go_wp2_with fail;go_ret;exact HR.out
set_option maxHeartbeats 1600000 in
theorem KF {z:Nat} (ih:LayC z) {a ha bl:Nat} {R:List ByteArray} (hn:ha+h≤z) (hS:qg S w) (hbox:w ⟨bl,0,none⟩=some (vu bl)) (ka:mb w (ph S w) ha a L) (kb:mb w (ph S w) (h+1) b R) (hlt:ha<h+1) (hb8:h+1≤800)
 (hz:(ly (L++R)).size≤1000000):zp prog 191 #[pv a,pv b,zq (some ⟨bl,0,none⟩)] w (pt S w (h+1) (L++R)):=by
 obtain ⟨i0,hi,bb,bc,bd⟩:=zz dD;have k1:=(ka.hgt lg).at';have k2:=(kb.hgt lg).at';have c1:=tT ka lg;obtain ⟨M,g,c,hM,rfl,-⟩:=kb.node;have c2:∀ W,zm w w W→zp prog 192 #[pv b] W (xh W M):=fun W hW=>eB (S:=S) ⟨hM.two,hM.eight,hM.cap,fun k hk=>(hM.kids k hk).later hW,hM.row.on hW,hM.blk.onto hW⟩ lg;have h2:=hM.two;have h8:=hM.eight;cases M with
 | nil=>exact absurd h2 li
 | cons x M =>
 obtain ⟨m,hm⟩:∃ m,M.length=m:=⟨_,rfl⟩;have bk:1≤m:=by rw [Aj] at h2;omega
 have bm:m≤7:=by rw [Aj] at h8;omega
 have hML:flat (x::M)=x.L++flat M:=by simp [flat]
 have ar:∀ k∈M,mb w (ph S w) h k.b k.L:=fun k hk=>hM.kids k (Ag _ hk);have hpx:∀ (W:zn) (g':Nat),qr W g' 0 (nu (x::M))→W ⟨g',0,none⟩=some (pv x.b)∧qr W g' 1 (nu M):=fun W g' hp=>⟨hp.2 0 (by rw [aP];simp),hp.sub 1⟩;have kx:mb w (ph S w) h x.b x.L:=hM.kids _ Ap;have hxz:(ly (L++x.L)).size≤1000000:=by
  rw [hML,← Aa,aJ,ByteArray.size_append] at hz;omega
 have hbl:=Ar w _ hbox;have hih:∀ (W:zn),zm w w W→zp prog 191 #[pv a,pv x.b,zq (some ⟨bl,0,none⟩)] W (pt S W h (L++x.L)):=fun W hW=>by
  have:=ih S W a x.b ha h bl L x.L hn (hS.on hW.size) ((hW.cell hbl).trans hbox) (ka.later hW) (kx.later hW) lg lg hxz;rwa [Aw lg] at this
 have hend:=fun (w5 w6:zn) (r g5 cap N:Nat) (K2:List pd)=>@uQ S w w5 w6 h m r g5 cap N M K2 L (flat (x::M)) x.L ar hm hML;have hpl:(nu M).length=m:=by rw [aP];exact hm
 have ag:(x::M).length=m+1:=by rw [Aj,hm]
 obtain ⟨xb,hxb⟩:∃ xb,x.b=xb:=⟨_,rfl⟩;rw [hxb] at hpx hih;obtain ⟨u,hu⟩:∃ u:Int,((h+1:Nat):Int)=u:=⟨_,rfl⟩;obtain ⟨v,hv⟩:∃ v:Int,(ha:Int)=v:=⟨_,rfl⟩;have huv:v<u:=lg;have bj:¬ u<v:=lg;rw [hv] at k1;rw [hu] at k2;have K1:=zk k1;have K2:=zk k2;have C1:=zk c1;have C2:=zk c2;have HI:=zk hih;have HE:=zk hend;have HM:=zk ag;have be:=zk hpl;have au:=zk hpx;have HS:=zk hS;have HZ:=zk hz;have ad:=zk hbox;have ae:=zk hbl;have hh:h≤900:=lg;clear k1 k2 c1 c2 hih hend ag hpl hm hpx hML ar kx hxz hbl hbox hxb hu hv hS hM ka kb hz ih hn hlt hb8 h2 h8;go_enter func191,ntmps191;go_wp2_with fail;refine C1.out.mono ?_;rintro e w1 ⟨a2,n2,c2,rfl,-,av⟩;have af:=zk av;clear av;go_wp2_with fail;refine (C2.out _ af.out).mono ?_;rintro e w2 ⟨v1,rfl,aw,ax⟩;obtain ⟨g',c',rfl,hc',hg',ay⟩:=bL aw (by rw [HM.out];omega);rw [HM.out] at hc' ⊢;have ah:=zk (af.out.trans (ax.mono af.out.size));have az:=zk (zu w2 w2);have HG:=zk (zy af.out.size hg');have a0:=zk ay;clear aw ax hg' ay;go_wp2_with fail;refine (K1.out _ ah.out).mono ?_;rintro e w3 ⟨rfl,ai⟩;have aj:=zk (ah.out.trans (ai.mono ah.out.size));have a1:=zk (az.out.trans (ai.mono az.out.size));clear ai;go_wp2_with fail;refine (K2.out _ aj.out).mono ?_;rintro e w4 ⟨rfl,ak⟩;have al:=zk (aj.out.trans (ak.mono aj.out.size));have a3:=zk (a1.out.trans (ak.mono a1.out.size));clear ak;go_wp2_with fail;refine (K1.out _ al.out).mono ?_;rintro e w5 ⟨rfl,aa⟩;have am:=zk (al.out.trans (aa.mono al.out.size));have a4:=zk (a3.out.trans (aa.mono a3.out.size));clear aa;go_wp2_with fail;refine (K2.out _ am.out).mono ?_;rintro e w6 ⟨rfl,an⟩;have a5:=zk (am.out.trans (an.mono am.out.size));have a6:=zk (a4.out.trans (an.mono a4.out.size));clear an;go_wp2_with fail;have q1:w6 ⟨g',0,none⟩=some (pv xb):=(au.out w6 g' (a0.out.on a6.out)).1;have q2:w6.drew ⟨g',0,none⟩=some (pv xb):=q1;have b1:m+1≤c':=lg;have b2:¬ c'=1:=lg;have b3:(0:Int)<(m:Int)+1:=lg;have b4:(1:Int)≤(m:Int)+1:=lg;refine Ah (S:=(fun w':zn=>zm w w w'∧w' ⟨bl,0,none⟩=some (vu bl))) lh ⟨a5.out.drew,(a5.out.cell (p:=⟨bl,0,none⟩) ae.out).trans ad.out⟩ (fun hHeld=>?_);refine lz 1 ?_;refine lz 2 ?_;refine lz 3 ?_;refine lz 6 ?_;refine lz 7 ?_;refine lz 0 ?_;refine m8 4 fun K hK=>?_;go_simp;refine hK.out _ _ ?_ (fun hHeld=>?_)
 ·exact hHeld
 clear hK K
 try simp only [zr,mj]
 refine m8 5 fun K hK=>?_;go_simp
 (go_at_call 191;refine (HI.out _ hHeld.1).mono ?_;rintro e w7 ⟨r,c5,X2,rfl,ao,x1,x2,hf,a7,aa⟩;have ac:=zk (hHeld.1.trans (aa.mono hHeld.1.size));have bf:=zk (zy hHeld.1.size (iE ao lg).2.1);have a8:=zk (yJ ao hHeld.1.size);have bg:=zk (mO ((au.out w7 g' ((a0.out.on a6.out.drew).on aa)).2));have bh:=zk hf;have bi:=zk a7;clear ao hf a7 aa)
 try go_wp2_with fail
 refine hK.out _ _ ?_ (fun hHeld=>?_)
 ·exact ⟨ac.out,(ac.out.cell (p:=⟨bl,0,none⟩) ae.out).trans ad.out⟩
 clear hK K
 try simp only [zr,mj]
 have aq:w.heap.size≤w7:=ac.out.size;refine m8 8 fun K hK=>?_;refine Av _ rfl (.tmp 55) (.tmp 57) 206 rfl w.heap.size 128 i0 (zq none) 1 8 underlying206 hi bb bc bd rfl lj (zo (some ⟨r,0,none⟩) X2.length c5) X2.length (nu X2) rfl a8.out ⟨g',1,none⟩ m (c' - 1) (nu M) rfl (by rw [be.out];omega) bg.out (iG _) lg lq lg aq _ rfl ?_;intro g5 cap w6' hown' hgrow _ _;have ab:=zk (ac.out.grown hgrow aq (aB a8.out));have hJ:=HE.out w7 w6' r g5 cap (X2.length+m) X2 ac.out bf.out bi.out bh.out rfl lg hh HZ.out hown' hgrow;have ho:=pK (c:=cap) (HS.out.on ab.out.size) hJ.1 lg lg (iE hown' lg).1;rw [hJ.2] at ho;have HO:=zk ho;clear hown' hgrow hJ ho;refine hK.out _ _ ?_ (fun hHeld=>?_)
 ·exact ⟨ab.out,(ab.out.cell (p:=⟨bl,0,none⟩) ae.out).trans ad.out⟩
 clear hK K
 try simp only [zr,mj]
 refine m8 9 fun K hK=>?_;go_simp
 (go_at_call 193;refine HO.out.mono ?_;intro e w9 hr;have HR:=zk (hr.from ab.out);obtain ⟨r7,c7,X7,rfl,-,-,-,-,-,a9⟩:=hr;have ba:=zk (ab.out.trans (a9.mono ab.out.size));clear a9)
 try go_wp2_with fail
 refine hK.out _ _ ?_ (fun hHeld=>?_)
 ·exact ⟨ba.out,(ba.out.cell (p:=⟨bl,0,none⟩) ae.out).trans ad.out⟩
 clear hK K
 try simp only [zr,mj]
 refine lz 10 ?_;refine Ai lh ?_ _;go_wp2_with fail;go_ret;exact HR.out
set_option maxHeartbeats 1600000 in
theorem PB {a bl:Nat} {R:List ByteArray} (hS:qg S w) (ka:mb w (ph S w) (h+1) a L) (kb:mb w (ph S w) (h+1) b R) (hh8:h+1≤800)
 (hz:(ly (L++R)).size≤1000000):zp prog 191 #[pv a,pv b,zq (some ⟨bl,0,none⟩)] w (pt S w (h+1) (L++R)):=by
 obtain ⟨i0,hi,a3,a4,a5⟩:=zz dD;have k1:=(ka.hgt lg).at';have k2:=(kb.hgt lg).at';obtain ⟨M1,g1,x1,ab,rfl,-⟩:=ka.node;obtain ⟨M2,g2,x2,aa,rfl,-⟩:=kb.node;have c1:=eB ab lg;have c2:∀ W,zm w w W→zp prog 192 #[pv b] W (xh W M2):=fun W hW=>eB (S:=S) ⟨aa.two,aa.eight,aa.cap,fun k hk=>(aa.kids k hk).later hW,aa.row.on hW,aa.blk.onto hW⟩ lg;have hend:∀ (w5 w6:zn) (g' g5 cap N:Nat),zm w w w5→w≤g'→M1.length+M2.length=N→0<N→w6.ownsRow w 128 1 (zo (some ⟨g5,0,none⟩) N cap) N (nu M1++nu M2)→w5.grownBy w6 (some g')→m7 w6 (ph S w6) g5 0 N h (M1++M2):=fun w5 w6 g' g5 cap N hb hg hN h0 ho hgr =>
  pF (fun k hk=>(ab.kids k hk).beside hb hg) (fun k hk=>(aa.kids k hk).beside hb hg) hgr ho hN h0 lg (by rw [od];exact hz)
 have hf:flat (M1++M2)=flat M1++flat M2:=od M1 M2;have p2:=ab.two;have p8:=ab.eight;have q2:=aa.two;have q8:=aa.eight;obtain ⟨n,hn⟩:∃ n,M1.length=n:=⟨_,rfl⟩;obtain ⟨m,hm⟩:∃ m,M2.length=m:=⟨_,rfl⟩;rw [hn] at p2 p8;rw [hm] at q2 q8;rw [hn,hm] at hend;obtain ⟨u,hu⟩:∃ u:Int,((h+1:Nat):Int)=u:=⟨_,rfl⟩;rw [hu] at k1 k2;have K1:=zk k1;have K2:=zk k2;have C1:=zk c1;have C2:=zk c2;have HE:=zk hend;have HN:=zk hn;have HM:=zk hm;have HS:=zk hS;have HF:=zk hf;have hh:h≤900:=lg;clear k1 k2 c1 c2 hend hf hn hm hu hS ab aa ka kb hz hh8;go_enter func191,ntmps191;go_wp2_with fail;refine C1.out.mono ?_;rintro e w1 ⟨v1,rfl,ac,ao⟩;obtain ⟨ga,ca,rfl,hca,hga,-⟩:=bL ac (by rw [HN.out];omega);rw [HN.out] at ac hca ⊢;have a6:=zk ac;have ah:=zk ao;have HG:=zk hga;clear ac ao hga;go_wp2_with fail;refine (C2.out _ ah.out).mono ?_;rintro e w2 ⟨v2,rfl,aq,ai⟩;obtain ⟨gb,cb,rfl,hcb,hgb,ar⟩:=bL aq (by rw [HM.out];omega);rw [HM.out] at hcb ⊢;have aj:=zk (ah.out.trans (ai.mono ah.out.size));have au:=zk ai;have a7:=zk ar;have av:=zk (zu w2 w2);clear aq ai hgb ar;go_wp2_with fail;refine (K1.out _ aj.out).mono ?_;rintro e w3 ⟨rfl,ad⟩;have ak:=zk (aj.out.trans (ad.mono aj.out.size));have aw:=zk (au.out.trans (ad.mono au.out.size));have ax:=zk (av.out.trans (ad.mono av.out.size));clear ad;go_wp2_with fail;refine (K2.out _ ak.out).mono ?_;rintro e w4 ⟨rfl,ae⟩;have al:=zk (ak.out.trans (ae.mono ak.out.size));have ay:=zk (aw.out.trans (ae.mono aw.out.size));have az:=zk (ax.out.trans (ae.mono ax.out.size));clear ae;go_wp2_with fail;refine (K1.out _ al.out).mono ?_;rintro e w5 ⟨rfl,af⟩;have am:=zk (al.out.trans (af.mono al.out.size));have a0:=zk (ay.out.trans (af.mono ay.out.size));have a1:=zk (az.out.trans (af.mono az.out.size));clear af;go_wp2_with fail;refine (K2.out _ am.out).mono ?_;rintro e w6 ⟨rfl,ag⟩;have an:=zk (am.out.trans (ag.mono am.out.size));have a8:=zk (a0.out.trans (ag.mono a0.out.size));have a9:=zk (a1.out.trans (ag.mono a1.out.size));clear ag;have hown:=cW a6.out a8.out;have hsz:w.heap.size≤w6:=an.out.size;have HW:=zk (mO (a7.out.on a9.out));go_wp2_with (at_builtin;refine wpList_append_own _ rfl _ _ 206 rfl w.heap.size 128 i0 (zq none) 1 8 underlying206 hi a3 a4 a5 rfl lj _ _ _ rfl hown ⟨gb,0,none⟩ m cb (nu M2) rfl (by rw [aP,HM.out];omega) HW.out (iG M2) lq lg hsz ?_;intro v' w7 hown' hgrow _);obtain ⟨g5,cap,rfl,hcap,-,-⟩:=bL hown' lg;have a2:=zk (an.out.grown hgrow hsz (aB hown));have hJ:=HE.out w6 w7 ga g5 cap (n+m) an.out HG.out rfl lg hown' hgrow;have ho:=pK (c:=cap) (HS.out.on a2.out.size) hJ lg lg hcap;rw [HF.out] at ho;have HO:=zk ho;clear hown' hgrow hJ ho hown;go_wp2_with fail;refine HO.out.mono ?_;intro e w9 hr;have HR:=zk (hr.from a2.out);obtain ⟨r7,c7,X7,rfl,-,-,-,-,-,ba⟩:=hr;clear ba;go_wp2;go_ret;exact HR.out
theorem RD (n:Nat):LayC n:=by
 induction n with
 | zero=>exact xB
 | succ n ih =>
  intro S w a b ha hb bl L R hn hS hbox ka kb aa ab hz;rcases Nat.lt_trichotomy ha hb with h|h|h
  ·obtain ⟨h',rfl⟩:∃ h',hb=h'+1:=⟨hb - 1,lg⟩;rw [Aw lg];exact KF ih lg hS hbox ka kb h ab hz
  ·subst h;cases ha with
   | zero=>exact xB S w a b 0 0 bl L R lg hS hbox ka kb aa ab hz
   | succ h'=>rw [Nat.max_self];exact PB hS ka kb aa hz
  ·obtain ⟨h',rfl⟩:∃ h',ha=h'+1:=⟨ha - 1,lg⟩;rw [Au lg];exact ND ih lg hS hbox ka kb h aa hz
end Go.Proofs.YtbagenpobcgjnaaGreat
