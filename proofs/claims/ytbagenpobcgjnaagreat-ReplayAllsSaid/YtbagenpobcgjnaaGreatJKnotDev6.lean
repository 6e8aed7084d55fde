/-
  Joined: KnotDev6, WeldLay.
-/
import Derived.Test.YtbagenpobcgjnaaGreatJKnotDev4
open Go renaming Calls->yz,Value->zh,World->yx,info_parts->zm,step_append_lies->Ag,wpAnyH_done->zu,wp_region_held_drew->zt
open Go.Act renaming put->ze
open Go.Ending renaming returned->zf
open Go.Lib renaming hid->yv
open Go.RowKit renaming Below->yw
open Go.RowKit.Below renaming refl->zg
open Go.Value renaming pointer->zd,slice->yy
open Go.Value.slice renaming injEq->zp
open Go.World renaming block_lt_of_cell?->Ae,ownsRow_lit->zz
open List renaming append_assoc->zn,getElem?_eq_some_iff->zw,getElem_mem->zx,length_cons->zv,length_take->Aa,mem_cons->zy,mem_cons_of_mem->zs,mem_cons_self->Ab
open Nat renaming le_refl->zi,le_trans->zk,lt_of_lt_of_le->zj,max_eq_left->Af,max_eq_right->Ah,zero_add->zo
open Option.some renaming injEq->zq
variable {L:List ByteArray} {S:List Nat} {b base c g h n:Nat} {w w':Go.World}
namespace Go.Proofs.YtbagenpobcgjnaaGreat
open Go.RowKit
set_option linter.unusedVariables false
set_option linter.unusedSimpArgs false
open Go.Proofs.Tryz
set_option maxRecDepth 100000
open Lib (hid)
def pj (S:List Nat) (w:yx) (i:Nat):Prop:=i<w∧i ∉ S
def qf (S:List Nat) (w:yx):Prop:=∀ m∈S,m<w.heap.size
theorem qf.on (h:qf S w) (hs:w.heap.size≤w'):qf S w':=fun m hm=>zj (h m hm) hs
theorem pj.on {i:Nat} (h:pj S w i) (hs:w.heap.size≤w'):pj S w' i:=⟨zj h.1 hs,h.2⟩
theorem AC {i:Nat} (hS:qf S w) (h1:w≤i) (h2:i<w'):pj S w' i:=⟨h2,fun g=>by have:=hS i g;omega⟩
theorem l9.later (k:l9 w (pj S w) h b L) (hb:yw w w w'):l9 w' (pj S w') h b L:=
 (k.below hb fun _ h=>h.1).weak fun i hi=>hi.on hb.size
theorem l9.apartS (k:l9 w (pj S w) h b L) (ha:lu S w w'):l9 w' (pj S w') h b L:=
 (k.keep ha.size fun i hi=>ha.block i hi.1 hi.2).weak fun i hi=>hi.on ha.size
theorem tp.made {K:List pg} (n:tp w' (pj S w) h b K g c) (hS:qf S w) (hb:w≤b) (hg:w≤g) (hs:w.heap.size≤w'):l9 w' (pj S w') (h+1) b (flat K):=
 n.knot (fun i hi=>hi.on hs) (AC hS hb n.blk.lt) (AC hS hg n.row.1)
def wq (w:yx) (K:List pg) (e:Ending) (w':yx):Prop:=∃ v,e=zf v∧w'.ownsRow w 128 1 v K.length (ns K)∧yw w w w'
theorem AV {o:Nat} {l:List zh} (hl:l.length=n) (hn:n≤1000000) (hr:qp w g o l) (h1:∀ u∈l,u.oneCell'=true) :
 yz prog 212 #[yy (some ⟨g,o,none⟩) n c] w fun e w'=>∃ v',e=zf v'∧w'.ownsRow w 128 1 v' n l∧yw w w w':=by
 obtain ⟨i0,hi,aa,ab,ac⟩:=zm cW;refine (AnyE.slices_Clone Tryz.knClone i0 (zd none) 1 8 hi aa ab ac rfl li (fun w=>by exact Tryz.sizeOf128 w) g o n c l w lf ln lf (fun j u hj=>?_) h1).mono ?_
 ·obtain ⟨ad,rfl⟩:=zw.1 hj;exact hr.2 j ad
 ·rintro e w' ⟨v',rfl,hown,hne,hb⟩;exact ⟨v',rfl,hown,hb⟩
theorem NX {B:Nat→Prop} {K:List pg} (hk:tp w B h b K g c) :
 yz prog 208 #[pv b] w (wq w K):=by
 obtain ⟨-,-,-,-,-,-,c6⟩:=l6.seven hk.blk;have h8:=hk.eight;have ck:=AV (c:=c) (aP K) lf hk.row (gW K);have CK:=yv ck;obtain ⟨n,hn⟩:∃ n,K.length=n:=⟨_,rfl⟩;have HN:=yv hn;rw [hn] at c6 CK;clear ck hk hn h8;go_enter func208,ntmps208;go_wp2_with fail;refine CK.out.mono ?_;rintro e w1 ⟨v',rfl,ho,hb⟩;have HQ:=yv (And.intro ho hb);clear ho hb;go_wp2;go_ret;exact ⟨v',rfl,by rw [HN.out];exact HQ.out.1,HQ.out.2⟩
set_option maxHeartbeats 800000 in
theorem dN {K:List pg} (hk:tp w (pj S w) h b K g c) (hh:h≤900) :
 yz prog 192 #[pv b] w (wq w K):=by
 have ck:=NX hk;have h2:=hk.two;have h8:=hk.eight;obtain ⟨n,hn⟩:∃ n,K.length=n:=⟨_,rfl⟩;rw [hn] at h2 h8;have CK:=yv ck;have HK:=yv hk;have HN:=yv hn;clear ck hk hn;go_enter func192,ntmps192;go_wp2_with fail;refine CK.out.mono ?_;rintro e w1 ⟨v',rfl,ho,ab⟩;obtain ⟨g',c',rfl,hc',hg',hr⟩:=bH ho (by rw [HN.out];omega);rw [HN.out] at hc' ho ⊢;have HO:=yv ho;have aa:=yv ab;have HR:=yv hr;clear ho ab hr hg';go_wp2
 go_loopw [10] (fun i wr=>∃ k:Nat,k≤n∧i=.int .i64 k∧yw w1 w1 wr) (fun i _=>n - (intOf i).toNat)
 case atStart=>exact ⟨0,Nat.zero_le _,rfl,zg _ _⟩
 case round =>
  obtain ⟨k,hkn,rfl,hbel⟩:=hrel;by_cases hlt:k<n
  ·have hkl:k<K.length:=by rw [HN.out];exact hlt
   have hbw:=aa.out.trans (hbel.mono aa.out.size);have q0:=(HR.out.on hbel).2 k (by rw [aP];exact hkl);rw [show (ns K)[k]'(by rw [aP];exact hkl)=pv K[k].b by simp [ns],zo] at q0;have kk:=(((HK.out.kids K[k] (zx hkl)).later hbw).hgt lf).later;have kb:=(xg.on (.inr ⟨b,_,_,_,_,_,_,_,_,rfl,lf,lf,lf,HK.out.blk⟩:xg w (some ⟨b,0,none⟩) ((h:Int)+1)) hbw).later;obtain ⟨bk,hbk⟩:∃ bk,K[k].b=bk:=⟨_,rfl⟩;rw [hbk] at q0 kk;have HB:=yv hbel;have KK:=yv kk;have KB:=yv kb;clear hbel kk kb hbk hkl hbw;go_wp2_with fail;refine (KK.out _ (zg _ _)).mono ?_;rintro e w2 ⟨rfl,ac⟩;have ae:=yv ac;clear ac;go_wp2_with fail;refine (KB.out _ ae.out).mono ?_;rintro e w3 ⟨rfl,ad⟩;have af:=yv ad;clear ad;go_wp2;go_roundw
   case rel=>exact ⟨k+1,lf,by go_num,HB.out.trans (af.out.mono HB.out.size)⟩
   case measure=>simp [intOf];omega
  ·obtain rfl:k=n:=lf;have HB:=yv hbel;clear hbel;go_wp2;go_ret;exact ⟨_,rfl,by rw [HN.out];exact cH HO.out HB.out,aa.out.trans (HB.out.mono aa.out.size)⟩
set_option maxHeartbeats 800000 in
theorem GC (w:yx):yz prog 192 #[zd none] w fun e w'=>e=zf (yy none 0 0)∧yw w w w':=by
 have ck:=NP w;have CK:=yv ck;clear ck;go_enter func192,ntmps192;go_wp2_with fail;refine CK.out.mono ?_;rintro e w1 ⟨rfl,aa⟩;have ab:=yv aa;clear aa;go_wp2
 go_loopw [10] (fun i wr=>i=.int .i64 0∧wr=w1) (fun i _=>0)
 case atStart=>exact ⟨rfl,rfl⟩
 case round =>
  obtain ⟨rfl,rfl⟩:=hrel;go_wp2;go_ret;exact ⟨rfl,ab.out⟩
set_option maxHeartbeats 800000 in
theorem gE (hk:l9 w (pj S w) 0 b L) :
 yz prog 192 #[pv b] w fun e w'=>e=zf (yy none 0 0)∧yw w w w':=by
 obtain ⟨-,s,-,-,hB⟩:=hk;have ck:=GW hB;have CK:=yv ck;clear ck hB;go_enter func192,ntmps192;go_wp2_with fail;refine CK.out.mono ?_;rintro e w1 ⟨rfl,aa⟩;have ab:=yv aa;clear aa;go_wp2
 go_loopw [10] (fun i wr=>i=.int .i64 0∧wr=w1) (fun i _=>0)
 case atStart=>exact ⟨rfl,rfl⟩
 case round =>
  obtain ⟨rfl,rfl⟩:=hrel;go_wp2;go_ret;exact ⟨rfl,ab.out⟩
def px (S:List Nat) (w:yx) (h:Nat) (L:List ByteArray) (e:Ending) (w':yx):Prop:=
 ∃ (r c:Nat) (K:List pg),e=zf (yy (some ⟨r,0,none⟩) K.length c)∧w'.ownsRow w 128 1 (yy (some ⟨r,0,none⟩) K.length c) K.length (ns K)∧1≤K.length∧K.length≤2∧flat K=L∧(∀ k∈K,l9 w' (pj (r::S) w') h k.b k.L)∧yw w w w'
theorem l9.beside {r:Nat} (k:l9 w (pj S w) h b L) (hb:yw w w w') (hr:w≤r):l9 w' (pj (r::S) w') h b L:=
 (k.below hb fun _ h=>h.1).weak fun i hi=>⟨zj hi.1 hb.size,fun g=>by
  rcases zy.1 g with rfl|g
  ·have:=hi.1;omega
  ·exact hi.2 g⟩
theorem PE {w1:yx} (hb:yw w w w1) (k:l9 w1 (pj S w1) h b L) :
 px S w h L (zf (yy (some ⟨w1,0,none⟩) 1 1)) (w1.alloc (.cells #[pv b] 128)):=
 ⟨w1,1,[⟨b,L⟩],rfl,zz w1 #[pv b] 1 hb.size li rfl,zi _,lh,by simp [flat],fun x hx=>by
  rw [List.mem_singleton.1 hx];exact k.beside ((zg _ _).alloc (zi _) _) (zi _),hb.alloc hb.size _⟩
theorem uH {w1:yx} {b':Nat} {L':List ByteArray} (hb:yw w w w1) (k:l9 w1 (pj S w1) h b L) (k':l9 w1 (pj S w1) h b' L') :
 px S w h (L++L') (zf (yy (some ⟨w1,0,none⟩) 2 2)) (w1.alloc (.cells #[pv b,pv b'] 128)):=
 ⟨w1,2,[⟨b,L⟩,⟨b',L'⟩],rfl,zz w1 #[pv b,pv b'] 2 hb.size li rfl,lh,lh,by simp [flat],fun x hx=>by
  simp at hx;rcases hx with rfl|rfl
  ·exact k.beside ((zg _ _).alloc (zi _) _) (zi _)
  ·exact k'.beside ((zg _ _).alloc (zi _) _) (zi _),hb.alloc hb.size _⟩
theorem xN {base' size:Nat} {t:TypeId} {v:zh} {xs:List zh} (h:w.ownsRow base t size v n xs) (hb:base'≤base):w.ownsRow base' t size v n xs:=by
 refine ⟨h.1,?_⟩;rcases h.2 with h2|⟨g,cap,cur,hv,aa,hr⟩
 ·exact .inl h2
 ·exact .inr ⟨g,cap,cur,hv,zk hb aa,hr⟩
theorem MR {k:Nat} {t:TypeId} {xs:List zh} (h:w.ownsRow base t 1 (yy (some ⟨g,0,none⟩) n c) n xs) (hk:k≤n):w.ownsRow base t 1 (yy (some ⟨g,0,none⟩) k c) k (xs.take k):=by
 have h1:=h.1;refine ⟨by rw [Aa];omega,?_⟩;rcases h.2 with ⟨h2,-⟩|⟨g',cap,cur,hv,aa,hg,hc,hm,hs,ht⟩
 ·simp at h2
 ·simp only [zp,zq,Addr.mk.injEq,and_true,true_and] at hv;obtain ⟨rfl,rfl⟩:=hv;refine .inr ⟨g,c,cur,rfl,aa,hg,lf,hm,hs,?_⟩;rw [← ht,List.take_take,Nat.min_eq_left lf,Nat.mul_one]
theorem px.from {w1:yx} {e:Ending} (r:px S w1 h L e w') (hb:yw w w w1):px S w h L e w':=by
 obtain ⟨r,c,K,h1,h2,h3,h4,h5,h6,h7⟩:=r;exact ⟨r,c,K,h1,xN h2 hb.size,h3,h4,h5,h6,hb.trans (h7.mono hb.size)⟩
theorem oK {g' cap:Nat} {K1 K2:List pg} (h1:∀ k∈K1,l9 w (pj (g'::S) w) h k.b k.L) (h2:∀ k∈K2,l9 w (pj (g'::S) w) h k.b k.L)
 (hg:w.grownBy w' (some g')) (ho:w'.ownsRow base 128 1 (yy (some ⟨g,0,none⟩) n cap) n (ns K1++ns K2)) (hn:K1.length+K2.length=n) (h0:0<n) (hh:h≤900) (hz:(lx (flat (K1++K2))).size≤1000000) :
 m7 w' (pj S w') g 0 n h (K1++K2):=by
 obtain ⟨g1,c1,e,-,-,hr⟩:=bH ho h0;simp only [zp,zq,Addr.mk.injEq,and_true,true_and] at e;obtain ⟨rfl,rfl⟩:=e;have step:∀ {b:Nat} {L:List ByteArray},l9 w (pj (g'::S) w) h b L→l9 w' (pj S w') h b L:=fun k =>
  (k.keep hg.size fun i hi=>hg.block i hi.1 fun e=>hi.2 (by injection e with e;rw [e];exact Ab)).weak fun i hi=>⟨zj hi.1 hg.size,fun g=>hi.2 (zs _ g)⟩
 refine ⟨by rw [List.length_append];exact hn,by rw [show ns (K1++K2)=ns K1++ns K2 by simp [ns]];exact hr,fun k hk=>?_,fun i hi=>hi.1,hh,hz⟩;rcases List.mem_append.1 hk with q|q
 ·exact step (h1 k q)
 ·exact step (h2 k q)
set_option maxHeartbeats 800000 in
theorem LE {K:List pg} (hS:qf S w) (p:m7 w (pj S w) g 0 n h K) (h2:2≤n) (h8:n≤8) :
 yz prog 193 #[yy (some ⟨g,0,none⟩) n c] w (px S w (h+1) (flat K)):=by
 have cj:=eD (c:=c) p h2 h8;have CJ:=yv cj;have HS:=yv hS;clear cj p hS;go_enter func193,ntmps193;go_wp2_with fail;refine CJ.out.mono ?_;rintro e w1 ⟨b,g',c',rfl,hb,hg,hkn,aa⟩;have hr:=PE aa (hkn.made HS.out hb hg aa.size);have HR:=yv hr;clear hr hb hg hkn aa;go_wp2;go_ret;exact HR.out
set_option maxHeartbeats 1600000 in
theorem GU {M:List pg} (hS:qf S w) (p:m7 w (pj S w) g 0 n h M) (h9:9≤n) (h16:n≤16) (hc:n≤c) :
 yz prog 193 #[yy (some ⟨g,0,none⟩) n c] w (px S w (h+1) (flat M)):=by
 have cn:=fun W=>IA (a:=some ⟨g,0,none⟩) (n:=n) (c:=c) (w:=W) (.inr lf);obtain ⟨m,hm⟩:∃ m,n / 2=m:=⟨_,rfl⟩;have e1:(n:Int) / 2=(m:Int):=lf;have ak:4≤m:=lf;have am:m≤8:=lf;have ag:2≤n - m:=lf;have ah:n - m≤8:=lf;have hml:m<n:=lf;have cj1:∀ W,yw w w W→yz prog 198 #[yy (some ⟨g,0,none⟩) m c] W (vp W (pj S w) h (M.take m)):=fun W hb=>eD ((p.on hb).head lf) lf lf;have cj2:∀ W,yw w w W→yz prog 198 #[yy (some ⟨g,m,none⟩) (n - m:Nat) (c - m:Nat)] W (vp W (pj S w) h (M.drop m)):=fun W hb=>by
  have:=eD (c:=c - m) ((p.on hb).tail m) ag ah;rwa [zo] at this
 have hf:flat (M.take m)++flat (M.drop m)=flat M:=by rw [← od,List.take_append_drop]
 have CN:=yv cn;have C1:=yv cj1;have C2:=yv cj2;have HS:=yv hS;have HF:=yv hf;have b1:(m:Int)≤(c:Int):=lf;have b2:(m:Int)≤(n:Int):=lf;have b3:¬ c=m:=lf;have b4:m≤c:=lf;have b5:m≤n:=lf;have b6:n≤c:=hc;clear cn cj1 cj2 hS p hf hm h9 ak ag ah;go_enter func193,ntmps193;go_wp2_with fail;refine (CN.out _).mono ?_;rintro e w1 ⟨rfl,ai⟩;have ab:=yv ai;clear ai;go_wp2_with fail;refine zt (S:=(fun w':yx=>yw w1 w1 w')) lg (zg _ _).drew (fun hHeld=>?_);refine ly 0 ?_;refine ly 1 ?_;refine ly 2 ?_;refine ly 4 ?_;refine ly 5 ?_;refine ly 6 ?_;refine m8 3 fun K hK=>?_;go_simp
 (go_at_call 198;refine (C1.out _ (ab.out.trans (hHeld.mono ab.out.size))).mono ?_;rintro e w2 ⟨k1,g1,x1,rfl,q1,q2,q3,aj⟩;have ad:=yv (hHeld.trans (aj.mono hHeld.size));have an:=yv hHeld;have aa:=yv (show w≤k1∧w≤g1∧tp w2 (pj S w) h k1 (M.take m) g1 x1∧yw w w w2 from ⟨by have:=ab.out.size;have:=hHeld.size;omega,by have:=ab.out.size;have:=hHeld.size;omega,q3,ab.out.trans (ad.out.mono ab.out.size)⟩);clear q1 q2 q3 aj)
 try go_wp2_with fail
 refine hK.out _ _ ?_ (fun hHeld=>?_)
 ·exact ad.out
 clear hK K
 try simp only [ze,mj]
 refine m8 7 fun K hK=>?_;go_simp
 (go_at_call 198;refine (C2.out _ aa.out.2.2.2).mono ?_;rintro e w3 ⟨k2,g2,x2,rfl,q1,q2,q3,ae⟩;have af:=yv (ad.out.trans (ae.mono ad.out.size));have ac:=yv (show w2≤k2∧w2≤g2∧tp w3 (pj S w) h k2 (M.drop m) g2 x2∧yw w2 w2 w3 from ⟨q1,q2,q3,ae⟩);clear q1 q2 q3 ae)
 try go_wp2_with fail
 refine hK.out _ _ ?_ (fun hHeld=>?_)
 ·exact af.out
 clear hK K
 try simp only [ze,mj]
 refine m8 8 fun K hK=>?_;go_simp;have al:=yv (af.out.alloc af.out.size (.cells #[pv k1,pv k2] 128))
 try go_wp2_with fail
 refine hK.out _ _ ?_ (fun hHeld=>?_)
 ·exact al.out
 clear hK K
 try simp only [ze,mj]
 refine ly 9 ?_;refine zu lg ?_ _;go_wp2_with fail;go_ret;have kk1:=((aa.out.2.2.1.made HS.out aa.out.1 aa.out.2.1 aa.out.2.2.2.size).later ac.out.2.2.2);have hbw:=aa.out.2.2.2.trans (ac.out.2.2.2.mono aa.out.2.2.2.size);have kk2:=ac.out.2.2.1.made HS.out (zk aa.out.2.2.2.size ac.out.1) (zk aa.out.2.2.2.size ac.out.2.1) hbw.size;have hr:=uH hbw kk1 kk2;rw [HF.out] at hr;exact hr
abbrev vl (bl:Nat):zh:=.func (.func 191) #[] #[zd (some ⟨bl,0,none⟩)]
def LayC (n:Nat):Prop:=∀ (S:List Nat) (w:yx) (a b ha hb bl:Nat) (L R:List ByteArray),ha+hb≤n→qf S w→w ⟨bl,0,none⟩=some (vl bl)→l9 w (pj S w) ha a L→l9 w (pj S w) hb b R→ha≤800→hb≤800 →
 (lx (L++R)).size≤1000000→yz prog 191 #[pv a,pv b,zd (some ⟨bl,0,none⟩)] w (px S w (max ha hb) (L++R))
theorem sI (k:l9 w (pj S w) h b L) (hh:h≤900) :
 yz prog 192 #[pv b] w fun e w'=>∃ a n c,e=zf (yy a n c)∧(h=0→a=none∧n=0∧c=0)∧yw w w w':=by
 cases h with
 | zero=>exact (gE k).mono fun e w' ⟨he,hb⟩=>⟨none,0,0,he,fun _=>⟨rfl,rfl,rfl⟩,hb⟩
 | succ h =>
  obtain ⟨K,g,c,hn,rfl,-⟩:=k.node;refine (dN hn lf).mono ?_;rintro e w' ⟨v,rfl,ho,hb⟩;have:=hn.two;obtain ⟨g',c',rfl,-⟩:=bH ho lf;exact ⟨_,_,_,rfl,fun h=>lf,hb⟩
set_option maxHeartbeats 1600000 in
theorem tT:LayC 0:=by
 intro S w a b ha hb bl L R hn hS hbox ka kb am an hz;obtain rfl:ha=0:=lf;obtain rfl:hb=0:=lf;have c1:=gE ka;have c2:=fun W (hW:yw w w W)=>gE (kb.later hW);have k1:=(ka.hgt li).later;have k2:=(kb.hgt li).later;have HR:=yv (fun (W:yx) (hW:yw w w W)=>uH hW (ka.later hW) (kb.later hW));rw [show ((0:Nat):Int)=0 from rfl] at k1 k2;have C1:=yv c1;have C2:=yv c2;have K1:=yv k1;have K2:=yv k2;clear c1 c2 k1 k2 ka kb hS hz hbox;go_enter func191,ntmps191;go_wp2_with fail;refine C1.out.mono ?_;rintro e w1 ⟨rfl,aa⟩;have ab:=yv aa;clear aa;go_wp2_with fail;refine (my ab.out (C2.out _ ab.out)).mono ?_;rintro e w2 ⟨rfl,ac⟩;have ah:=yv ac;clear ac;go_wp2_with fail;refine (K1.out _ ah.out).mono ?_;rintro e w3 ⟨rfl,ad⟩;have ai:=yv ad;clear ad;go_wp2_with fail;refine (K2.out _ ai.out).mono ?_;rintro e w4 ⟨rfl,ae⟩;have aj:=yv ae;clear ae;go_wp2_with fail;refine (K1.out _ aj.out).mono ?_;rintro e w5 ⟨rfl,af⟩;have ak:=yv af;clear af;go_wp2_with fail;refine (K2.out _ ak.out).mono ?_;rintro e w6 ⟨rfl,ag⟩;have al:=yv ag;clear ag;go_wp2;go_ret;exact HR.out w6 al.out
theorem nZ {K:List pg} (hS:qf S w) (p:m7 w (pj S w) g 0 n h K) (h2:2≤n) (h16:n≤16) (hc:n≤c) :
 yz prog 193 #[yy (some ⟨g,0,none⟩) n c] w (px S w (h+1) (flat K)):=by
 rcases Nat.lt_or_ge n 9 with h9|h9
 ·exact LE hS p h2 lf
 ·exact GU hS p h9 h16 hc
theorem xg.at' {p:Option Addr} {h:Int} (k:xg w p h):∀ W,yw w w W→yz prog 175 #[zd p] W fun e w'=>e=zf (.int .i64 h)∧yw W.heap.size W w':=
 fun W hb=>(k.on hb).call
theorem lC {o:Nat} {l:List zh} (h:qp w g o l):∀ j u,l[j]? = some u→w ((⟨g,o,none⟩:Addr).add j)=some u:=fun j u hj=>by
 obtain ⟨hj1,rfl⟩:=zw.1 hj;rw [show (⟨g,o,none⟩:Addr).add j=⟨g,o+j,none⟩ by unfold Addr.add;split <;> simp_all];exact h.2 j hj1
theorem iA {t:TypeId} {l:List zh} (ho:w.ownsRow base t 1 (yy (some ⟨g,0,none⟩) n c) n l) (h0:0<n):n≤c∧base≤g∧qp w g 0 l:=by
 obtain ⟨g1,c1,e,hc,hb,hr⟩:=bH ho h0;simp only [zp,zq,Addr.mk.injEq,and_true,true_and] at e;obtain ⟨rfl,rfl⟩:=e;exact ⟨hc,hb,hr⟩
theorem l9.lessS {r:Nat} (k:l9 w (pj (r::S) w) h b L):l9 w (pj S w) h b L:=k.weak fun i hi=>⟨hi.1,fun g=>hi.2 (zs _ g)⟩
theorem wV {S:List Nat} {w w5 w6:yx} {h g' m c5 r g5 cap N:Nat} {K0 K2:List pg} {L R xL:List ByteArray} (hk0:∀ k∈K0,l9 w (pj S w) h k.b k.L) (hl:K0.length=m) (hL:L=flat K0++xL) (hb:yw w w w5) (hg':w≤g')
 (hk2:∀ k∈K2,l9 w5 (pj (r::g'::S) w5) h k.b k.L) (hf:flat K2=xL++R) (hN:m+K2.length=N) (h0:0<N) (hh:h≤900) (hz:(lx (L++R)).size≤1000000)
 (ho:w6.ownsRow w 128 1 (yy (some ⟨g5,0,none⟩) N cap) N (ns K0++ns K2)) (hg:w5.grownBy w6 (some g')) :
 m7 w6 (pj S w6) g5 0 N h (K0++K2)∧flat (K0++K2)=L++R:=by
 have e:flat (K0++K2)=L++R:=by rw [od,hf,hL,zn]
 exact ⟨oK (fun k hk=>(hk0 k hk).beside hb hg') (fun k hk=>(hk2 k hk).lessS) hg ho lf h0 hh (by rw [e];exact hz),e⟩
theorem tN {S:List Nat} {w w5 w6:yx} {h m r g5 cap N:Nat} {K0 K2:List pg} {L R xL:List ByteArray} (hk0:∀ k∈K0,l9 w (pj S w) h k.b k.L) (hl:K0.length=m) (hR:R=xL++flat K0) (hb:yw w w w5) (hr:w≤r)
 (hk2:∀ k∈K2,l9 w5 (pj (r::S) w5) h k.b k.L) (hf:flat K2=L++xL) (hN:K2.length+m=N) (h0:0<N) (hh:h≤900) (hz:(lx (L++R)).size≤1000000)
 (ho:w6.ownsRow w 128 1 (yy (some ⟨g5,0,none⟩) N cap) N (ns K2++ns K0)) (hg:w5.grownBy w6 (some r)) :
 m7 w6 (pj S w6) g5 0 N h (K2++K0)∧flat (K2++K0)=L++R:=by
 have e:flat (K2++K0)=L++R:=by rw [od,hf,hR,zn]
 exact ⟨oK hk2 (fun k hk=>(hk0 k hk).beside hb hr) hg ho lf h0 hh (by rw [e];exact hz),e⟩
set_option maxHeartbeats 1600000 in
theorem LZ {z:Nat} (ih:LayC z) {a hb bl:Nat} {R:List ByteArray} (hn:h+hb≤z) (hS:qf S w) (hbox:w ⟨bl,0,none⟩=some (vl bl)) (ka:l9 w (pj S w) (h+1) a L) (kb:l9 w (pj S w) hb b R) (hlt:hb<h+1) (ha8:h+1≤800)
 (hz:(lx (L++R)).size≤1000000):yz prog 191 #[pv a,pv b,zd (some ⟨bl,0,none⟩)] w (px S w (h+1) (L++R)):=by
 obtain ⟨i0,hi,a6,a7,a8⟩:=zm cW;have k1:=(ka.hgt lf).at';have k2:=(kb.hgt lf).at';have c2:=fun W (hW:yw w w W)=>sI (kb.later hW) lf;obtain ⟨M,g,c,hM,rfl,-⟩:=ka.node;have c1:=dN hM lf;obtain ⟨m,hm⟩:∃ m,M.length=m+1:=⟨M.length - 1,by have:=hM.two;omega⟩;have bf:1≤m:=by have:=hM.two;omega
 have bg:m≤7:=by have:=hM.eight;omega
 obtain ⟨x,hx⟩:∃ x,M[m]' lf=x:=⟨_,rfl⟩;have hMs:M=M.take m++[x]:=by
  have:=List.take_succ_eq_append_getElem (l:=M) (i:=m) lf;rw [List.take_of_length_le lf,hx] at this;exact this
 have hML:flat M=flat (M.take m)++x.L:=by
  conv=>lhs;rw [hMs]
  rw [od,dC]
 have aq:∀ k∈M.take m,l9 w (pj S w) h k.b k.L:=fun k hk=>hM.kids k (List.mem_of_mem_take hk);have af:(M.take m).length=m:=by rw [Aa];omega
 have ar:(ns M).take m=ns (M.take m):=by unfold ns;rw [List.map_take]
 have hpx:∀ (W:yx) (g':Nat),qp W g' 0 (ns M)→W ⟨g',m,none⟩=some (pv x.b):=fun W g' hp=>by
  have:=hp.2 m (by rw [aP];omega);rw [show (ns M)[m]'(by rw [aP];omega)=pv x.b by rw [← hx];simp [ns],zo] at this;exact this
 have kx:l9 w (pj S w) h x.b x.L:=by rw [← hx];exact hM.kids _ (zx _)
 have hxz:(lx (x.L++R)).size≤1000000:=by
  rw [hML,zn,aG,ByteArray.size_append] at hz;omega
 have hbl:=Ae w _ hbox;have hih:∀ (W:yx) (g':Nat),yw w w W→w≤g'→g'<W→yz prog 191 #[pv x.b,pv b,zd (some ⟨bl,0,none⟩)] W (px (g'::S) W h (x.L++R)):=fun W g' hW h1 h2=>by
  have:=ih (g'::S) W x.b b h hb bl x.L R hn (fun q hq=>by
   rcases zy.1 hq with rfl|hq
   ·exact h2
   ·exact zj (hS q hq) hW.size) ((hW.cell hbl).trans hbox) (kx.beside hW h1) (kb.beside hW h1) lf lf hxz
  rwa [Af lf] at this
 have hend:=fun (w5 w6:yx) (g' r g5 cap N:Nat) (K2:List pg)=>@wV S w w5 w6 h g' m 0 r g5 cap N (M.take m) K2 (flat M) R x.L aq af hML;obtain ⟨xb,hxb⟩:∃ xb,x.b=xb:=⟨_,rfl⟩;rw [hxb] at hpx hih;obtain ⟨u,hu⟩:∃ u:Int,((h+1:Nat):Int)=u:=⟨_,rfl⟩;obtain ⟨v,hv⟩:∃ v:Int,(hb:Int)=v:=⟨_,rfl⟩;have huv:v<u:=lf;rw [hu] at k1;rw [hv] at k2;have K1:=yv k1;have K2:=yv k2;have C1:=yv c1;have C2:=yv c2;have HI:=yv hih;have HE:=yv hend;have HM:=yv hm;have a9:=yv ar;have ba:=yv hpx;have HS:=yv hS;have HZ:=yv hz;have ac:=yv hbox;have ad:=yv hbl;have bh:=yv af;have hh:h≤900:=lf;clear k1 k2 c1 c2 hih hend hm ar hpx hx hMs hML aq af kx hxz hbl hbox hxb hu hv hS hM ka kb hz ih hn hlt ha8;go_enter func191,ntmps191;go_wp2_with fail;refine C1.out.mono ?_;rintro e w1 ⟨v1,rfl,ae,au⟩;obtain ⟨g',c',rfl,hc',hg',av⟩:=bH ae (by rw [HM.out];omega);rw [HM.out] at ae hc' ⊢;have bb:=yv ae;have ag:=yv au;have HG:=yv hg';have aw:=yv av;clear ae au hg' av;go_wp2_with fail;refine (C2.out _ ag.out).mono ?_;rintro e w2 ⟨a2,n2,c2,rfl,-,ah⟩;have ai:=yv (ag.out.trans (ah.mono ag.out.size));have ax:=yv ah;clear ah;go_wp2_with fail;refine (K1.out _ ai.out).mono ?_;rintro e w3 ⟨rfl,aj⟩;have ak:=yv (ai.out.trans (aj.mono ai.out.size));have ay:=yv (ax.out.trans (aj.mono ax.out.size));clear aj;go_wp2_with fail;refine (K2.out _ ak.out).mono ?_;rintro e w4 ⟨rfl,al⟩;have az:=yv (ak.out.trans (al.mono ak.out.size));have am:=yv (ay.out.trans (al.mono ay.out.size));clear al;go_wp2_with fail;have q1:w4 ⟨g',m,none⟩=some (pv xb):=ba.out w4 g' (aw.out.on am.out);have q2:w4.drew ⟨g',m,none⟩=some (pv xb):=q1;have b1:m≤c':=lf;have b2:(m:Int)<(m:Int)+1:=lf;refine zt (S:=(fun w':yx=>yw w w w'∧w' ⟨bl,0,none⟩=some (vl bl))) lg ⟨az.out.drew,(az.out.cell (p:=⟨bl,0,none⟩) ad.out).trans ac.out⟩ (fun hHeld=>?_);refine ly 0 ?_;refine ly 1 ?_;refine ly 2 ?_;refine ly 4 ?_;refine ly 5 ?_;refine ly 6 ?_;refine ly 8 ?_;refine ly 3 ?_;refine m8 7 fun K hK=>?_;go_simp;refine hK.out _ _ ?_ (fun hHeld=>?_)
 ·exact hHeld
 clear hK K
 try simp only [ze,mj]
 refine m8 9 fun K hK=>?_;go_simp
 (go_at_call 191;refine (HI.out _ g' hHeld.1 HG.out (zj aw.out.1 am.out.size)).mono ?_;rintro e w5 ⟨r,c5,X2,rfl,a0,x1,x2,hf,a1,an⟩;have ab:=yv (hHeld.1.trans (an.mono hHeld.1.size));have a3:=yv (show w5.ownsRow w.heap.size 128 1 (yy (some ⟨g',0,none⟩) m c') m (ns (M.take m)) from by rw [← a9.out];exact MR (cH (cH bb.out am.out.drew) an) lf);have bc:=yv (lC (iA a0 lf).2.2);have bd:=yv hf;have be:=yv a1;clear a0 hf a1 an)
 try go_wp2_with fail
 refine hK.out _ _ ?_ (fun hHeld=>?_)
 ·exact ⟨ab.out,(ab.out.cell (p:=⟨bl,0,none⟩) ad.out).trans ac.out⟩
 clear hK K
 try simp only [ze,mj]
 have ao:w.heap.size≤w5:=ab.out.size;refine m8 10 fun K hK=>?_;refine Ag _ rfl (.tmp 29) (.tmp 36) 206 rfl w.heap.size 128 i0 (zd none) 1 8 underlying206 hi a6 a7 a8 rfl li (yy (some ⟨g',0,none⟩) m c') m (ns (M.take m)) rfl a3.out ⟨r,0,none⟩ X2.length c5 (ns X2) rfl (by rw [aP];omega) bc.out (gW _) lf ln lf ao _ rfl ?_;intro g5 cap w6 hown' hgrow _ _;have aa:=yv (ab.out.grown hgrow ao (aA a3.out));have hJ:=HE.out w5 w6 g' r g5 cap (m+X2.length) X2 ab.out HG.out be.out bd.out rfl lf hh HZ.out hown' hgrow;have ho:=nZ (c:=cap) (HS.out.on aa.out.size) hJ.1 lf lf (iA hown' lf).1;rw [hJ.2] at ho;have HO:=yv ho;clear hown' hgrow hJ ho;refine hK.out _ _ ?_ (fun hHeld=>?_)
 ·exact ⟨aa.out,(aa.out.cell (p:=⟨bl,0,none⟩) ad.out).trans ac.out⟩
 clear hK K
 try simp only [ze,mj]
 refine m8 11 fun K hK=>?_;go_simp
 (go_at_call 193;refine HO.out.mono ?_;intro e w7 hr;have HR:=yv (hr.from aa.out);obtain ⟨r7,c7,X7,rfl,-,-,-,-,-,a4⟩:=hr;have a5:=yv (aa.out.trans (a4.mono aa.out.size));clear a4)
 try go_wp2_with fail
 refine hK.out _ _ ?_ (fun hHeld=>?_)
 ·exact ⟨a5.out,(a5.out.cell (p:=⟨bl,0,none⟩) ad.out).trans ac.out⟩
 clear hK K
 try simp only [ze,mj]
 refine ly 12 ?_;refine zu lg ?_ _;go_wp2_with fail;go_ret;exact HR.out
set_option maxHeartbeats 1600000 in
theorem EZ {z:Nat} (ih:LayC z) {a ha bl:Nat} {R:List ByteArray} (hn:ha+h≤z) (hS:qf S w) (hbox:w ⟨bl,0,none⟩=some (vl bl)) (ka:l9 w (pj S w) ha a L) (kb:l9 w (pj S w) (h+1) b R) (hlt:ha<h+1) (hb8:h+1≤800)
 (hz:(lx (L++R)).size≤1000000):yz prog 191 #[pv a,pv b,zd (some ⟨bl,0,none⟩)] w (px S w (h+1) (L++R)):=by
 obtain ⟨i0,hi,bb,bc,bd⟩:=zm cW;have k1:=(ka.hgt lf).at';have k2:=(kb.hgt lf).at';have c1:=sI ka lf;obtain ⟨M,g,c,hM,rfl,-⟩:=kb.node;have c2:∀ W,yw w w W→yz prog 192 #[pv b] W (wq W M):=fun W hW=>dN (S:=S) ⟨hM.two,hM.eight,hM.cap,fun k hk=>(hM.kids k hk).later hW,hM.row.on hW,hM.blk.onto hW⟩ lf;have h2:=hM.two;have h8:=hM.eight;cases M with
 | nil=>exact absurd h2 lh
 | cons x M =>
 obtain ⟨m,hm⟩:∃ m,M.length=m:=⟨_,rfl⟩;have bk:1≤m:=by rw [zv] at h2;omega
 have bm:m≤7:=by rw [zv] at h8;omega
 have hML:flat (x::M)=x.L++flat M:=by simp [flat]
 have ar:∀ k∈M,l9 w (pj S w) h k.b k.L:=fun k hk=>hM.kids k (zs _ hk);have hpx:∀ (W:yx) (g':Nat),qp W g' 0 (ns (x::M))→W ⟨g',0,none⟩=some (pv x.b)∧qp W g' 1 (ns M):=fun W g' hp=>⟨hp.2 0 (by rw [aP];simp),hp.sub 1⟩;have kx:l9 w (pj S w) h x.b x.L:=hM.kids _ Ab;have hxz:(lx (L++x.L)).size≤1000000:=by
  rw [hML,← zn,aG,ByteArray.size_append] at hz;omega
 have hbl:=Ae w _ hbox;have hih:∀ (W:yx),yw w w W→yz prog 191 #[pv a,pv x.b,zd (some ⟨bl,0,none⟩)] W (px S W h (L++x.L)):=fun W hW=>by
  have:=ih S W a x.b ha h bl L x.L hn (hS.on hW.size) ((hW.cell hbl).trans hbox) (ka.later hW) (kx.later hW) lf lf hxz;rwa [Ah lf] at this
 have hend:=fun (w5 w6:yx) (r g5 cap N:Nat) (K2:List pg)=>@tN S w w5 w6 h m r g5 cap N M K2 L (flat (x::M)) x.L ar hm hML;have hpl:(ns M).length=m:=by rw [aP];exact hm
 have ag:(x::M).length=m+1:=by rw [zv,hm]
 obtain ⟨xb,hxb⟩:∃ xb,x.b=xb:=⟨_,rfl⟩;rw [hxb] at hpx hih;obtain ⟨u,hu⟩:∃ u:Int,((h+1:Nat):Int)=u:=⟨_,rfl⟩;obtain ⟨v,hv⟩:∃ v:Int,(ha:Int)=v:=⟨_,rfl⟩;have huv:v<u:=lf;have bj:¬ u<v:=lf;rw [hv] at k1;rw [hu] at k2;have K1:=yv k1;have K2:=yv k2;have C1:=yv c1;have C2:=yv c2;have HI:=yv hih;have HE:=yv hend;have HM:=yv ag;have be:=yv hpl;have au:=yv hpx;have HS:=yv hS;have HZ:=yv hz;have ad:=yv hbox;have ae:=yv hbl;have hh:h≤900:=lf;clear k1 k2 c1 c2 hih hend ag hpl hm hpx hML ar kx hxz hbl hbox hxb hu hv hS hM ka kb hz ih hn hlt hb8 h2 h8;go_enter func191,ntmps191;go_wp2_with fail;refine C1.out.mono ?_;rintro e w1 ⟨a2,n2,c2,rfl,-,av⟩;have af:=yv av;clear av;go_wp2_with fail;refine (C2.out _ af.out).mono ?_;rintro e w2 ⟨v1,rfl,aw,ax⟩;obtain ⟨g',c',rfl,hc',hg',ay⟩:=bH aw (by rw [HM.out];omega);rw [HM.out] at hc' ⊢;have ah:=yv (af.out.trans (ax.mono af.out.size));have az:=yv (zg w2 w2);have HG:=yv (zk af.out.size hg');have a0:=yv ay;clear aw ax hg' ay;go_wp2_with fail;refine (K1.out _ ah.out).mono ?_;rintro e w3 ⟨rfl,ai⟩;have aj:=yv (ah.out.trans (ai.mono ah.out.size));have a1:=yv (az.out.trans (ai.mono az.out.size));clear ai;go_wp2_with fail;refine (K2.out _ aj.out).mono ?_;rintro e w4 ⟨rfl,ak⟩;have al:=yv (aj.out.trans (ak.mono aj.out.size));have a3:=yv (a1.out.trans (ak.mono a1.out.size));clear ak;go_wp2_with fail;refine (K1.out _ al.out).mono ?_;rintro e w5 ⟨rfl,aa⟩;have am:=yv (al.out.trans (aa.mono al.out.size));have a4:=yv (a3.out.trans (aa.mono a3.out.size));clear aa;go_wp2_with fail;refine (K2.out _ am.out).mono ?_;rintro e w6 ⟨rfl,an⟩;have a5:=yv (am.out.trans (an.mono am.out.size));have a6:=yv (a4.out.trans (an.mono a4.out.size));clear an;go_wp2_with fail;have q1:w6 ⟨g',0,none⟩=some (pv xb):=(au.out w6 g' (a0.out.on a6.out)).1;have q2:w6.drew ⟨g',0,none⟩=some (pv xb):=q1;have b1:m+1≤c':=lf;have b2:¬ c'=1:=lf;have b3:(0:Int)<(m:Int)+1:=lf;have b4:(1:Int)≤(m:Int)+1:=lf;refine zt (S:=(fun w':yx=>yw w w w'∧w' ⟨bl,0,none⟩=some (vl bl))) lg ⟨a5.out.drew,(a5.out.cell (p:=⟨bl,0,none⟩) ae.out).trans ad.out⟩ (fun hHeld=>?_);refine ly 1 ?_;refine ly 2 ?_;refine ly 3 ?_;refine ly 6 ?_;refine ly 7 ?_;refine ly 0 ?_;refine m8 4 fun K hK=>?_;go_simp;refine hK.out _ _ ?_ (fun hHeld=>?_)
 ·exact hHeld
 clear hK K
 try simp only [ze,mj]
 refine m8 5 fun K hK=>?_;go_simp
 (go_at_call 191;refine (HI.out _ hHeld.1).mono ?_;rintro e w7 ⟨r,c5,X2,rfl,ao,x1,x2,hf,a7,aa⟩;have ac:=yv (hHeld.1.trans (aa.mono hHeld.1.size));have bf:=yv (zk hHeld.1.size (iA ao lf).2.1);have a8:=yv (xN ao hHeld.1.size);have bg:=yv (lC ((au.out w7 g' ((a0.out.on a6.out.drew).on aa)).2));have bh:=yv hf;have bi:=yv a7;clear ao hf a7 aa)
 try go_wp2_with fail
 refine hK.out _ _ ?_ (fun hHeld=>?_)
 ·exact ⟨ac.out,(ac.out.cell (p:=⟨bl,0,none⟩) ae.out).trans ad.out⟩
 clear hK K
 try simp only [ze,mj]
 have aq:w.heap.size≤w7:=ac.out.size;refine m8 8 fun K hK=>?_;refine Ag _ rfl (.tmp 55) (.tmp 57) 206 rfl w.heap.size 128 i0 (zd none) 1 8 underlying206 hi bb bc bd rfl li (yy (some ⟨r,0,none⟩) X2.length c5) X2.length (ns X2) rfl a8.out ⟨g',1,none⟩ m (c' - 1) (ns M) rfl (by rw [be.out];omega) bg.out (gW _) lf ln lf aq _ rfl ?_;intro g5 cap w6' hown' hgrow _ _;have ab:=yv (ac.out.grown hgrow aq (aA a8.out));have hJ:=HE.out w7 w6' r g5 cap (X2.length+m) X2 ac.out bf.out bi.out bh.out rfl lf hh HZ.out hown' hgrow;have ho:=nZ (c:=cap) (HS.out.on ab.out.size) hJ.1 lf lf (iA hown' lf).1;rw [hJ.2] at ho;have HO:=yv ho;clear hown' hgrow hJ ho;refine hK.out _ _ ?_ (fun hHeld=>?_)
 ·exact ⟨ab.out,(ab.out.cell (p:=⟨bl,0,none⟩) ae.out).trans ad.out⟩
 clear hK K
 try simp only [ze,mj]
 refine m8 9 fun K hK=>?_;go_simp
 (go_at_call 193;refine HO.out.mono ?_;intro e w9 hr;have HR:=yv (hr.from ab.out);obtain ⟨r7,c7,X7,rfl,-,-,-,-,-,a9⟩:=hr;have ba:=yv (ab.out.trans (a9.mono ab.out.size));clear a9)
 try go_wp2_with fail
 refine hK.out _ _ ?_ (fun hHeld=>?_)
 ·exact ⟨ba.out,(ba.out.cell (p:=⟨bl,0,none⟩) ae.out).trans ad.out⟩
 clear hK K
 try simp only [ze,mj]
 refine ly 10 ?_;refine zu lg ?_ _;go_wp2_with fail;go_ret;exact HR.out
set_option maxHeartbeats 1600000 in
theorem MZ {a bl:Nat} {R:List ByteArray} (hS:qf S w) (ka:l9 w (pj S w) (h+1) a L) (kb:l9 w (pj S w) (h+1) b R) (hh8:h+1≤800)
 (hz:(lx (L++R)).size≤1000000):yz prog 191 #[pv a,pv b,zd (some ⟨bl,0,none⟩)] w (px S w (h+1) (L++R)):=by
 obtain ⟨i0,hi,a3,a4,a5⟩:=zm cW;have k1:=(ka.hgt lf).at';have k2:=(kb.hgt lf).at';obtain ⟨M1,g1,x1,ab,rfl,-⟩:=ka.node;obtain ⟨M2,g2,x2,aa,rfl,-⟩:=kb.node;have c1:=dN ab lf;have c2:∀ W,yw w w W→yz prog 192 #[pv b] W (wq W M2):=fun W hW=>dN (S:=S) ⟨aa.two,aa.eight,aa.cap,fun k hk=>(aa.kids k hk).later hW,aa.row.on hW,aa.blk.onto hW⟩ lf;have hend:∀ (w5 w6:yx) (g' g5 cap N:Nat),yw w w w5→w≤g'→M1.length+M2.length=N→0<N→w6.ownsRow w 128 1 (yy (some ⟨g5,0,none⟩) N cap) N (ns M1++ns M2)→w5.grownBy w6 (some g')→m7 w6 (pj S w6) g5 0 N h (M1++M2):=fun w5 w6 g' g5 cap N hb hg hN h0 ho hgr =>
  oK (fun k hk=>(ab.kids k hk).beside hb hg) (fun k hk=>(aa.kids k hk).beside hb hg) hgr ho hN h0 lf (by rw [od];exact hz)
 have hf:flat (M1++M2)=flat M1++flat M2:=od M1 M2;have p2:=ab.two;have p8:=ab.eight;have q2:=aa.two;have q8:=aa.eight;obtain ⟨n,hn⟩:∃ n,M1.length=n:=⟨_,rfl⟩;obtain ⟨m,hm⟩:∃ m,M2.length=m:=⟨_,rfl⟩;rw [hn] at p2 p8;rw [hm] at q2 q8;rw [hn,hm] at hend;obtain ⟨u,hu⟩:∃ u:Int,((h+1:Nat):Int)=u:=⟨_,rfl⟩;rw [hu] at k1 k2;have K1:=yv k1;have K2:=yv k2;have C1:=yv c1;have C2:=yv c2;have HE:=yv hend;have HN:=yv hn;have HM:=yv hm;have HS:=yv hS;have HF:=yv hf;have hh:h≤900:=lf;clear k1 k2 c1 c2 hend hf hn hm hu hS ab aa ka kb hz hh8;go_enter func191,ntmps191;go_wp2_with fail;refine C1.out.mono ?_;rintro e w1 ⟨v1,rfl,ac,ao⟩;obtain ⟨ga,ca,rfl,hca,hga,-⟩:=bH ac (by rw [HN.out];omega);rw [HN.out] at ac hca ⊢;have a6:=yv ac;have ah:=yv ao;have HG:=yv hga;clear ac ao hga;go_wp2_with fail;refine (C2.out _ ah.out).mono ?_;rintro e w2 ⟨v2,rfl,aq,ai⟩;obtain ⟨gb,cb,rfl,hcb,hgb,ar⟩:=bH aq (by rw [HM.out];omega);rw [HM.out] at hcb ⊢;have aj:=yv (ah.out.trans (ai.mono ah.out.size));have au:=yv ai;have a7:=yv ar;have av:=yv (zg w2 w2);clear aq ai hgb ar;go_wp2_with fail;refine (K1.out _ aj.out).mono ?_;rintro e w3 ⟨rfl,ad⟩;have ak:=yv (aj.out.trans (ad.mono aj.out.size));have aw:=yv (au.out.trans (ad.mono au.out.size));have ax:=yv (av.out.trans (ad.mono av.out.size));clear ad;go_wp2_with fail;refine (K2.out _ ak.out).mono ?_;rintro e w4 ⟨rfl,ae⟩;have al:=yv (ak.out.trans (ae.mono ak.out.size));have ay:=yv (aw.out.trans (ae.mono aw.out.size));have az:=yv (ax.out.trans (ae.mono ax.out.size));clear ae;go_wp2_with fail;refine (K1.out _ al.out).mono ?_;rintro e w5 ⟨rfl,af⟩;have am:=yv (al.out.trans (af.mono al.out.size));have a0:=yv (ay.out.trans (af.mono ay.out.size));have a1:=yv (az.out.trans (af.mono az.out.size));clear af;go_wp2_with fail;refine (K2.out _ am.out).mono ?_;rintro e w6 ⟨rfl,ag⟩;have an:=yv (am.out.trans (ag.mono am.out.size));have a8:=yv (a0.out.trans (ag.mono a0.out.size));have a9:=yv (a1.out.trans (ag.mono a1.out.size));clear ag;have hown:=cH a6.out a8.out;have hsz:w.heap.size≤w6:=an.out.size;have HW:=yv (lC (a7.out.on a9.out));go_wp2_with (at_builtin;refine wpList_append_own _ rfl _ _ 206 rfl w.heap.size 128 i0 (zd none) 1 8 underlying206 hi a3 a4 a5 rfl li _ _ _ rfl hown ⟨gb,0,none⟩ m cb (ns M2) rfl (by rw [aP,HM.out];omega) HW.out (gW M2) ln lf hsz ?_;intro v' w7 hown' hgrow _);obtain ⟨g5,cap,rfl,hcap,-,-⟩:=bH hown' lf;have a2:=yv (an.out.grown hgrow hsz (aA hown));have hJ:=HE.out w6 w7 ga g5 cap (n+m) an.out HG.out rfl lf hown' hgrow;have ho:=nZ (c:=cap) (HS.out.on a2.out.size) hJ lf lf hcap;rw [HF.out] at ho;have HO:=yv ho;clear hown' hgrow hJ ho hown;go_wp2_with fail;refine HO.out.mono ?_;intro e w9 hr;have HR:=yv (hr.from a2.out);obtain ⟨r7,c7,X7,rfl,-,-,-,-,-,ba⟩:=hr;clear ba;go_wp2;go_ret;exact HR.out
theorem OS (n:Nat):LayC n:=by
 induction n with
 | zero=>exact tT
 | succ n ih =>
  intro S w a b ha hb bl L R hn hS hbox ka kb aa ab hz;rcases Nat.lt_trichotomy ha hb with h|h|h
  ·obtain ⟨h',rfl⟩:∃ h',hb=h'+1:=⟨hb - 1,lf⟩;rw [Ah lf];exact EZ ih lf hS hbox ka kb h ab hz
  ·subst h;cases ha with
   | zero=>exact tT S w a b 0 0 bl L R lf hS hbox ka kb aa ab hz
   | succ h'=>rw [Nat.max_self];exact MZ hS ka kb aa hz
  ·obtain ⟨h',rfl⟩:∃ h',ha=h'+1:=⟨ha - 1,lf⟩;rw [Af lf];exact LZ ih lf hS hbox ka kb h aa hz
end Go.Proofs.YtbagenpobcgjnaaGreat
