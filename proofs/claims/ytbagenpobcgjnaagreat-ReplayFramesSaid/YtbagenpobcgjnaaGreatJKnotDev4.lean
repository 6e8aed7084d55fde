/-
  Joined: KnotDev4, KnotDev5.
-/
import Derived.Test.YtbagenpobcgjnaaGreatKnotDev3
import Derived.Test.YtbagenpobcgjnaaGreatJMarkRef
import Derived.Test.YtbagenpobcgjnaaGreatKnotShelf
open Go renaming Calls->zr,Value->zt,World->zm,wpList_append_own_at->Ab
open Go.Ending renaming returned->zp
open Go.Lib renaming hid->zk
open Go.RowKit renaming Below->zo
open Go.RowKit.Below renaming refl->zw
open Go.Value renaming pointer->zx,slice->zq,string->zv
open List renaming append_assoc->Af,append_nil->Ah,eq_nil_of_length_eq_zero->Ad,length_append->zy,take_append_drop->Aa
open Nat renaming le_refl->zz,le_trans->zn,lt_of_lt_of_le->zu,lt_or_ge->Aj,zero_le->Ag
variable {L:List ByteArray} {g h lo n o:Nat} {B:Nat→Prop} {v:Go.Value} {w:Go.World}
namespace Go.Proofs.YtbagenpobcgjnaaGreat
open Go.Proofs.Tryz
set_option maxRecDepth 100000
open Lib (hid)
open Go.RowKit
set_option linter.unusedVariables false
set_option linter.unusedSimpArgs false
theorem xP (K:List pd) (x:pd):nu (K++[x])=nu K++[pv x.b]:=by simp [nu]
def Far (v:zt) (w:zm) (k:Nat):Prop:=k<w∧v.ownBlock≠some k
theorem m7.below {w':zm} {N:Nat} {K:List pd} (p:m7 w B g o n h K) (hg:g<N) (hB:∀ i,B i→i<N) (hb:zo N w w'):m7 w' B g o n h K:=
 ⟨p.len,p.row.keep hb.size (hb.block g hg),fun k hk=>(p.kids k hk).below hb hB,fun i hi=>zu (p.lt i hi) hb.size,p.hh,p.size⟩
theorem m7.head {K:List pd} (p:m7 w B g o n h K) {k:Nat} (hk:k≤n):m7 w B g o k h (K.take k):=by
 have hl:=p.len;refine ⟨by rw [List.length_take];omega,?_,fun x hx=>p.kids x (List.mem_of_mem_take hx),p.lt,p.hh,?_⟩
 ·have:=p.row.pre k;rwa [show (nu K).take k=nu (K.take k) by unfold nu;rw [List.map_take]] at this
 ·have e:flat K=flat (K.take k)++flat (K.drop k):=by rw [← od,Aa]
  have:=p.size;rw [e,aJ,ByteArray.size_append] at this;omega
theorem m7.tail {K:List pd} (p:m7 w B g o n h K) (k:Nat):m7 w B g (o+k) (n - k) h (K.drop k):=by
 have hl:=p.len;refine ⟨by rw [List.length_drop];omega,?_,fun x hx=>p.kids x (List.mem_of_mem_drop hx),p.lt,p.hh,?_⟩
 ·have:=p.row.sub k;rwa [show (nu K).drop k=nu (K.drop k) by unfold nu;rw [List.map_drop]] at this
 ·have e:flat K=flat (K.take k)++flat (K.drop k):=by rw [← od,Aa]
  have:=p.size;rw [e,aJ,ByteArray.size_append] at this;omega
theorem m7.weak {B':Nat→Prop} {K:List pd} (p:m7 w B g o n h K) (hB:∀ i,B i→B' i) (hl:∀ i,B' i→i<w.heap.size):m7 w B' g o n h K:=
 ⟨p.len,p.row,fun k hk=>(p.kids k hk).weak hB,hl,p.hh,p.size⟩
theorem NS {w1 w2:zm} {o:Obj} {v':zt} (hgrow:(w1.alloc o).grownBy w2 v.ownBlock) (hat:v'.ownBlock=v.ownBlock∨v'.ownBlock=some (w1.alloc o).heap.size) :
 (∀ k,Far v w1 k→w2.heap[k]? = w1.heap[k]?)∧∀ k,Far v w1 k→Far v' w2 k:=by
 refine ⟨fun k hk=>?_,fun k hk=>?_⟩
 ·rw [hgrow.block k (by simp;have:=hk.1;omega) (fun e=>hk.2 e.symm)];exact Below.heap_alloc w1 o k hk.1
 ·have hs:=hgrow.size;have h1:=hk.1;refine ⟨zu (zu h1 li) hs,fun e=>?_⟩;rcases hat with q|q
  ·exact hk.2 (q ▸ e)
  ·rw [q] at e;simp at e;omega
def tm (lo:Nat) (w:zm) (k:Nat):Prop:=lo≤k∧k<w
structure GpI (lo:Nat) (w:zm) (g h n:Nat) (K:List pd) (m o j:Nat) (K1 U:List pd) (v:zt) (wr:zm):Prop where
 hlo:lo≤w
 own:wr.ownsRow w 128 1 v j (nu U)
 ul:U.length=j
 bel:zo w w wr
 glt:g<w
 rest:m7 wr (tm lo w) g o m h K1
 up:∀ u∈U,mb wr (fun k=>lo≤k∧Far v wr k) (h+1) u.b u.L
 flat:flat U++flat K1=flat K
 sum:j+pm m=pm n
 le:m≤n
 ne:m≠1
theorem GpI.step {lo:Nat} {w:zm} {g h n:Nat} {K:List pd} {m o j:Nat} {K1 U:List pd} {v:zt} {wr:zm} (I:GpI lo w g h n K m o j K1 U v wr) (hm:0<m) (b gb cb:Nat) (w1:zm) (hbb:wr≤b) (hgg:wr≤gb)
 (hkn:ui w1 (tm lo w) h b (K1.take (wq m)) gb cb) (hb1:zo wr wr w1) (v':zt) (w2:zm) (ob:Obj) (ho:w2.ownsRow w 128 1 v' (j+1) (nu U++[pv b]))
 (hgrow:(w1.alloc ob).grownBy w2 v.ownBlock) (hat:v'.ownBlock=v.ownBlock∨v'.ownBlock=some (w1.alloc ob).heap.size) :
 GpI lo w g h n K (m - wq m) (o+wq m) (j+1) (K1.drop (wq m)) (U++[⟨b,_root_.Go.Proofs.YtbagenpobcgjnaaGreat.flat (K1.take (wq m))⟩]) v' w2:=by
 have hsz:=I.bel.size;have ab:=hb1.size;have hbel:zo w wr w2:=((hb1.mono hsz).alloc lg ob).grown hgrow lr fun k hk=>(I.own.lt k hk).1;obtain ⟨f1,f2⟩:=NS hgrow hat;have aa:w1.heap.size≤w2:=zn li hgrow.size;have hlo:=I.hlo;have hw:∀ k,tm lo w k→lo≤k∧Far v w1 k:=fun k hk=>⟨hk.1,by have:=hk.2;omega,fun e=>by have:=(I.own.lt k e).1;have:=hk.2;omega⟩;have hr:∀ k,(lo≤k∧Far v wr k)→lo≤k∧Far v w1 k:=fun k hk=>⟨hk.1,zu hk.2.1 ab,hk.2.2⟩;have hn:∀ k,wr.heap.size≤k→k<w1.heap.size→lo≤k∧Far v w1 k:=fun k hk ac=>⟨lg,ac,fun e=>by have:=(I.own.lt k e).2;omega⟩;have f3:∀ k,(lo≤k∧Far v w1 k)→lo≤k∧Far v' w2 k:=fun k hk=>⟨hk.1,f2 k hk.2⟩;refine ⟨hlo,by rw [xP];exact ho,by rw [zy,I.ul];rfl,I.bel.trans hbel,I.glt,(I.rest.tail _).below I.glt (fun i hi=>hi.2) hbel,fun u hu=>?_,?_,?_,by have:=I.le;omega,vQ I.ne⟩
 ·rcases List.mem_append.1 hu with q|q
  ·exact ((((I.up u q).below hb1 fun i hi=>hi.2.1).weak hr).keep aa fun k hk=>f1 k hk.2).weak f3
  ·rw [List.mem_singleton.1 q];exact ((hkn.knot hw (hn b hbb hkn.blk.lt) (hn gb hgg hkn.row.1)).keep aa fun k hk=>f1 k hk.2).weak f3
 ·rw [od,dI,Af,← od,Aa];exact I.flat
 ·have:=I.sum;rw [gF hm] at this;omega
theorem GpI.zero {K:List pd} {m j:Nat} {K1 U:List pd} {wr:zm} (I:GpI lo w g h n K (m - m) o j K1 U v wr) (o':Nat):GpI lo w g h n K 0 o' j K1 U v wr:=by
 rw [Nat.sub_self] at I;obtain rfl:K1=[]:=Ad I.rest.len;exact ⟨I.hlo,I.own,I.ul,I.bel,I.glt,⟨rfl,⟨I.rest.row.1,fun j hj=>absurd hj (by simp [nu])⟩,I.rest.kids,I.rest.lt,I.rest.hh,I.rest.size⟩,I.up,I.flat,I.sum,Ag _,lg⟩
def wc (lo:Nat) (w:zm) (h n:Nat) (K:List pd) (e:Ending) (w':zm):Prop:=
 ∃ g' c' K',e=zp (zq (some ⟨g',0,none⟩) (pm n) c')∧pm n≤c'∧m7 w' (tm lo w') g' 0 (pm n) (h+1) K'∧flat K'=flat K∧zo w w w'
theorem bL {base:Nat} {t:TypeId} {l:List zt} (h:w.ownsRow base t 1 v n l) (h0:0<n):∃ g c,v=zq (some ⟨g,0,none⟩) n c∧n≤c∧base≤g∧qr w g 0 l:=by
 rcases h.2 with ⟨rfl,h1⟩|⟨g,cap,cur,rfl,hb,hB,hc,_⟩
 ·omega
 ·refine ⟨g,cap,rfl,hc,hb,(Array.getElem?_eq_some_iff.1 hB).1,fun j hj=>?_⟩;have:=h.cells (g:=g) rfl j _ (List.getElem?_eq_getElem hj);rwa [show (⟨g,0,none⟩:Addr).add j=⟨g,0+j,none⟩ by unfold Addr.add;split <;> simp_all] at this
theorem GpI.done {K:List pd} {j:Nat} {K1 U:List pd} {wr:zm} (I:GpI lo w g h n K 0 o j K1 U v wr) (hn:0<n) (hh:h+1≤900) (hz:(ly (_root_.Go.Proofs.YtbagenpobcgjnaaGreat.flat K)).size≤1000000)  :wc lo w h n K (zp v) wr:=by
 have hs:=I.sum;rw [fS,Nat.add_zero] at hs;obtain rfl:K1=[]:=Ad I.rest.len;have hf:=I.flat;rw [show _root_.Go.Proofs.YtbagenpobcgjnaaGreat.flat []=[] from rfl,Ah] at hf;have ho:=I.own;rw [hs] at ho;obtain ⟨g',c',rfl,q1,q2,q3⟩:=bL ho (oH hn);exact ⟨g',c',U,rfl,q1,⟨by rw [I.ul,hs],q3,fun k hk=>(I.up k hk).weak fun i hi=>⟨hi.1,hi.2.1⟩,fun i hi=>hi.2,hh,by rw [hf];exact hz⟩,hf,I.bel⟩
set_option maxHeartbeats 1600000 in
theorem zY {c:Nat} {K:List pd} (hlo:lo≤w) (p:m7 w (tm lo w) g o n h K) (h8:8<n) (hn:n≤800) (hh:h+1≤900) (hc:n≤c) :
 zr prog 197 #[zq (some ⟨g,o,none⟩) n c] w (wc lo w h n K):=by
 obtain ⟨i0,hi,ae,af,ag⟩:=info_parts dD;have HP:=zk p;clear p;go_enter func197,ntmps197;go_wp2
 go_loopw [0,3] (fun t v wr=>∃ (m o' c' j:Nat) (K1 U:List pd) (u:zt),t=zq (some ⟨g,o',none⟩) m c'∧u=v∧m≤c'∧GpI lo w g h n K m o' j K1 U u wr) (fun t _ _=>(match t with | .slice _ m _=>m|_=>0))
 case atStart=>exact ⟨n,o,c,0,K,[],_,rfl,rfl,hc,hlo,World.ownsRow_nil _ _ _ _,rfl,zw _ _,HP.out.row.1,HP.out,fun u hu=>absurd hu li,rfl,lg,zz _,lg⟩
 case round =>
  obtain ⟨m,o',c',j,K1,U,v,rfl,rfl,hmc,hI⟩:=hrel;by_cases h0:0<m
  ·have hle:=hI.le;have hjn:j≤800:=by have:=hI.sum;have:=KG n;omega
   have hgl:=MB m;have aj:=BX (n:=m) (by have:=hI.ne;omega);have ak:=RZ m;have cj:=eK (c:=c') (hI.rest.head hgl) aj ak;have ac:=zk (fun b gb cb w1=>@GpI.step lo w g h n K m o' j K1 U v wr hI h0 b gb cb w1);obtain ⟨z,hz⟩:∃ z,wq m=z:=⟨_,rfl⟩;have ah:(m=9∧z=7)∨(¬ m=9∧z=min m 8):=by
    rw [← hz];unfold wq;by_cases h9:m=9
    ·exact .inl ⟨h9,if_pos h9⟩
    ·exact .inr ⟨h9,if_neg h9⟩
   rw [hz] at hgl aj ak cj ac;have hown:=hI.own;have HI:=zk hI;have CJ:=zk cj;have hsz:w.heap.size≤wr:=hI.bel.size;clear hI cj hz;rcases ah with ⟨h9,h7⟩|⟨h9,ah⟩
   ·subst h9 h7;go_wp2_with fail;refine CJ.out.mono ?_;rintro e w1 hr;obtain ⟨b,gb,cb,rfl,hbb,hgg,hkn,aa⟩:=hr;have ab:=cW hown aa;have ad:w.heap.size≤w1:=zn hsz aa.size;have HS:=zk (ac.out b gb cb w1 hbb hgg hkn aa);have ai:=zk aa;clear hbb hgg hkn aa hown ac;go_wp2_with (at_builtin;refine Ab _ rfl _ _ 206 rfl w.heap.size 128 i0 (zx none) 1 8 underlying206 hi ae af ag rfl lj _ _ _ rfl (ab.alloc _) ⟨w1,0,none⟩ 1 1 [pv b] rfl rfl (cJ _ _ _) (eY _ rfl) lq lg (zn ad li) ?_;intro v' w2 hown' hgrow _ hat);have HN:=zk (HS.out v' w2 _ hown' hgrow hat);clear hown' hgrow ab hat HS;go_wp2;go_roundw
    case rel=>exact ⟨9 - 7,o'+7,c' - 7,_,_,_,_,by go_num,rfl,lg,HN.out⟩
    case measure=>simp
   ·have b2:((m:Int) == 9)=false:=by simpa using (show ¬ (m:Int)=9 by omega)
    rcases Aj 8 m with h8' | h8'
    ·obtain rfl:z=8:=lg;clear ah;have b1:(8:Int)<(m:Int):=lg;have b3:min (8:Int) (m:Int)=8:=lg;go_wp2_with fail;refine CJ.out.mono ?_;rintro e w1 hr;obtain ⟨b,gb,cb,rfl,hbb,hgg,hkn,aa⟩:=hr;have ab:=cW hown aa;have ad:w.heap.size≤w1:=zn hsz aa.size;have HS:=zk (ac.out b gb cb w1 hbb hgg hkn aa);have ai:=zk aa;clear hbb hgg hkn aa hown ac;go_wp2_with (at_builtin;refine Ab _ rfl _ _ 206 rfl w.heap.size 128 i0 (zx none) 1 8 underlying206 hi ae af ag rfl lj _ _ _ rfl (ab.alloc _) ⟨w1,0,none⟩ 1 1 [pv b] rfl rfl (cJ _ _ _) (eY _ rfl) lq lg (zn ad li) ?_;intro v' w2 hown' hgrow _ hat);have HN:=zk (HS.out v' w2 _ hown' hgrow hat);clear hown' hgrow ab hat HS;go_wp2;go_roundw
     case rel=>exact ⟨m - 8,o'+8,c' - 8,_,_,_,_,by go_num,rfl,lg,HN.out⟩
     case measure=>exact (show m - 8<m by omega)
    ·obtain rfl:z=m:=lg;clear ah;have b3:min (8:Int) (z:Int)=z:=lg;by_cases hcz:z=c'
     ·subst hcz;go_wp2_with fail;refine CJ.out.mono ?_;rintro e w1 hr;obtain ⟨b,gb,cb,rfl,hbb,hgg,hkn,aa⟩:=hr;have ab:=cW hown aa;have ad:w.heap.size≤w1:=zn hsz aa.size;have HS:=zk (ac.out b gb cb w1 hbb hgg hkn aa);have ai:=zk aa;clear hbb hgg hkn aa hown ac;go_wp2_with (at_builtin;refine Ab _ rfl _ _ 206 rfl w.heap.size 128 i0 (zx none) 1 8 underlying206 hi ae af ag rfl lj _ _ _ rfl (ab.alloc _) ⟨w1,0,none⟩ 1 1 [pv b] rfl rfl (cJ _ _ _) (eY _ rfl) lq lg (zn ad li) ?_;intro v' w2 hown' hgrow _ hat);have HN:=zk (HS.out v' w2 _ hown' hgrow hat);clear hown' hgrow ab hat HS;go_wp2;go_roundw
      case rel=>exact ⟨0,o',z - z,_,_,_,_,by go_num,rfl,lg,HN.out.zero o'⟩
      case measure=>exact (show 0<z by omega)
     ·have b4:¬ c'=z:=fun e=>hcz e.symm;go_wp2_with fail;refine CJ.out.mono ?_;rintro e w1 hr;obtain ⟨b,gb,cb,rfl,hbb,hgg,hkn,aa⟩:=hr;have ab:=cW hown aa;have ad:w.heap.size≤w1:=zn hsz aa.size;have HS:=zk (ac.out b gb cb w1 hbb hgg hkn aa);have ai:=zk aa;clear hbb hgg hkn aa hown ac;go_wp2_with (at_builtin;refine Ab _ rfl _ _ 206 rfl w.heap.size 128 i0 (zx none) 1 8 underlying206 hi ae af ag rfl lj _ _ _ rfl (ab.alloc _) ⟨w1,0,none⟩ 1 1 [pv b] rfl rfl (cJ _ _ _) (eY _ rfl) lq lg (zn ad li) ?_;intro v' w2 hown' hgrow _ hat);have HN:=zk (HS.out v' w2 _ hown' hgrow hat);clear hown' hgrow ab hat HS;go_wp2;go_roundw
      case rel=>exact ⟨0,o'+z,c' - z,_,_,_,_,by go_num,rfl,lg,HN.out.zero (o'+z)⟩
      case measure=>exact (show 0<z by omega)
  ·obtain rfl:m=0:=lg;have HR:=zk (hI.done lg hh HP.out.size);clear hI;go_wp2;go_ret;exact HR.out
def RetTree (lo:Nat) (w:zm) (h:Nat) (L:List ByteArray) (e:Ending) (w':zm):Prop:=∃ b,e=zp (pv b)∧mb w' (tm lo w') h b L∧zo w w w'
structure UpI (lo:Nat) (w:zm) (h n:Nat) (K:List pd) (g o m h':Nat) (K':List pd) (wr:zm):Prop where
 p:m7 wr (tm lo wr) g o m h' K'
 flat:flat K'=flat K
 high:zj m h'=zj n h
 pos:0<m
 le:h'+m≤h+n
 bel:zo w w wr
theorem m7.one {K:List pd} (p:m7 w B g o 1 h K):∃ b,w ⟨g,o,none⟩=some (pv b)∧mb w B h b (flat K):=by
 have hl:=p.len
 match K,hl with
 | [k],_ =>
  refine ⟨k.b,?_,?_⟩
  ·have:=p.cell (k:=0) lg;simpa using this
  ·rw [dI];exact p.kids k li
set_option maxHeartbeats 1600000 in
theorem SU {c:Nat} {K:List pd} (hlo:lo≤w) (p:m7 w (tm lo w) g o n h K) (h0:0<n) (hh:h+n≤800) (hc:n≤c) :
 zr prog 172 #[zq (some ⟨g,o,none⟩) n c] w (RetTree lo w (zj n h) (flat K)):=by
 have ce:=p.even (c:=c) lg;obtain ⟨H,hH⟩:∃ H,zj n h=H:=⟨_,rfl⟩;rw [hH];have CE:=zk ce;have HP:=zk p;have HH:=zk hH;clear ce p hH;have t1:((n:Int) == 0)=false:=by simpa using (show ¬ (n:Int)=0 by omega)
 have t2:(n == 0)=false:=by simpa using (show ¬ n=0 by omega)
 go_enter func172,ntmps172;go_wp2_with fail;refine CE.out.mono ?_;rintro e w1 ⟨rfl,ac⟩;have ab:=zk ac;clear ac;go_wp2
 go_loopw [0] (fun t wr=>∃ (g' o' m c' h':Nat) (K':List pd),t=zq (some ⟨g',o',none⟩) m c'∧m≤c'∧UpI lo w h n K g' o' m h' K' wr) (fun t _=>(match t with | .slice _ m _=>m|_=>0))
 case atStart=>exact ⟨g,o,n,c,h,K,rfl,hc,(HP.out.on ab.out).weak (fun i hi=>⟨hi.1,zu hi.2 ab.out.size⟩) (fun i hi=>hi.2),rfl,rfl,h0,zz _,ab.out⟩
 case round =>
  obtain ⟨g',o',m,c',h',K',rfl,hmc,hI⟩:=hrel;have hle:=hI.le;have hpos:=hI.pos;rcases Aj 8 m with h8|h8
  ·have cg:=zY (c:=c') (zn hlo hI.bel.size) hI.p h8 lg lg hmc;have ag:=jK m lg;have hgp:=oH hpos;have hup:=hI.high;rw [PI h8] at hup;have HI:=zk hI;have HU:=zk hup;obtain ⟨q,hq⟩:∃ q,pm m=q:=⟨_,rfl⟩;unfold wc at cg;rw [hq] at cg ag hgp HU;have CG:=zk cg;have b1:(8:Int)<(m:Int):=lg;clear hI hup cg hq;go_wp2_with fail;refine CG.out.mono ?_;rintro e w2 ⟨g2,c2,K2,rfl,ad,ae,af,aa⟩;have HN:=zk (show UpI lo w h n K g2 0 q (h'+1) K2 w2 from ⟨ae,af.trans HI.out.flat,HU.out,hgp,lg,HI.out.bel.trans (aa.mono HI.out.bel.size)⟩);have ah:=zk ad;clear ae af aa ad;go_wp2;go_roundw
   case rel=>exact ⟨g2,0,q,c2,h'+1,K2,rfl,ah.out,HN.out⟩
   case measure=>exact (show q<m by omega)
  ·have b1:¬ (8:Int)<(m:Int):=lg;by_cases h1:m=1
   ·subst h1;obtain ⟨b,q0,hk⟩:=hI.p.one;have hup:=hI.high;rw [RA (zz 1),HH.out] at hup;subst hup;rw [hI.flat] at hk;have HK:=zk hk;have HB:=zk hI.bel;clear hI hk;go_wp2;go_ret;exact ⟨b,rfl,HK.out,HB.out⟩
   ·have cj:=eK (c:=c') hI.p lg h8;have hup:=hI.high;rw [SJ lg h8,HH.out] at hup;subst hup;have b2:((m:Int) == 1)=false:=by simpa using (show ¬ (m:Int)=1 by omega)
    have b3:(m == 1)=false:=by simpa using h1
    have HF:=zk hI.flat;have HB:=zk hI.bel;have CJ:=zk cj;clear hI cj;go_wp2_with fail;refine CJ.out.mono ?_;rintro e w2 ⟨b,gb,cb,rfl,hbb,hgg,hkn,aa⟩;have hlr:=zn hlo HB.out.size;have hk:=hkn.knot (B':=tm lo w2) (fun i hi=>⟨hi.1,zu hi.2 aa.size⟩) ⟨zn hlr hbb,hkn.blk.lt⟩ ⟨zn hlr hgg,hkn.row.1⟩;rw [HF.out] at hk;have HK:=zk hk;have ai:=zk (HB.out.trans (aa.mono HB.out.size));clear hbb hgg hkn aa hk;go_wp2;go_ret;exact ⟨b,rfl,HK.out,ai.out⟩
def xg (w:zm) (base:Nat) (M:List ByteArray) (e:Ending) (w':zm):Prop:=∃ v',e=zp v'∧w'.ownsRow base 9 1 v' M.length (r6 M)∧zo base w w'
def vx (h:Nat):Prop:=∀ (b:Nat) (L:List ByteArray) (w:zm) (base:Nat) (v:zt) (l:List ByteArray) (B:Nat→Prop),mb w B h b L→(∀ i,B i→i<base)→base≤w →
 w.ownsRow base 9 1 v l.length (r6 l)→l.length+L.length≤1000000→zr prog 145 #[pv b,v] w (xg w base (l++L))
theorem eR {b:Nat} (k:mb w B h b L) (hh:h≤1000):∀ W,zo w w W→zr prog 175 #[pv b] W fun e w'=>e=zp (.int .i64 h)∧zo w w w':=
 (k.hgt hh).later
set_option maxHeartbeats 800000 in
theorem zS:vx 0:=by
 intro b L w base v l B hk hB hbase hown hlen;obtain ⟨i0,hi,ae,af,ag⟩:=info_parts oL;have kh:=eR hk lj;obtain ⟨hb,s,rfl,hf,hblk⟩:=hk;rw [show ((0:Nat):Int)=0 from rfl] at kh;unfold kcs at hblk;have hfin:∀ v' w',w'.ownsRow base 9 1 v' (l.length+1) (r6 l++[zv s])→zo base w w'→xg w base (l++[s]) (zp v') w':=fun v' w' h1 h2 =>
  ⟨v',rfl,by rw [lU,zy];exact h1,h2⟩
 obtain ⟨N,hN⟩:∃ N,l.length=N:=⟨_,rfl⟩;rw [hN] at hown hlen hfin;have KH:=zk kh;have HF:=zk hfin;have ad:=zk hblk;have HO:=zk hown;clear kh hf hblk hN hown hfin;have hn:N≤1000000:=lg;clear hlen;go_enter func145,ntmps145;go_wp2_with fail;refine (KH.out _ (zw _ _)).mono ?_;rintro e w1 ⟨rfl,ab⟩;have ah:=zk ab;clear ab;go_wp2_with fail;refine (KH.out _ ah.out).mono ?_;rintro e w2 ⟨rfl,aa⟩;have c4:=((ad.out.onto aa).cell 4 _ rfl);have hown:=cW HO.out aa;have hsz:=zn hbase aa.size;have ai:=zk aa;clear aa;go_wp2_with (at_builtin;refine wpList_append_own _ rfl _ _ 159 rfl base 9 i0 _ 1 16 underlying159 hi ae af ag rfl lj _ _ _ rfl (hown.alloc _) ⟨w2,0,none⟩ 1 1 [zv s] rfl rfl (cJ _ _ _) (eY _ rfl) lq lg (zn hsz li) ?_;intro v' w3 hown' hgrow _);have ac:zo base w w3:=((ai.out.mono hbase).alloc hsz _).grown hgrow (zn hsz li) (aB hown);have HR:=zk (HF.out v' w3 hown' ac);clear hown' hgrow hown ac;go_wp2;go_ret;exact HR.out
theorem tC (K:List pd) (k:Nat) (h:k<K.length):flat (K.take (k+1))=flat (K.take k)++K[k].L:=by
 rw [List.take_succ_eq_append_getElem h,od,dI]
theorem uL (K:List pd) (k:Nat):(flat (K.take k)).length≤(flat K).length:=by
 have e:flat K=flat (K.take k)++flat (K.drop k):=by rw [← od,Aa]
 rw [e,zy];omega
set_option maxHeartbeats 1600000 in
theorem zH (hh:h≤900) (ih:vx h):vx (h+1):=by
 intro b L w base v l B hk hB hbase hown hlen;have kh:=eR hk lg;obtain ⟨K,g,c,hn,rfl,hg⟩:=hk.node;have c6:=hn.blk.cell 6 _ rfl;have hbb:=hB _ hk.lt;have ak:=zk hk;have al:=zk ih;have HN:=zk hn;have KH:=zk kh;have HO:=zk hown;have HL:=zk hlen;have aa:=zk hB;have HG:=zk (hB g hg);obtain ⟨n,hkn⟩:∃ n,K.length=n:=⟨_,rfl⟩;rw [hkn] at c6;have h2:=hn.two;have h8:=hn.eight;rw [hkn] at h2 h8;have HK:=zk hkn;clear hk ih hn kh hown hlen hB hkn hg;obtain ⟨h',hh'⟩:∃ x:Int,((h+1:Nat):Int)=x:=⟨_,rfl⟩;rw [hh'] at KH;have HH:=zk hh';have t1:¬ h'<0:=lg;have t2:(h' == 0)=false:=by simpa using (show ¬ h'=0 by omega)
 have t3:(h:Int)<h':=lg;clear hh';go_enter func145,ntmps145;go_wp2_with fail;refine (KH.out _ (zw _ _)).mono ?_;rintro e w1 ⟨rfl,ad⟩;have am:=zk ad;clear ad;go_wp2_with fail;refine (KH.out _ am.out).mono ?_;rintro e w2 ⟨rfl,ab⟩;have d6:w2 ⟨b,6,none⟩=some (zq (some ⟨g,0,none⟩) n c):=(ab.cell (p:=⟨b,6,none⟩) (zu hbb hbase)).trans c6;have ae:=zk ab;clear ab;go_wp2
 go_loopw [1,27] (fun u i wr=>∃ (k:Nat) (x:zt),k≤n∧i=.int .i64 k∧x=u∧wr.ownsRow base 9 1 x (l++flat (K.take k)).length (r6 (l++flat (K.take k)))∧zo base w wr) (fun _ i _=>n - (intOf i).toNat)
 case atStart=>exact ⟨0,v,Ag _,rfl,rfl,by rw [List.take_zero,show flat []=[] from rfl,Ah];exact cW HO.out ae.out,ae.out.mono hbase⟩
 case round =>
  obtain ⟨k,x,hkk,rfl,rfl,hown,hbel⟩:=hrel;by_cases hlt:k<n
  ·have hkl:k<K.length:=by rw [HK.out];exact hlt
   have q0:=(hbel.cell (p:=⟨g,0+k,none⟩) HG.out).trans (HN.out.row.2 k (by rw [aP];exact hkl));rw [show (nu K)[k]'(by rw [aP];exact hkl)=pv K[k].b by simp [nu],Nat.zero_add] at q0;have hkid:=(HN.out.kids K[k] (List.getElem_mem hkl)).below hbel aa.out;have kk:=eR hkid lg;have kb:=eR (ak.out.below hbel aa.out) lg;rw [HH.out] at kb;have hst:=tC K k hkl;have hle:=uL K (k+1);rw [hst,zy] at hle;have hih:=fun W (hW:zo wr wr W)=>al.out K[k].b K[k].L W base x (l++flat (K.take k)) B (hkid.below hW fun i hi=>zu (aa.out i hi) (zn hbase hbel.size)) aa.out (zn (zn hbase hbel.size) hW.size) (cW hown hW) (by have:=HL.out;rw [zy];omega);rw [Af,← hst] at hih;obtain ⟨bk,hbk⟩:∃ bk,K[k].b=bk:=⟨_,rfl⟩;rw [hbk] at q0 kk hih;have KK:=zk kk;have KB:=zk kb;have HI:=zk hih;have HB:=zk hbel;have hsz:base≤wr:=zn hbase hbel.size;clear kk kb hih hbel hown hkid hst hle hbk hkl;go_wp2_with fail;refine (KK.out _ (zw _ _)).mono ?_;rintro e w3 ⟨rfl,af⟩;have ac:=zk af;clear af;go_wp2_with fail;refine (KB.out _ ac.out).mono ?_;rintro e w4 ⟨rfl,ag⟩;have ah:=zk ag;clear ag;go_wp2_with fail;refine (HI.out _ ah.out).mono ?_;rintro e w5 ⟨v',rfl,ai,aj⟩;have an:=zk ai;have ao:=zk ((HB.out.trans (ah.out.mono hsz)).trans aj);clear ai aj;go_wp2;go_roundw
   case rel=>exact ⟨k+1,_,lg,by go_num,rfl,an.out,ao.out⟩
   case measure=>simp [intOf];omega
  ·obtain rfl:k=n:=lg;have e:K.take k=K:=List.take_of_length_le (by rw [HK.out];exact zz _);rw [e] at hown;have aq:=zk hown;have ac:=zk hbel;clear hown hbel e;go_wp2;go_ret;exact ⟨_,rfl,aq.out,ac.out⟩
theorem GA (h:Nat) (hh:h≤900):vx h:=by
 induction h with
 | zero=>exact zS
 | succ h ih=>exact zH lg (ih lg)
set_option maxHeartbeats 800000 in
theorem AO {p:Option Addr} (k:xx w p (-1)) (v:zt):zr prog 145 #[zx p,v] w fun e w'=>e=zp v∧zo w w w':=by
 have kh:=k.later;have KH:=zk kh;clear k kh;go_enter func145,ntmps145;go_wp2_with fail;refine (KH.out _ (zw _ _)).mono ?_;rintro e w1 ⟨rfl,aa⟩;go_wp2;go_ret;exact ⟨rfl,aa⟩
set_option maxHeartbeats 800000 in
theorem FR {b:Nat} (k:wd w h b L) (hh:h≤900) (hl:L.length≤1000000) :
 zr prog 117 #[pv b] w (xg w w L):=by
 have kc:=GA h hh b L w w (zq none 0 0) [] _ k (fun i hi=>hi) (zz _) (World.ownsRow_nil _ _ _ _) (by simpa using hl);rw [List.nil_append] at kc;have KC:=zk kc;clear k kc;go_enter func117,ntmps117;go_wp2_with fail;refine KC.out.mono ?_;rintro e w1 ⟨v',rfl,ho,hb⟩;have HO:=zk (And.intro ho hb);clear ho hb;go_wp2;go_ret;exact ⟨_,rfl,HO.out⟩
set_option maxHeartbeats 800000 in
theorem zW {p:Option Addr} (k:xx w p (-1)):zr prog 117 #[zx p] w fun e w'=>e=zp (zq none 0 0)∧zo w w w':=by
 have kc:=AO k (zq none 0 0);have KC:=zk kc;clear k kc;go_enter func117,ntmps117;go_wp2_with fail;refine KC.out.mono ?_;rintro e w1 ⟨rfl,hb⟩;go_wp2;go_ret;exact ⟨rfl,hb⟩
theorem sE (w:zm):zr prog 116 #[zq none 0 0,zv ⟨#[]⟩] w fun e w'=>e=zp (zv ⟨#[]⟩)∧w'=w:=
 Any.strings_Join_none Tryz.lays156 Tryz.Builder_Extra_156 none 0 ⟨#[]⟩ w
theorem QG {base:Nat} (ho:w.ownsRow base 9 1 v L.length (r6 L)) (hl:L.length≤1000000) (hz:(ly L).size≤1000000) :
 zr prog 116 #[v,zv ⟨#[]⟩] w fun e w'=>e=zp (zv (ly L))∧zo w w w':=by
 rcases Nat.eq_zero_or_pos L.length with h0|h0
 ·obtain rfl:L=[]:=Ad h0;rcases ho.2 with ⟨rfl,_⟩|⟨g,cap,cur,rfl,_⟩
  ·exact (sE w).mono fun e w' ⟨he,hw⟩=>⟨he,hw ▸ zw _ _⟩
  ·exact (Any.strings_Join_none Tryz.lays156 Tryz.Builder_Extra_156 _ cap ⟨#[]⟩ w).mono fun e w' ⟨he,hw⟩=>⟨he,hw ▸ zw _ _⟩
 ·obtain ⟨g,c,rfl,hc,-,hg,hr⟩:=bL ho h0;have e:Lib.join (L.map (·.data.toList)) (⟨#[]⟩:ByteArray).data.toList=(ly L).data.toList:=DV L;refine (Tryz.strings_Join g 0 c L ⟨#[]⟩ w (fun j x hj=>?_) hg lg hc (by rw [e];simp;omega)).mono ?_
  ·obtain ⟨aa,rfl⟩:=List.getElem?_eq_some_iff.1 hj;have:=hr j (by simpa [r6] using aa);rw [this];simp [r6]
  ·rintro e' w' ⟨rfl,hb⟩;exact ⟨RX (by rw [e]),hb⟩
set_option maxHeartbeats 800000 in
theorem NG {b:Nat} (k:wd w h b L) (hh:h≤900) (hl:L.length≤1000000) (hz:(ly L).size≤1000000) :
 zr prog 95 #[pv b] w fun e w'=>e=zp (zv (ly L))∧zo w w w':=by
 have kc:=FR k hh hl;have KC:=zk kc;clear k kc;go_enter func95,ntmps95;go_wp2_with fail;refine KC.out.mono ?_;rintro e w1 ⟨v',rfl,ho,aa⟩;have kj:=QG ho hl hz;have KJ:=zk kj;have ab:=zk aa;clear ho kj aa;go_wp2_with fail;refine KJ.out.mono ?_;rintro e w2 ⟨rfl,ac⟩;have ad:=zk (ab.out.trans (ac.mono ab.out.size));clear ac;go_wp2;go_ret;exact ⟨rfl,ad.out⟩
set_option maxHeartbeats 800000 in
theorem IM {p:Option Addr} (k:xx w p (-1)):zr prog 95 #[zx p] w fun e w'=>e=zp (zv ⟨#[]⟩)∧zo w w w':=by
 have kc:=zW k;have kj:=sE;have KC:=zk kc;have KJ:=zk kj;clear k kc kj;go_enter func95,ntmps95;go_wp2_with fail;refine KC.out.mono ?_;rintro e w1 ⟨rfl,aa⟩;go_wp2_with fail;refine (KJ.out _).mono ?_;rintro e w2 ⟨rfl,rfl⟩;go_wp2;go_ret;exact ⟨rfl,aa⟩
end Go.Proofs.YtbagenpobcgjnaaGreat
