/-
  Joined: KnotDev4, KnotDev5.
-/
import Derived.Test.YtbagenpobcgjnaaGreatKnotDev3
import Derived.Test.YtbagenpobcgjnaaGreatJKnotRef
import Derived.Test.YtbagenpobcgjnaaGreatKnotShelf
open Go renaming Calls->ze,Value->zf,World->yw,wpList_append_own_at->zo
open Go.Ending renaming returned->yz
open Go.Lib renaming hid->yv
open Go.RowKit renaming Below->yy
open Go.RowKit.Below renaming refl->zi
open Go.Value renaming pointer->zj,slice->zd,string->zh
open List renaming append_assoc->zr,append_nil->zt,eq_nil_of_length_eq_zero->zp,length_append->zk,take_append_drop->zn
open Nat renaming le_refl->zm,le_trans->yx,lt_of_lt_of_le->zg,lt_or_ge->zv,zero_le->zs
variable {L:List ByteArray} {g h lo n o:Nat} {B:Nat→Prop} {v:Go.Value} {w:Go.World}
namespace Go.Proofs.YtbagenpobcgjnaaGreat
open Go.Proofs.Tryz
set_option maxRecDepth 100000
open Lib (hid)
open Go.RowKit
set_option linter.unusedVariables false
set_option linter.unusedSimpArgs false
theorem uA (K:List pg) (x:pg):ns (K++[x])=ns K++[pv x.b]:=by simp [ns]
def Far (v:zf) (w:yw) (k:Nat):Prop:=k<w∧v.ownBlock≠some k
theorem m7.below {w':yw} {N:Nat} {K:List pg} (p:m7 w B g o n h K) (hg:g<N) (hB:∀ i,B i→i<N) (hb:yy N w w'):m7 w' B g o n h K:=
 ⟨p.len,p.row.keep hb.size (hb.block g hg),fun k hk=>(p.kids k hk).below hb hB,fun i hi=>zg (p.lt i hi) hb.size,p.hh,p.size⟩
theorem m7.head {K:List pg} (p:m7 w B g o n h K) {k:Nat} (hk:k≤n):m7 w B g o k h (K.take k):=by
 have hl:=p.len;refine ⟨by rw [List.length_take];omega,?_,fun x hx=>p.kids x (List.mem_of_mem_take hx),p.lt,p.hh,?_⟩
 ·have:=p.row.pre k;rwa [show (ns K).take k=ns (K.take k) by unfold ns;rw [List.map_take]] at this
 ·have e:flat K=flat (K.take k)++flat (K.drop k):=by rw [← od,zn]
  have:=p.size;rw [e,aG,ByteArray.size_append] at this;omega
theorem m7.tail {K:List pg} (p:m7 w B g o n h K) (k:Nat):m7 w B g (o+k) (n - k) h (K.drop k):=by
 have hl:=p.len;refine ⟨by rw [List.length_drop];omega,?_,fun x hx=>p.kids x (List.mem_of_mem_drop hx),p.lt,p.hh,?_⟩
 ·have:=p.row.sub k;rwa [show (ns K).drop k=ns (K.drop k) by unfold ns;rw [List.map_drop]] at this
 ·have e:flat K=flat (K.take k)++flat (K.drop k):=by rw [← od,zn]
  have:=p.size;rw [e,aG,ByteArray.size_append] at this;omega
theorem m7.weak {B':Nat→Prop} {K:List pg} (p:m7 w B g o n h K) (hB:∀ i,B i→B' i) (hl:∀ i,B' i→i<w.heap.size):m7 w B' g o n h K:=
 ⟨p.len,p.row,fun k hk=>(p.kids k hk).weak hB,hl,p.hh,p.size⟩
theorem NW {w1 w2:yw} {o:Obj} {v':zf} (hgrow:(w1.alloc o).grownBy w2 v.ownBlock) (hat:v'.ownBlock=v.ownBlock∨v'.ownBlock=some (w1.alloc o).heap.size) :
 (∀ k,Far v w1 k→w2.heap[k]? = w1.heap[k]?)∧∀ k,Far v w1 k→Far v' w2 k:=by
 refine ⟨fun k hk=>?_,fun k hk=>?_⟩
 ·rw [hgrow.block k (by simp;have:=hk.1;omega) (fun e=>hk.2 e.symm)];exact Below.heap_alloc w1 o k hk.1
 ·have hs:=hgrow.size;have h1:=hk.1;refine ⟨zg (zg h1 lh) hs,fun e=>?_⟩;rcases hat with q|q
  ·exact hk.2 (q ▸ e)
  ·rw [q] at e;simp at e;omega
def tf (lo:Nat) (w:yw) (k:Nat):Prop:=lo≤k∧k<w
structure GpI (lo:Nat) (w:yw) (g h n:Nat) (K:List pg) (m o j:Nat) (K1 U:List pg) (v:zf) (wr:yw):Prop where
 hlo:lo≤w
 own:wr.ownsRow w 128 1 v j (ns U)
 ul:U.length=j
 bel:yy w w wr
 glt:g<w
 rest:m7 wr (tf lo w) g o m h K1
 up:∀ u∈U,l9 wr (fun k=>lo≤k∧Far v wr k) (h+1) u.b u.L
 flat:flat U++flat K1=flat K
 sum:j+pr m=pr n
 le:m≤n
 ne:m≠1
theorem GpI.step {lo:Nat} {w:yw} {g h n:Nat} {K:List pg} {m o j:Nat} {K1 U:List pg} {v:zf} {wr:yw} (I:GpI lo w g h n K m o j K1 U v wr) (hm:0<m) (b gb cb:Nat) (w1:yw) (hbb:wr≤b) (hgg:wr≤gb)
 (hkn:tp w1 (tf lo w) h b (K1.take (wc m)) gb cb) (hb1:yy wr wr w1) (v':zf) (w2:yw) (ob:Obj) (ho:w2.ownsRow w 128 1 v' (j+1) (ns U++[pv b]))
 (hgrow:(w1.alloc ob).grownBy w2 v.ownBlock) (hat:v'.ownBlock=v.ownBlock∨v'.ownBlock=some (w1.alloc ob).heap.size) :
 GpI lo w g h n K (m - wc m) (o+wc m) (j+1) (K1.drop (wc m)) (U++[⟨b,_root_.Go.Proofs.YtbagenpobcgjnaaGreat.flat (K1.take (wc m))⟩]) v' w2:=by
 have hsz:=I.bel.size;have ab:=hb1.size;have hbel:yy w wr w2:=((hb1.mono hsz).alloc lf ob).grown hgrow lq fun k hk=>(I.own.lt k hk).1;obtain ⟨f1,f2⟩:=NW hgrow hat;have aa:w1.heap.size≤w2:=yx lh hgrow.size;have hlo:=I.hlo;have hw:∀ k,tf lo w k→lo≤k∧Far v w1 k:=fun k hk=>⟨hk.1,by have:=hk.2;omega,fun e=>by have:=(I.own.lt k e).1;have:=hk.2;omega⟩;have hr:∀ k,(lo≤k∧Far v wr k)→lo≤k∧Far v w1 k:=fun k hk=>⟨hk.1,zg hk.2.1 ab,hk.2.2⟩;have hn:∀ k,wr.heap.size≤k→k<w1.heap.size→lo≤k∧Far v w1 k:=fun k hk ac=>⟨lf,ac,fun e=>by have:=(I.own.lt k e).2;omega⟩;have f3:∀ k,(lo≤k∧Far v w1 k)→lo≤k∧Far v' w2 k:=fun k hk=>⟨hk.1,f2 k hk.2⟩;refine ⟨hlo,by rw [uA];exact ho,by rw [zk,I.ul];rfl,I.bel.trans hbel,I.glt,(I.rest.tail _).below I.glt (fun i hi=>hi.2) hbel,fun u hu=>?_,?_,?_,by have:=I.le;omega,vJ I.ne⟩
 ·rcases List.mem_append.1 hu with q|q
  ·exact ((((I.up u q).below hb1 fun i hi=>hi.2.1).weak hr).keep aa fun k hk=>f1 k hk.2).weak f3
  ·rw [List.mem_singleton.1 q];exact ((hkn.knot hw (hn b hbb hkn.blk.lt) (hn gb hgg hkn.row.1)).keep aa fun k hk=>f1 k hk.2).weak f3
 ·rw [od,dC,zr,← od,zn];exact I.flat
 ·have:=I.sum;rw [gD hm] at this;omega
theorem GpI.zero {K:List pg} {m j:Nat} {K1 U:List pg} {wr:yw} (I:GpI lo w g h n K (m - m) o j K1 U v wr) (o':Nat):GpI lo w g h n K 0 o' j K1 U v wr:=by
 rw [Nat.sub_self] at I;obtain rfl:K1=[]:=zp I.rest.len;exact ⟨I.hlo,I.own,I.ul,I.bel,I.glt,⟨rfl,⟨I.rest.row.1,fun j hj=>absurd hj (by simp [ns])⟩,I.rest.kids,I.rest.lt,I.rest.hh,I.rest.size⟩,I.up,I.flat,I.sum,zs _,lf⟩
def vt (lo:Nat) (w:yw) (h n:Nat) (K:List pg) (e:Ending) (w':yw):Prop:=
 ∃ g' c' K',e=yz (zd (some ⟨g',0,none⟩) (pr n) c')∧pr n≤c'∧m7 w' (tf lo w') g' 0 (pr n) (h+1) K'∧flat K'=flat K∧yy w w w'
theorem bH {base:Nat} {t:TypeId} {l:List zf} (h:w.ownsRow base t 1 v n l) (h0:0<n):∃ g c,v=zd (some ⟨g,0,none⟩) n c∧n≤c∧base≤g∧qp w g 0 l:=by
 rcases h.2 with ⟨rfl,h1⟩|⟨g,cap,cur,rfl,hb,hB,hc,_⟩
 ·omega
 ·refine ⟨g,cap,rfl,hc,hb,(Array.getElem?_eq_some_iff.1 hB).1,fun j hj=>?_⟩;have:=h.cells (g:=g) rfl j _ (List.getElem?_eq_getElem hj);rwa [show (⟨g,0,none⟩:Addr).add j=⟨g,0+j,none⟩ by unfold Addr.add;split <;> simp_all] at this
theorem GpI.done {K:List pg} {j:Nat} {K1 U:List pg} {wr:yw} (I:GpI lo w g h n K 0 o j K1 U v wr) (hn:0<n) (hh:h+1≤900) (hz:(lx (_root_.Go.Proofs.YtbagenpobcgjnaaGreat.flat K)).size≤1000000)  :vt lo w h n K (yz v) wr:=by
 have hs:=I.sum;rw [fG,Nat.add_zero] at hs;obtain rfl:K1=[]:=zp I.rest.len;have hf:=I.flat;rw [show _root_.Go.Proofs.YtbagenpobcgjnaaGreat.flat []=[] from rfl,zt] at hf;have ho:=I.own;rw [hs] at ho;obtain ⟨g',c',rfl,q1,q2,q3⟩:=bH ho (nW hn);exact ⟨g',c',U,rfl,q1,⟨by rw [I.ul,hs],q3,fun k hk=>(I.up k hk).weak fun i hi=>⟨hi.1,hi.2.1⟩,fun i hi=>hi.2,hh,by rw [hf];exact hz⟩,hf,I.bel⟩
set_option maxHeartbeats 1600000 in
theorem yB {c:Nat} {K:List pg} (hlo:lo≤w) (p:m7 w (tf lo w) g o n h K) (h8:8<n) (hn:n≤800) (hh:h+1≤900) (hc:n≤c) :
 ze prog 197 #[zd (some ⟨g,o,none⟩) n c] w (vt lo w h n K):=by
 obtain ⟨i0,hi,ae,af,ag⟩:=info_parts cW;have HP:=yv p;clear p;go_enter func197,ntmps197;go_wp2
 go_loopw [0,3] (fun t v wr=>∃ (m o' c' j:Nat) (K1 U:List pg) (u:zf),t=zd (some ⟨g,o',none⟩) m c'∧u=v∧m≤c'∧GpI lo w g h n K m o' j K1 U u wr) (fun t _ _=>(match t with | .slice _ m _=>m|_=>0))
 case atStart=>exact ⟨n,o,c,0,K,[],_,rfl,rfl,hc,hlo,World.ownsRow_nil _ _ _ _,rfl,zi _ _,HP.out.row.1,HP.out,fun u hu=>absurd hu lh,rfl,lf,zm _,lf⟩
 case round =>
  obtain ⟨m,o',c',j,K1,U,v,rfl,rfl,hmc,hI⟩:=hrel;by_cases h0:0<m
  ·have hle:=hI.le;have hjn:j≤800:=by have:=hI.sum;have:=JJ n;omega
   have hgl:=IE m;have aj:=AG (n:=m) (by have:=hI.ne;omega);have ak:=PS m;have cj:=eD (c:=c') (hI.rest.head hgl) aj ak;have ac:=yv (fun b gb cb w1=>@GpI.step lo w g h n K m o' j K1 U v wr hI h0 b gb cb w1);obtain ⟨z,hz⟩:∃ z,wc m=z:=⟨_,rfl⟩;have ah:(m=9∧z=7)∨(¬ m=9∧z=min m 8):=by
    rw [← hz];unfold wc;by_cases h9:m=9
    ·exact .inl ⟨h9,if_pos h9⟩
    ·exact .inr ⟨h9,if_neg h9⟩
   rw [hz] at hgl aj ak cj ac;have hown:=hI.own;have HI:=yv hI;have CJ:=yv cj;have hsz:w.heap.size≤wr:=hI.bel.size;clear hI cj hz;rcases ah with ⟨h9,h7⟩|⟨h9,ah⟩
   ·subst h9 h7;go_wp2_with fail;refine CJ.out.mono ?_;rintro e w1 hr;obtain ⟨b,gb,cb,rfl,hbb,hgg,hkn,aa⟩:=hr;have ab:=cH hown aa;have ad:w.heap.size≤w1:=yx hsz aa.size;have HS:=yv (ac.out b gb cb w1 hbb hgg hkn aa);have ai:=yv aa;clear hbb hgg hkn aa hown ac;go_wp2_with (at_builtin;refine zo _ rfl _ _ 206 rfl w.heap.size 128 i0 (zj none) 1 8 underlying206 hi ae af ag rfl li _ _ _ rfl (ab.alloc _) ⟨w1,0,none⟩ 1 1 [pv b] rfl rfl (bZ _ _ _) (eS _ rfl) ln lf (yx ad lh) ?_;intro v' w2 hown' hgrow _ hat);have HN:=yv (HS.out v' w2 _ hown' hgrow hat);clear hown' hgrow ab hat HS;go_wp2;go_roundw
    case rel=>exact ⟨9 - 7,o'+7,c' - 7,_,_,_,_,by go_num,rfl,lf,HN.out⟩
    case measure=>simp
   ·have b2:((m:Int) == 9)=false:=by simpa using (show ¬ (m:Int)=9 by omega)
    rcases zv 8 m with h8' | h8'
    ·obtain rfl:z=8:=lf;clear ah;have b1:(8:Int)<(m:Int):=lf;have b3:min (8:Int) (m:Int)=8:=lf;go_wp2_with fail;refine CJ.out.mono ?_;rintro e w1 hr;obtain ⟨b,gb,cb,rfl,hbb,hgg,hkn,aa⟩:=hr;have ab:=cH hown aa;have ad:w.heap.size≤w1:=yx hsz aa.size;have HS:=yv (ac.out b gb cb w1 hbb hgg hkn aa);have ai:=yv aa;clear hbb hgg hkn aa hown ac;go_wp2_with (at_builtin;refine zo _ rfl _ _ 206 rfl w.heap.size 128 i0 (zj none) 1 8 underlying206 hi ae af ag rfl li _ _ _ rfl (ab.alloc _) ⟨w1,0,none⟩ 1 1 [pv b] rfl rfl (bZ _ _ _) (eS _ rfl) ln lf (yx ad lh) ?_;intro v' w2 hown' hgrow _ hat);have HN:=yv (HS.out v' w2 _ hown' hgrow hat);clear hown' hgrow ab hat HS;go_wp2;go_roundw
     case rel=>exact ⟨m - 8,o'+8,c' - 8,_,_,_,_,by go_num,rfl,lf,HN.out⟩
     case measure=>exact (show m - 8<m by omega)
    ·obtain rfl:z=m:=lf;clear ah;have b3:min (8:Int) (z:Int)=z:=lf;by_cases hcz:z=c'
     ·subst hcz;go_wp2_with fail;refine CJ.out.mono ?_;rintro e w1 hr;obtain ⟨b,gb,cb,rfl,hbb,hgg,hkn,aa⟩:=hr;have ab:=cH hown aa;have ad:w.heap.size≤w1:=yx hsz aa.size;have HS:=yv (ac.out b gb cb w1 hbb hgg hkn aa);have ai:=yv aa;clear hbb hgg hkn aa hown ac;go_wp2_with (at_builtin;refine zo _ rfl _ _ 206 rfl w.heap.size 128 i0 (zj none) 1 8 underlying206 hi ae af ag rfl li _ _ _ rfl (ab.alloc _) ⟨w1,0,none⟩ 1 1 [pv b] rfl rfl (bZ _ _ _) (eS _ rfl) ln lf (yx ad lh) ?_;intro v' w2 hown' hgrow _ hat);have HN:=yv (HS.out v' w2 _ hown' hgrow hat);clear hown' hgrow ab hat HS;go_wp2;go_roundw
      case rel=>exact ⟨0,o',z - z,_,_,_,_,by go_num,rfl,lf,HN.out.zero o'⟩
      case measure=>exact (show 0<z by omega)
     ·have b4:¬ c'=z:=fun e=>hcz e.symm;go_wp2_with fail;refine CJ.out.mono ?_;rintro e w1 hr;obtain ⟨b,gb,cb,rfl,hbb,hgg,hkn,aa⟩:=hr;have ab:=cH hown aa;have ad:w.heap.size≤w1:=yx hsz aa.size;have HS:=yv (ac.out b gb cb w1 hbb hgg hkn aa);have ai:=yv aa;clear hbb hgg hkn aa hown ac;go_wp2_with (at_builtin;refine zo _ rfl _ _ 206 rfl w.heap.size 128 i0 (zj none) 1 8 underlying206 hi ae af ag rfl li _ _ _ rfl (ab.alloc _) ⟨w1,0,none⟩ 1 1 [pv b] rfl rfl (bZ _ _ _) (eS _ rfl) ln lf (yx ad lh) ?_;intro v' w2 hown' hgrow _ hat);have HN:=yv (HS.out v' w2 _ hown' hgrow hat);clear hown' hgrow ab hat HS;go_wp2;go_roundw
      case rel=>exact ⟨0,o'+z,c' - z,_,_,_,_,by go_num,rfl,lf,HN.out.zero (o'+z)⟩
      case measure=>exact (show 0<z by omega)
  ·obtain rfl:m=0:=lf;have HR:=yv (hI.done lf hh HP.out.size);clear hI;go_wp2;go_ret;exact HR.out
def RetTree (lo:Nat) (w:yw) (h:Nat) (L:List ByteArray) (e:Ending) (w':yw):Prop:=∃ b,e=yz (pv b)∧l9 w' (tf lo w') h b L∧yy w w w'
structure UpI (lo:Nat) (w:yw) (h n:Nat) (K:List pg) (g o m h':Nat) (K':List pg) (wr:yw):Prop where
 p:m7 wr (tf lo wr) g o m h' K'
 flat:flat K'=flat K
 high:yu m h'=yu n h
 pos:0<m
 le:h'+m≤h+n
 bel:yy w w wr
theorem m7.one {K:List pg} (p:m7 w B g o 1 h K):∃ b,w ⟨g,o,none⟩=some (pv b)∧l9 w B h b (flat K):=by
 have hl:=p.len
 match K,hl with
 | [k],_ =>
  refine ⟨k.b,?_,?_⟩
  ·have:=p.cell (k:=0) lf;simpa using this
  ·rw [dC];exact p.kids k lh
set_option maxHeartbeats 1600000 in
theorem RE {c:Nat} {K:List pg} (hlo:lo≤w) (p:m7 w (tf lo w) g o n h K) (h0:0<n) (hh:h+n≤800) (hc:n≤c) :
 ze prog 172 #[zd (some ⟨g,o,none⟩) n c] w (RetTree lo w (yu n h) (flat K)):=by
 have ce:=p.even (c:=c) lf;obtain ⟨H,hH⟩:∃ H,yu n h=H:=⟨_,rfl⟩;rw [hH];have CE:=yv ce;have HP:=yv p;have HH:=yv hH;clear ce p hH;have t1:((n:Int) == 0)=false:=by simpa using (show ¬ (n:Int)=0 by omega)
 have t2:(n == 0)=false:=by simpa using (show ¬ n=0 by omega)
 go_enter func172,ntmps172;go_wp2_with fail;refine CE.out.mono ?_;rintro e w1 ⟨rfl,ac⟩;have ab:=yv ac;clear ac;go_wp2
 go_loopw [0] (fun t wr=>∃ (g' o' m c' h':Nat) (K':List pg),t=zd (some ⟨g',o',none⟩) m c'∧m≤c'∧UpI lo w h n K g' o' m h' K' wr) (fun t _=>(match t with | .slice _ m _=>m|_=>0))
 case atStart=>exact ⟨g,o,n,c,h,K,rfl,hc,(HP.out.on ab.out).weak (fun i hi=>⟨hi.1,zg hi.2 ab.out.size⟩) (fun i hi=>hi.2),rfl,rfl,h0,zm _,ab.out⟩
 case round =>
  obtain ⟨g',o',m,c',h',K',rfl,hmc,hI⟩:=hrel;have hle:=hI.le;have hpos:=hI.pos;rcases zv 8 m with h8|h8
  ·have cg:=yB (c:=c') (yx hlo hI.bel.size) hI.p h8 lf lf hmc;have ag:=iT m lf;have hgp:=nW hpos;have hup:=hI.high;rw [NM h8] at hup;have HI:=yv hI;have HU:=yv hup;obtain ⟨q,hq⟩:∃ q,pr m=q:=⟨_,rfl⟩;unfold vt at cg;rw [hq] at cg ag hgp HU;have CG:=yv cg;have b1:(8:Int)<(m:Int):=lf;clear hI hup cg hq;go_wp2_with fail;refine CG.out.mono ?_;rintro e w2 ⟨g2,c2,K2,rfl,ad,ae,af,aa⟩;have HN:=yv (show UpI lo w h n K g2 0 q (h'+1) K2 w2 from ⟨ae,af.trans HI.out.flat,HU.out,hgp,lf,HI.out.bel.trans (aa.mono HI.out.bel.size)⟩);have ah:=yv ad;clear ae af aa ad;go_wp2;go_roundw
   case rel=>exact ⟨g2,0,q,c2,h'+1,K2,rfl,ah.out,HN.out⟩
   case measure=>exact (show q<m by omega)
  ·have b1:¬ (8:Int)<(m:Int):=lf;by_cases h1:m=1
   ·subst h1;obtain ⟨b,q0,hk⟩:=hI.p.one;have hup:=hI.high;rw [OQ (zm 1),HH.out] at hup;subst hup;rw [hI.flat] at hk;have HK:=yv hk;have HB:=yv hI.bel;clear hI hk;go_wp2;go_ret;exact ⟨b,rfl,HK.out,HB.out⟩
   ·have cj:=eD (c:=c') hI.p lf h8;have hup:=hI.high;rw [OW lf h8,HH.out] at hup;subst hup;have b2:((m:Int) == 1)=false:=by simpa using (show ¬ (m:Int)=1 by omega)
    have b3:(m == 1)=false:=by simpa using h1
    have HF:=yv hI.flat;have HB:=yv hI.bel;have CJ:=yv cj;clear hI cj;go_wp2_with fail;refine CJ.out.mono ?_;rintro e w2 ⟨b,gb,cb,rfl,hbb,hgg,hkn,aa⟩;have hlr:=yx hlo HB.out.size;have hk:=hkn.knot (B':=tf lo w2) (fun i hi=>⟨hi.1,zg hi.2 aa.size⟩) ⟨yx hlr hbb,hkn.blk.lt⟩ ⟨yx hlr hgg,hkn.row.1⟩;rw [HF.out] at hk;have HK:=yv hk;have ai:=yv (HB.out.trans (aa.mono HB.out.size));clear hbb hgg hkn aa hk;go_wp2;go_ret;exact ⟨b,rfl,HK.out,ai.out⟩
def wp (w:yw) (base:Nat) (M:List ByteArray) (e:Ending) (w':yw):Prop:=∃ v',e=yz v'∧w'.ownsRow base 9 1 v' M.length (r8 M)∧yy base w w'
def vo (h:Nat):Prop:=∀ (b:Nat) (L:List ByteArray) (w:yw) (base:Nat) (v:zf) (l:List ByteArray) (B:Nat→Prop),l9 w B h b L→(∀ i,B i→i<base)→base≤w →
 w.ownsRow base 9 1 v l.length (r8 l)→l.length+L.length≤1000000→ze prog 145 #[pv b,v] w (wp w base (l++L))
theorem eH {b:Nat} (k:l9 w B h b L) (hh:h≤1000):∀ W,yy w w W→ze prog 175 #[pv b] W fun e w'=>e=yz (.int .i64 h)∧yy w w w':=
 (k.hgt hh).later
set_option maxHeartbeats 800000 in
theorem zD:vo 0:=by
 intro b L w base v l B hk hB hbase hown hlen;obtain ⟨i0,hi,ae,af,ag⟩:=info_parts nX;have kh:=eH hk li;obtain ⟨hb,s,rfl,hf,hblk⟩:=hk;rw [show ((0:Nat):Int)=0 from rfl] at kh;unfold kcs at hblk;have hfin:∀ v' w',w'.ownsRow base 9 1 v' (l.length+1) (r8 l++[zh s])→yy base w w'→wp w base (l++[s]) (yz v') w':=fun v' w' h1 h2 =>
  ⟨v',rfl,by rw [lE,zk];exact h1,h2⟩
 obtain ⟨N,hN⟩:∃ N,l.length=N:=⟨_,rfl⟩;rw [hN] at hown hlen hfin;have KH:=yv kh;have HF:=yv hfin;have ad:=yv hblk;have HO:=yv hown;clear kh hf hblk hN hown hfin;have hn:N≤1000000:=lf;clear hlen;go_enter func145,ntmps145;go_wp2_with fail;refine (KH.out _ (zi _ _)).mono ?_;rintro e w1 ⟨rfl,ab⟩;have ah:=yv ab;clear ab;go_wp2_with fail;refine (KH.out _ ah.out).mono ?_;rintro e w2 ⟨rfl,aa⟩;have c4:=((ad.out.onto aa).cell 4 _ rfl);have hown:=cH HO.out aa;have hsz:=yx hbase aa.size;have ai:=yv aa;clear aa;go_wp2_with (at_builtin;refine wpList_append_own _ rfl _ _ 159 rfl base 9 i0 _ 1 16 underlying159 hi ae af ag rfl li _ _ _ rfl (hown.alloc _) ⟨w2,0,none⟩ 1 1 [zh s] rfl rfl (bZ _ _ _) (eS _ rfl) ln lf (yx hsz lh) ?_;intro v' w3 hown' hgrow _);have ac:yy base w w3:=((ai.out.mono hbase).alloc hsz _).grown hgrow (yx hsz lh) (aA hown);have HR:=yv (HF.out v' w3 hown' ac);clear hown' hgrow hown ac;go_wp2;go_ret;exact HR.out
theorem sE (K:List pg) (k:Nat) (h:k<K.length):flat (K.take (k+1))=flat (K.take k)++K[k].L:=by
 rw [List.take_succ_eq_append_getElem h,od,dC]
theorem tR (K:List pg) (k:Nat):(flat (K.take k)).length≤(flat K).length:=by
 have e:flat K=flat (K.take k)++flat (K.drop k):=by rw [← od,zn]
 rw [e,zk];omega
set_option maxHeartbeats 1600000 in
theorem yH (hh:h≤900) (ih:vo h):vo (h+1):=by
 intro b L w base v l B hk hB hbase hown hlen;have kh:=eH hk lf;obtain ⟨K,g,c,hn,rfl,hg⟩:=hk.node;have c6:=hn.blk.cell 6 _ rfl;have hbb:=hB _ hk.lt;have ak:=yv hk;have al:=yv ih;have HN:=yv hn;have KH:=yv kh;have HO:=yv hown;have HL:=yv hlen;have aa:=yv hB;have HG:=yv (hB g hg);obtain ⟨n,hkn⟩:∃ n,K.length=n:=⟨_,rfl⟩;rw [hkn] at c6;have h2:=hn.two;have h8:=hn.eight;rw [hkn] at h2 h8;have HK:=yv hkn;clear hk ih hn kh hown hlen hB hkn hg;obtain ⟨h',hh'⟩:∃ x:Int,((h+1:Nat):Int)=x:=⟨_,rfl⟩;rw [hh'] at KH;have HH:=yv hh';have t1:¬ h'<0:=lf;have t2:(h' == 0)=false:=by simpa using (show ¬ h'=0 by omega)
 have t3:(h:Int)<h':=lf;clear hh';go_enter func145,ntmps145;go_wp2_with fail;refine (KH.out _ (zi _ _)).mono ?_;rintro e w1 ⟨rfl,ad⟩;have am:=yv ad;clear ad;go_wp2_with fail;refine (KH.out _ am.out).mono ?_;rintro e w2 ⟨rfl,ab⟩;have d6:w2 ⟨b,6,none⟩=some (zd (some ⟨g,0,none⟩) n c):=(ab.cell (p:=⟨b,6,none⟩) (zg hbb hbase)).trans c6;have ae:=yv ab;clear ab;go_wp2
 go_loopw [1,27] (fun u i wr=>∃ (k:Nat) (x:zf),k≤n∧i=.int .i64 k∧x=u∧wr.ownsRow base 9 1 x (l++flat (K.take k)).length (r8 (l++flat (K.take k)))∧yy base w wr) (fun _ i _=>n - (intOf i).toNat)
 case atStart=>exact ⟨0,v,zs _,rfl,rfl,by rw [List.take_zero,show flat []=[] from rfl,zt];exact cH HO.out ae.out,ae.out.mono hbase⟩
 case round =>
  obtain ⟨k,x,hkk,rfl,rfl,hown,hbel⟩:=hrel;by_cases hlt:k<n
  ·have hkl:k<K.length:=by rw [HK.out];exact hlt
   have q0:=(hbel.cell (p:=⟨g,0+k,none⟩) HG.out).trans (HN.out.row.2 k (by rw [aP];exact hkl));rw [show (ns K)[k]'(by rw [aP];exact hkl)=pv K[k].b by simp [ns],Nat.zero_add] at q0;have hkid:=(HN.out.kids K[k] (List.getElem_mem hkl)).below hbel aa.out;have kk:=eH hkid lf;have kb:=eH (ak.out.below hbel aa.out) lf;rw [HH.out] at kb;have hst:=sE K k hkl;have hle:=tR K (k+1);rw [hst,zk] at hle;have hih:=fun W (hW:yy wr wr W)=>al.out K[k].b K[k].L W base x (l++flat (K.take k)) B (hkid.below hW fun i hi=>zg (aa.out i hi) (yx hbase hbel.size)) aa.out (yx (yx hbase hbel.size) hW.size) (cH hown hW) (by have:=HL.out;rw [zk];omega);rw [zr,← hst] at hih;obtain ⟨bk,hbk⟩:∃ bk,K[k].b=bk:=⟨_,rfl⟩;rw [hbk] at q0 kk hih;have KK:=yv kk;have KB:=yv kb;have HI:=yv hih;have HB:=yv hbel;have hsz:base≤wr:=yx hbase hbel.size;clear kk kb hih hbel hown hkid hst hle hbk hkl;go_wp2_with fail;refine (KK.out _ (zi _ _)).mono ?_;rintro e w3 ⟨rfl,af⟩;have ac:=yv af;clear af;go_wp2_with fail;refine (KB.out _ ac.out).mono ?_;rintro e w4 ⟨rfl,ag⟩;have ah:=yv ag;clear ag;go_wp2_with fail;refine (HI.out _ ah.out).mono ?_;rintro e w5 ⟨v',rfl,ai,aj⟩;have an:=yv ai;have ao:=yv ((HB.out.trans (ah.out.mono hsz)).trans aj);clear ai aj;go_wp2;go_roundw
   case rel=>exact ⟨k+1,_,lf,by go_num,rfl,an.out,ao.out⟩
   case measure=>simp [intOf];omega
  ·obtain rfl:k=n:=lf;have e:K.take k=K:=List.take_of_length_le (by rw [HK.out];exact zm _);rw [e] at hown;have aq:=yv hown;have ac:=yv hbel;clear hown hbel e;go_wp2;go_ret;exact ⟨_,rfl,aq.out,ac.out⟩
theorem DH (h:Nat) (hh:h≤900):vo h:=by
 induction h with
 | zero=>exact zD
 | succ h ih=>exact yH lf (ih lf)
set_option maxHeartbeats 800000 in
theorem yT {p:Option Addr} (k:xg w p (-1)) (v:zf):ze prog 145 #[zj p,v] w fun e w'=>e=yz v∧yy w w w':=by
 have kh:=k.later;have KH:=yv kh;clear k kh;go_enter func145,ntmps145;go_wp2_with fail;refine (KH.out _ (zi _ _)).mono ?_;rintro e w1 ⟨rfl,aa⟩;go_wp2;go_ret;exact ⟨rfl,aa⟩
set_option maxHeartbeats 800000 in
theorem EH {b:Nat} (k:vu w h b L) (hh:h≤900) (hl:L.length≤1000000) :
 ze prog 117 #[pv b] w (wp w w L):=by
 have kc:=DH h hh b L w w (zd none 0 0) [] _ k (fun i hi=>hi) (zm _) (World.ownsRow_nil _ _ _ _) (by simpa using hl);rw [List.nil_append] at kc;have KC:=yv kc;clear k kc;go_enter func117,ntmps117;go_wp2_with fail;refine KC.out.mono ?_;rintro e w1 ⟨v',rfl,ho,hb⟩;have HO:=yv (And.intro ho hb);clear ho hb;go_wp2;go_ret;exact ⟨_,rfl,HO.out⟩
set_option maxHeartbeats 800000 in
theorem xT {p:Option Addr} (k:xg w p (-1)):ze prog 117 #[zj p] w fun e w'=>e=yz (zd none 0 0)∧yy w w w':=by
 have kc:=yT k (zd none 0 0);have KC:=yv kc;clear k kc;go_enter func117,ntmps117;go_wp2_with fail;refine KC.out.mono ?_;rintro e w1 ⟨rfl,hb⟩;go_wp2;go_ret;exact ⟨rfl,hb⟩
theorem sW (w:yw):ze prog 116 #[zd none 0 0,zh ⟨#[]⟩] w fun e w'=>e=yz (zh ⟨#[]⟩)∧w'=w:=
 Any.strings_Join_none Tryz.lays156 Tryz.Builder_Extra_156 none 0 ⟨#[]⟩ w
theorem LC {base:Nat} (ho:w.ownsRow base 9 1 v L.length (r8 L)) (hl:L.length≤1000000) (hz:(lx L).size≤1000000) :
 ze prog 116 #[v,zh ⟨#[]⟩] w fun e w'=>e=yz (zh (lx L))∧yy w w w':=by
 rcases Nat.eq_zero_or_pos L.length with h0|h0
 ·obtain rfl:L=[]:=zp h0;rcases ho.2 with ⟨rfl,_⟩|⟨g,cap,cur,rfl,_⟩
  ·exact (sW w).mono fun e w' ⟨he,hw⟩=>⟨he,hw ▸ zi _ _⟩
  ·exact (Any.strings_Join_none Tryz.lays156 Tryz.Builder_Extra_156 _ cap ⟨#[]⟩ w).mono fun e w' ⟨he,hw⟩=>⟨he,hw ▸ zi _ _⟩
 ·obtain ⟨g,c,rfl,hc,-,hg,hr⟩:=bH ho h0;have e:Lib.join (L.map (·.data.toList)) (⟨#[]⟩:ByteArray).data.toList=(lx L).data.toList:=DZ L;refine (Tryz.strings_Join g 0 c L ⟨#[]⟩ w (fun j x hj=>?_) hg lf hc (by rw [e];simp;omega)).mono ?_
  ·obtain ⟨aa,rfl⟩:=List.getElem?_eq_some_iff.1 hj;have:=hr j (by simpa [r8] using aa);rw [this];simp [r8]
  ·rintro e' w' ⟨rfl,hb⟩;exact ⟨PR (by rw [e]),hb⟩
set_option maxHeartbeats 800000 in
theorem MQ {b:Nat} (k:vu w h b L) (hh:h≤900) (hl:L.length≤1000000) (hz:(lx L).size≤1000000) :
 ze prog 95 #[pv b] w fun e w'=>e=yz (zh (lx L))∧yy w w w':=by
 have kc:=EH k hh hl;have KC:=yv kc;clear k kc;go_enter func95,ntmps95;go_wp2_with fail;refine KC.out.mono ?_;rintro e w1 ⟨v',rfl,ho,aa⟩;have kj:=LC ho hl hz;have KJ:=yv kj;have ab:=yv aa;clear ho kj aa;go_wp2_with fail;refine KJ.out.mono ?_;rintro e w2 ⟨rfl,ac⟩;have ad:=yv (ab.out.trans (ac.mono ab.out.size));clear ac;go_wp2;go_ret;exact ⟨rfl,ad.out⟩
set_option maxHeartbeats 800000 in
theorem GI {p:Option Addr} (k:xg w p (-1)):ze prog 95 #[zj p] w fun e w'=>e=yz (zh ⟨#[]⟩)∧yy w w w':=by
 have kc:=xT k;have kj:=sW;have KC:=yv kc;have KJ:=yv kj;clear k kc kj;go_enter func95,ntmps95;go_wp2_with fail;refine KC.out.mono ?_;rintro e w1 ⟨rfl,aa⟩;go_wp2_with fail;refine (KJ.out _).mono ?_;rintro e w2 ⟨rfl,rfl⟩;go_wp2;go_ret;exact ⟨rfl,aa⟩
end Go.Proofs.YtbagenpobcgjnaaGreat
