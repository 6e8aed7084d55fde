/-
  Joined: KnotDev4, KnotDev5.
-/
import Derived.Test.YtbagenpobcgjnaaGreatJKnotDev3
import Derived.Test.YtbagenpobcgjnaaGreatJMarkRef
import Derived.Lib.MinMax
import Derived.Maps.AppendAt
import Derived.Test.YtbagenpobcgjnaaGreatKnotShelf
variable {L:List ByteArray} {g h lo n o:Nat} {B:Nat→Prop} {v:Go.Value} {w:Go.World}
namespace Go.Proofs.YtbagenpobcgjnaaGreat
open Go.Proofs.Tryz
set_option maxRecDepth 100000
open Lib (hid)
open Go.RowKit
set_option linter.unusedVariables false
set_option linter.unusedSimpArgs false
theorem tY (K:List Kid) (x:Kid):ptrs (K++[x])=ptrs K++[pv x.b]:=by simp [ptrs]
def Far (v:Value) (w:World) (k:Nat):Prop:=k<w.heap.size∧v.ownBlock≠some k
theorem JoinP.below {w':World} {N:Nat} {K:List Kid} (p:JoinP w B g o n h K) (hg:g<N) (hB:∀ i,B i→i<N) (hb:Below N w w'):JoinP w' B g o n h K:=
 ⟨p.len,p.row.keep hb.size (hb.block g hg),fun k hk=>(p.kids k hk).below hb hB,fun i hi=>Nat.lt_of_lt_of_le (p.lt i hi) hb.size,p.hh,p.size⟩
theorem JoinP.head {K:List Kid} (p:JoinP w B g o n h K) {k:Nat} (hk:k≤n):JoinP w B g o k h (K.take k):=by
 have hl:=p.len
 refine ⟨by rw [List.length_take];omega,?_,fun x hx=>p.kids x (List.mem_of_mem_take hx),p.lt,p.hh,?_⟩
 ·have:=p.row.pre k
  rwa [show (ptrs K).take k=ptrs (K.take k) by unfold ptrs;rw [List.map_take]] at this
 ·have e:flat K=flat (K.take k)++flat (K.drop k):=by rw [← flat_app,List.take_append_drop]
  have:=p.size
  rw [e,aE,ByteArray.size_append] at this
  omega
theorem JoinP.tail {K:List Kid} (p:JoinP w B g o n h K) (k:Nat):JoinP w B g (o+k) (n - k) h (K.drop k):=by
 have hl:=p.len
 refine ⟨by rw [List.length_drop];omega,?_,fun x hx=>p.kids x (List.mem_of_mem_drop hx),p.lt,p.hh,?_⟩
 ·have:=p.row.sub k
  rwa [show (ptrs K).drop k=ptrs (K.drop k) by unfold ptrs;rw [List.map_drop]] at this
 ·have e:flat K=flat (K.take k)++flat (K.drop k):=by rw [← flat_app,List.take_append_drop]
  have:=p.size
  rw [e,aE,ByteArray.size_append] at this
  omega
theorem JoinP.weak {B':Nat→Prop} {K:List Kid} (p:JoinP w B g o n h K) (hB:∀ i,B i→B' i) (hl:∀ i,B' i→i<w.heap.size):JoinP w B' g o n h K:=
 ⟨p.len,p.row,fun k hk=>(p.kids k hk).weak hB,hl,p.hh,p.size⟩
theorem JN {w1 w2:World} {o:Obj} {v':Value} (hgrow:(w1.alloc o).grownBy w2 v.ownBlock) (hat:v'.ownBlock=v.ownBlock∨v'.ownBlock=some (w1.alloc o).heap.size) :
 (∀ k,Far v w1 k→w2.heap[k]? = w1.heap[k]?)∧∀ k,Far v w1 k→Far v' w2 k:=by
 refine ⟨fun k hk=>?_,fun k hk=>?_⟩
 ·rw [hgrow.block k (by simp;have:=hk.1;omega) (fun e=>hk.2 e.symm)]
  exact Below.heap_alloc w1 o k hk.1
 ·have hs:=hgrow.size
  have h1:=hk.1
  refine ⟨Nat.lt_of_lt_of_le (Nat.lt_of_lt_of_le h1 (by simp)) hs,fun e=>?_⟩
  rcases hat with q|q
  ·exact hk.2 (q ▸ e)
  ·rw [q] at e
   simp at e
   omega
def Since (lo:Nat) (w:World) (k:Nat):Prop:=lo≤k∧k<w.heap.size
structure GpI (lo:Nat) (w:World) (g h n:Nat) (K:List Kid) (m o j:Nat) (K1 U:List Kid) (v:Value) (wr:World):Prop where
 hlo:lo≤w.heap.size
 own:wr.ownsRow w.heap.size 128 1 v j (ptrs U)
 ul:U.length=j
 bel:Below w.heap.size w wr
 glt:g<w.heap.size
 rest:JoinP wr (Since lo w) g o m h K1
 up:∀ u∈U,KnotW wr (fun k=>lo≤k∧Far v wr k) (h+1) u.b u.L
 flat:flat U++flat K1=flat K
 sum:j+gcount m=gcount n
 le:m≤n
 ne:m≠1
theorem GpI.step {lo:Nat} {w:World} {g h n:Nat} {K:List Kid} {m o j:Nat} {K1 U:List Kid} {v:Value} {wr:World} (I:GpI lo w g h n K m o j K1 U v wr) (hm:0<m) (b gb cb:Nat) (w1:World) (hbb:wr.heap.size≤b) (hgg:wr.heap.size≤gb)
 (hkn:KnotN w1 (Since lo w) h b (K1.take (gsz m)) gb cb) (hb1:Below wr.heap.size wr w1) (v':Value) (w2:World) (ob:Obj) (ho:w2.ownsRow w.heap.size 128 1 v' (j+1) (ptrs U++[pv b]))
 (hgrow:(w1.alloc ob).grownBy w2 v.ownBlock) (hat:v'.ownBlock=v.ownBlock∨v'.ownBlock=some (w1.alloc ob).heap.size) :
 GpI lo w g h n K (m - gsz m) (o+gsz m) (j+1) (K1.drop (gsz m)) (U++[⟨b,_root_.Go.Proofs.YtbagenpobcgjnaaGreat.flat (K1.take (gsz m))⟩]) v' w2:=by
 have hsz:=I.bel.size
 have ab:=hb1.size
 have hbel:Below w.heap.size wr w2:=((hb1.mono hsz).alloc (by omega) ob).grown hgrow (by simp;omega) fun k hk=>(I.own.lt k hk).1
 obtain ⟨f1,f2⟩:=JN hgrow hat
 have aa:w1.heap.size≤w2.heap.size:=Nat.le_trans (by simp) hgrow.size
 have hlo:=I.hlo
 have hw:∀ k,Since lo w k→lo≤k∧Far v w1 k:=fun k hk=>⟨hk.1,by have:=hk.2;omega,fun e=>by have:=(I.own.lt k e).1;have:=hk.2;omega⟩
 have hr:∀ k,(lo≤k∧Far v wr k)→lo≤k∧Far v w1 k:=fun k hk=>⟨hk.1,Nat.lt_of_lt_of_le hk.2.1 ab,hk.2.2⟩
 have hn:∀ k,wr.heap.size≤k→k<w1.heap.size→lo≤k∧Far v w1 k:=fun k hk ac=>⟨by omega,ac,fun e=>by have:=(I.own.lt k e).2;omega⟩
 have f3:∀ k,(lo≤k∧Far v w1 k)→lo≤k∧Far v' w2 k:=fun k hk=>⟨hk.1,f2 k hk.2⟩
 refine ⟨hlo,by rw [tY];exact ho,by rw [List.length_append,I.ul];rfl,I.bel.trans hbel,I.glt,(I.rest.tail _).below I.glt (fun i hi=>hi.2) hbel,fun u hu=>?_,?_,?_,by have:=I.le;omega,tB I.ne⟩
 ·rcases List.mem_append.1 hu with q|q
  ·exact ((((I.up u q).below hb1 fun i hi=>hi.2.1).weak hr).keep aa fun k hk=>f1 k hk.2).weak f3
  ·rw [List.mem_singleton.1 q]
   exact ((hkn.knot hw (hn b hbb hkn.blk.lt) (hn gb hgg hkn.row.1)).keep aa fun k hk=>f1 k hk.2).weak f3
 ·rw [flat_app,cV,List.append_assoc,← flat_app,List.take_append_drop]
  exact I.flat
 ·have:=I.sum
  rw [eZ hm] at this
  omega
theorem GpI.zero {K:List Kid} {m j:Nat} {K1 U:List Kid} {wr:World} (I:GpI lo w g h n K (m - m) o j K1 U v wr) (o':Nat):GpI lo w g h n K 0 o' j K1 U v wr:=by
 rw [Nat.sub_self] at I
 obtain rfl:K1=[]:=List.eq_nil_of_length_eq_zero I.rest.len
 exact ⟨I.hlo,I.own,I.ul,I.bel,I.glt,⟨rfl,⟨I.rest.row.1,fun j hj=>absurd hj (by simp [ptrs])⟩,I.rest.kids,I.rest.lt,I.rest.hh,I.rest.size⟩,I.up,I.flat,I.sum,Nat.zero_le _,by omega⟩
def RetGroup (lo:Nat) (w:World) (h n:Nat) (K:List Kid) (e:Ending) (w':World):Prop:=
 ∃ g' c' K',e=.returned (.slice (some ⟨g',0,none⟩) (gcount n) c')∧gcount n≤c'∧JoinP w' (Since lo w') g' 0 (gcount n) (h+1) K'∧flat K'=flat K∧Below w.heap.size w w'
theorem bF {base:Nat} {t:TypeId} {l:List Value} (h:w.ownsRow base t 1 v n l) (h0:0<n):∃ g c,v=.slice (some ⟨g,0,none⟩) n c∧n≤c∧base≤g∧PRow w g 0 l:=by
 rcases h.2 with ⟨rfl,h1⟩|⟨g,cap,cur,rfl,hb,hB,hc,_⟩
 ·omega
 ·refine ⟨g,cap,rfl,hc,hb,(Array.getElem?_eq_some_iff.1 hB).1,fun j hj=>?_⟩
  have:=h.cells (g:=g) rfl j _ (List.getElem?_eq_getElem hj)
  rwa [show (⟨g,0,none⟩:Addr).add j=⟨g,0+j,none⟩ by unfold Addr.add;split <;> simp_all] at this
theorem GpI.done {K:List Kid} {j:Nat} {K1 U:List Kid} {wr:World} (I:GpI lo w g h n K 0 o j K1 U v wr) (hn:0<n) (hh:h+1≤900) (hz:(wholeL (_root_.Go.Proofs.YtbagenpobcgjnaaGreat.flat K)).size≤1000000)  :RetGroup lo w h n K (.returned v) wr:=by
 have hs:=I.sum
 rw [eJ,Nat.add_zero] at hs
 obtain rfl:K1=[]:=List.eq_nil_of_length_eq_zero I.rest.len
 have hf:=I.flat
 rw [show _root_.Go.Proofs.YtbagenpobcgjnaaGreat.flat []=[] from rfl,List.append_nil] at hf
 have ho:=I.own
 rw [hs] at ho
 obtain ⟨g',c',rfl,q1,q2,q3⟩:=bF ho (mF hn)
 exact ⟨g',c',U,rfl,q1,⟨by rw [I.ul,hs],q3,fun k hk=>(I.up k hk).weak fun i hi=>⟨hi.1,hi.2.1⟩,fun i hi=>hi.2,hh,by rw [hf];exact hz⟩,hf,I.bel⟩
set_option maxHeartbeats 1600000 in
theorem wV {c:Nat} {K:List Kid} (hlo:lo≤w.heap.size) (p:JoinP w (Since lo w) g o n h K) (h8:8<n) (hn:n≤800) (hh:h+1≤900) (hc:n≤c) :
 Calls prog 197 #[.slice (some ⟨g,o,none⟩) n c] w (RetGroup lo w h n K):=by
 obtain ⟨i0,hi,ae,af,ag⟩:=info_parts cJ
 have HP:=hid p
 clear p
 go_enter func197,ntmps197
 go_wp2
 go_loopw [0,3] (fun t v wr=>∃ (m o' c' j:Nat) (K1 U:List Kid) (u:Value),t=.slice (some ⟨g,o',none⟩) m c'∧u=v∧m≤c'∧GpI lo w g h n K m o' j K1 U u wr) (fun t _ _=>(match t with | .slice _ m _=>m|_=>0))
 case atStart=>exact ⟨n,o,c,0,K,[],_,rfl,rfl,hc,hlo,World.ownsRow_nil _ _ _ _,rfl,Below.refl _ _,HP.out.row.1,HP.out,fun u hu=>absurd hu (by simp),rfl,by omega,Nat.le_refl _,by omega⟩
 case round =>
  obtain ⟨m,o',c',j,K1,U,v,rfl,rfl,hmc,hI⟩:=hrel
  by_cases h0:0<m
  ·have hle:=hI.le
   have hjn:j≤800:=by have:=hI.sum;have:=DQ n;omega
   have hgl:=EX m
   have aj:=xE (n:=m) (by have:=hI.ne;omega)
   have ak:=MQ m
   have cj:=dP (c:=c') (hI.rest.head hgl) aj ak
   have ac:=hid (fun b gb cb w1=>@GpI.step lo w g h n K m o' j K1 U v wr hI h0 b gb cb w1)
   obtain ⟨z,hz⟩:∃ z,gsz m=z:=⟨_,rfl⟩
   have ah:(m=9∧z=7)∨(¬ m=9∧z=min m 8):=by
    rw [← hz];unfold gsz
    by_cases h9:m=9
    ·exact .inl ⟨h9,if_pos h9⟩
    ·exact .inr ⟨h9,if_neg h9⟩
   rw [hz] at hgl aj ak cj ac
   have hown:=hI.own
   have HI:=hid hI;have CJ:=hid cj
   have hsz:w.heap.size≤wr.heap.size:=hI.bel.size
   clear hI cj hz
   rcases ah with ⟨h9,h7⟩|⟨h9,ah⟩
   ·subst h9 h7
    go_wp2_with fail
    refine CJ.out.mono ?_;rintro e w1 hr
    obtain ⟨b,gb,cb,rfl,hbb,hgg,hkn,aa⟩:=hr
    have ab:=bW hown aa
    have ad:w.heap.size≤w1.heap.size:=Nat.le_trans hsz aa.size
    have HS:=hid (ac.out b gb cb w1 hbb hgg hkn aa)
    have ai:=hid aa
    clear hbb hgg hkn aa hown ac
    go_wp2_with (at_builtin;refine wpList_append_own_at _ rfl _ _ 206 rfl w.heap.size 128 i0 (.pointer none) 1 8 underlying206 hi ae af ag rfl (by decide) _ _ _ rfl (ab.alloc _) ⟨w1.heap.size,0,none⟩ 1 1 [pv b] rfl rfl (bP _ _ _) (eH _ rfl) (by unfold maxLen;omega) (by omega) (Nat.le_trans ad (by simp)) ?_;intro v' w2 hown' hgrow _ hat)
    have HN:=hid (HS.out v' w2 _ hown' hgrow hat)
    clear hown' hgrow ab hat HS
    go_wp2
    go_roundw
    case rel=>exact ⟨9 - 7,o'+7,c' - 7,_,_,_,_,by go_num,rfl,by omega,HN.out⟩
    case measure=>simp
   ·have b2:((m:Int) == 9)=false:=by simpa using (show ¬ (m:Int)=9 by omega)
    rcases Nat.lt_or_ge 8 m with h8' | h8'
    ·obtain rfl:z=8:=by omega
     clear ah
     have b1:(8:Int)<(m:Int):=by omega
     have b3:min (8:Int) (m:Int)=8:=by omega
     go_wp2_with fail
     refine CJ.out.mono ?_;rintro e w1 hr
     obtain ⟨b,gb,cb,rfl,hbb,hgg,hkn,aa⟩:=hr
     have ab:=bW hown aa
     have ad:w.heap.size≤w1.heap.size:=Nat.le_trans hsz aa.size
     have HS:=hid (ac.out b gb cb w1 hbb hgg hkn aa)
     have ai:=hid aa
     clear hbb hgg hkn aa hown ac
     go_wp2_with (at_builtin;refine wpList_append_own_at _ rfl _ _ 206 rfl w.heap.size 128 i0 (.pointer none) 1 8 underlying206 hi ae af ag rfl (by decide) _ _ _ rfl (ab.alloc _) ⟨w1.heap.size,0,none⟩ 1 1 [pv b] rfl rfl (bP _ _ _) (eH _ rfl) (by unfold maxLen;omega) (by omega) (Nat.le_trans ad (by simp)) ?_;intro v' w2 hown' hgrow _ hat)
     have HN:=hid (HS.out v' w2 _ hown' hgrow hat)
     clear hown' hgrow ab hat HS
     go_wp2
     go_roundw
     case rel=>exact ⟨m - 8,o'+8,c' - 8,_,_,_,_,by go_num,rfl,by omega,HN.out⟩
     case measure=>exact (show m - 8<m by omega)
    ·obtain rfl:z=m:=by omega
     clear ah
     have b3:min (8:Int) (z:Int)=z:=by omega
     by_cases hcz:z=c'
     ·subst hcz
      go_wp2_with fail
      refine CJ.out.mono ?_;rintro e w1 hr
      obtain ⟨b,gb,cb,rfl,hbb,hgg,hkn,aa⟩:=hr
      have ab:=bW hown aa
      have ad:w.heap.size≤w1.heap.size:=Nat.le_trans hsz aa.size
      have HS:=hid (ac.out b gb cb w1 hbb hgg hkn aa)
      have ai:=hid aa
      clear hbb hgg hkn aa hown ac
      go_wp2_with (at_builtin;refine wpList_append_own_at _ rfl _ _ 206 rfl w.heap.size 128 i0 (.pointer none) 1 8 underlying206 hi ae af ag rfl (by decide) _ _ _ rfl (ab.alloc _) ⟨w1.heap.size,0,none⟩ 1 1 [pv b] rfl rfl (bP _ _ _) (eH _ rfl) (by unfold maxLen;omega) (by omega) (Nat.le_trans ad (by simp)) ?_;intro v' w2 hown' hgrow _ hat)
      have HN:=hid (HS.out v' w2 _ hown' hgrow hat)
      clear hown' hgrow ab hat HS
      go_wp2
      go_roundw
      case rel=>exact ⟨0,o',z - z,_,_,_,_,by go_num,rfl,by omega,HN.out.zero o'⟩
      case measure=>exact (show 0<z by omega)
     ·have b4:¬ c'=z:=fun e=>hcz e.symm
      go_wp2_with fail
      refine CJ.out.mono ?_;rintro e w1 hr
      obtain ⟨b,gb,cb,rfl,hbb,hgg,hkn,aa⟩:=hr
      have ab:=bW hown aa
      have ad:w.heap.size≤w1.heap.size:=Nat.le_trans hsz aa.size
      have HS:=hid (ac.out b gb cb w1 hbb hgg hkn aa)
      have ai:=hid aa
      clear hbb hgg hkn aa hown ac
      go_wp2_with (at_builtin;refine wpList_append_own_at _ rfl _ _ 206 rfl w.heap.size 128 i0 (.pointer none) 1 8 underlying206 hi ae af ag rfl (by decide) _ _ _ rfl (ab.alloc _) ⟨w1.heap.size,0,none⟩ 1 1 [pv b] rfl rfl (bP _ _ _) (eH _ rfl) (by unfold maxLen;omega) (by omega) (Nat.le_trans ad (by simp)) ?_;intro v' w2 hown' hgrow _ hat)
      have HN:=hid (HS.out v' w2 _ hown' hgrow hat)
      clear hown' hgrow ab hat HS
      go_wp2
      go_roundw
      case rel=>exact ⟨0,o'+z,c' - z,_,_,_,_,by go_num,rfl,by omega,HN.out.zero (o'+z)⟩
      case measure=>exact (show 0<z by omega)
  ·obtain rfl:m=0:=by omega
   have HR:=hid (hI.done (by omega) hh HP.out.size)
   clear hI
   go_wp2
   go_ret
   exact HR.out
def RetTree (lo:Nat) (w:World) (h:Nat) (L:List ByteArray) (e:Ending) (w':World):Prop:=∃ b,e=.returned (pv b)∧KnotW w' (Since lo w') h b L∧Below w.heap.size w w'
structure UpI (lo:Nat) (w:World) (h n:Nat) (K:List Kid) (g o m h':Nat) (K':List Kid) (wr:World):Prop where
 p:JoinP wr (Since lo wr) g o m h' K'
 flat:flat K'=flat K
 high:upH m h'=upH n h
 pos:0<m
 le:h'+m≤h+n
 bel:Below w.heap.size w wr
theorem JoinP.one {K:List Kid} (p:JoinP w B g o 1 h K):∃ b,w.cell? ⟨g,o,none⟩=some (pv b)∧KnotW w B h b (flat K):=by
 have hl:=p.len
 match K,hl with
 | [k],_ =>
  refine ⟨k.b,?_,?_⟩
  ·have:=p.cell (k:=0) (by omega)
   simpa using this
  ·rw [cV];exact p.kids k (by simp)
set_option maxHeartbeats 1600000 in
theorem PO {c:Nat} {K:List Kid} (hlo:lo≤w.heap.size) (p:JoinP w (Since lo w) g o n h K) (h0:0<n) (hh:h+n≤800) (hc:n≤c) :
 Calls prog 172 #[.slice (some ⟨g,o,none⟩) n c] w (RetTree lo w (upH n h) (flat K)):=by
 have ce:=p.even (c:=c) (by omega)
 obtain ⟨H,hH⟩:∃ H,upH n h=H:=⟨_,rfl⟩
 rw [hH]
 have CE:=hid ce;have HP:=hid p;have HH:=hid hH
 clear ce p hH
 have t1:((n:Int) == 0)=false:=by simpa using (show ¬ (n:Int)=0 by omega)
 have t2:(n == 0)=false:=by simpa using (show ¬ n=0 by omega)
 go_enter func172,ntmps172
 go_wp2_with fail
 refine CE.out.mono ?_;rintro e w1 ⟨rfl,ac⟩
 have ab:=hid ac
 clear ac
 go_wp2
 go_loopw [0] (fun t wr=>∃ (g' o' m c' h':Nat) (K':List Kid),t=.slice (some ⟨g',o',none⟩) m c'∧m≤c'∧UpI lo w h n K g' o' m h' K' wr) (fun t _=>(match t with | .slice _ m _=>m|_=>0))
 case atStart=>exact ⟨g,o,n,c,h,K,rfl,hc,(HP.out.on ab.out).weak (fun i hi=>⟨hi.1,Nat.lt_of_lt_of_le hi.2 ab.out.size⟩) (fun i hi=>hi.2),rfl,rfl,h0,Nat.le_refl _,ab.out⟩
 case round =>
  obtain ⟨g',o',m,c',h',K',rfl,hmc,hI⟩:=hrel
  have hle:=hI.le
  have hpos:=hI.pos
  rcases Nat.lt_or_ge 8 m with h8|h8
  ·have cg:=wV (c:=c') (Nat.le_trans hlo hI.bel.size) hI.p h8 (by omega) (by omega) hmc
   have ag:=gW m (by omega)
   have hgp:=mF hpos
   have hup:=hI.high
   rw [LR h8] at hup
   have HI:=hid hI;have HU:=hid hup
   obtain ⟨q,hq⟩:∃ q,gcount m=q:=⟨_,rfl⟩
   unfold RetGroup at cg
   rw [hq] at cg ag hgp HU
   have CG:=hid cg
   have b1:(8:Int)<(m:Int):=by omega
   clear hI hup cg hq
   go_wp2_with fail
   refine CG.out.mono ?_;rintro e w2 ⟨g2,c2,K2,rfl,ad,ae,af,aa⟩
   have HN:=hid (show UpI lo w h n K g2 0 q (h'+1) K2 w2 from ⟨ae,af.trans HI.out.flat,HU.out,hgp,by omega,HI.out.bel.trans (aa.mono HI.out.bel.size)⟩)
   have ah:=hid ad
   clear ae af aa ad
   go_wp2
   go_roundw
   case rel=>exact ⟨g2,0,q,c2,h'+1,K2,rfl,ah.out,HN.out⟩
   case measure=>exact (show q<m by omega)
  ·have b1:¬ (8:Int)<(m:Int):=by omega
   by_cases h1:m=1
   ·subst h1
    obtain ⟨b,q0,hk⟩:=hI.p.one
    have hup:=hI.high
    rw [NE (Nat.le_refl 1),HH.out] at hup
    subst hup
    rw [hI.flat] at hk
    have HK:=hid hk;have HB:=hid hI.bel
    clear hI hk
    go_wp2
    go_ret
    exact ⟨b,rfl,HK.out,HB.out⟩
   ·have cj:=dP (c:=c') hI.p (by omega) h8
    have hup:=hI.high
    rw [MX (by omega) h8,HH.out] at hup
    subst hup
    have b2:((m:Int) == 1)=false:=by simpa using (show ¬ (m:Int)=1 by omega)
    have b3:(m == 1)=false:=by simpa using h1
    have HF:=hid hI.flat;have HB:=hid hI.bel;have CJ:=hid cj
    clear hI cj
    go_wp2_with fail
    refine CJ.out.mono ?_;rintro e w2 ⟨b,gb,cb,rfl,hbb,hgg,hkn,aa⟩
    have hlr:=Nat.le_trans hlo HB.out.size
    have hk:=hkn.knot (B':=Since lo w2) (fun i hi=>⟨hi.1,Nat.lt_of_lt_of_le hi.2 aa.size⟩) ⟨Nat.le_trans hlr hbb,hkn.blk.lt⟩ ⟨Nat.le_trans hlr hgg,hkn.row.1⟩
    rw [HF.out] at hk
    have HK:=hid hk;have ai:=hid (HB.out.trans (aa.mono HB.out.size))
    clear hbb hgg hkn aa hk
    go_wp2
    go_ret
    exact ⟨b,rfl,HK.out,ai.out⟩
def RetGath (w:World) (base:Nat) (M:List ByteArray) (e:Ending) (w':World):Prop:=∃ v',e=.returned v'∧w'.ownsRow base 9 1 v' M.length (strVs M)∧Below base w w'
def GatherC (h:Nat):Prop:=∀ (b:Nat) (L:List ByteArray) (w:World) (base:Nat) (v:Value) (l:List ByteArray) (B:Nat→Prop),KnotW w B h b L→(∀ i,B i→i<base)→base≤w.heap.size →
 w.ownsRow base 9 1 v l.length (strVs l)→l.length+L.length≤1000000→Calls prog 145 #[pv b,v] w (RetGath w base (l++L))
theorem dT {b:Nat} (k:KnotW w B h b L) (hh:h≤1000):∀ W,Below w.heap.size w W→Calls prog 175 #[pv b] W fun e w'=>e=.returned (.int .i64 h)∧Below w.heap.size w w':=
 (k.hgt hh).later
set_option maxHeartbeats 800000 in
theorem wS:GatherC 0:=by
 intro b L w base v l B hk hB hbase hown hlen
 obtain ⟨i0,hi,ae,af,ag⟩:=info_parts mG
 have kh:=dT hk (by decide)
 obtain ⟨hb,s,rfl,hf,hblk⟩:=hk
 rw [show ((0:Nat):Int)=0 from rfl] at kh
 unfold kcs at hblk
 have hfin:∀ v' w',w'.ownsRow base 9 1 v' (l.length+1) (strVs l++[.string s])→Below base w w'→RetGath w base (l++[s]) (.returned v') w':=fun v' w' h1 h2 =>
  ⟨v',rfl,by rw [lB,List.length_append];exact h1,h2⟩
 obtain ⟨N,hN⟩:∃ N,l.length=N:=⟨_,rfl⟩
 rw [hN] at hown hlen hfin
 have KH:=hid kh;have HF:=hid hfin;have ad:=hid hblk;have HO:=hid hown
 clear kh hf hblk hN hown hfin
 have hn:N≤1000000:=by omega
 clear hlen
 go_enter func145,ntmps145
 go_wp2_with fail
 refine (KH.out _ (Below.refl _ _)).mono ?_;rintro e w1 ⟨rfl,ab⟩
 have ah:=hid ab
 clear ab
 go_wp2_with fail
 refine (KH.out _ ah.out).mono ?_;rintro e w2 ⟨rfl,aa⟩
 have c4:=((ad.out.onto aa).cell 4 _ rfl)
 have hown:=bW HO.out aa
 have hsz:=Nat.le_trans hbase aa.size
 have ai:=hid aa
 clear aa
 go_wp2_with (at_builtin;refine wpList_append_own _ rfl _ _ 159 rfl base 9 i0 _ 1 16 underlying159 hi ae af ag rfl (by decide) _ _ _ rfl (hown.alloc _) ⟨w2.heap.size,0,none⟩ 1 1 [.string s] rfl rfl (bP _ _ _) (eH _ rfl) (by unfold maxLen;omega) (by omega) (Nat.le_trans hsz (by simp)) ?_;intro v' w3 hown' hgrow _)
 have ac:Below base w w3:=((ai.out.mono hbase).alloc hsz _).grown hgrow (Nat.le_trans hsz (by simp)) (aM hown)
 have HR:=hid (HF.out v' w3 hown' ac)
 clear hown' hgrow hown ac
 go_wp2
 go_ret
 exact HR.out
theorem qE (K:List Kid) (k:Nat) (h:k<K.length):flat (K.take (k+1))=flat (K.take k)++K[k].L:=by
 rw [List.take_succ_eq_append_getElem h,flat_app,cV]
theorem rV (K:List Kid) (k:Nat):(flat (K.take k)).length≤(flat K).length:=by
 have e:flat K=flat (K.take k)++flat (K.drop k):=by rw [← flat_app,List.take_append_drop]
 rw [e,List.length_append];omega
set_option maxHeartbeats 1600000 in
theorem wQ (hh:h≤900) (ih:GatherC h):GatherC (h+1):=by
 intro b L w base v l B hk hB hbase hown hlen
 have kh:=dT hk (by omega)
 obtain ⟨K,g,c,hn,rfl,hg⟩:=hk.node
 have c6:=hn.blk.cell 6 _ rfl
 have hbb:=hB _ hk.lt
 have ak:=hid hk;have al:=hid ih;have HN:=hid hn;have KH:=hid kh;have HO:=hid hown;have HL:=hid hlen;have aa:=hid hB
 have HG:=hid (hB g hg)
 obtain ⟨n,hkn⟩:∃ n,K.length=n:=⟨_,rfl⟩
 rw [hkn] at c6
 have h2:=hn.two
 have h8:=hn.eight
 rw [hkn] at h2 h8
 have HK:=hid hkn
 clear hk ih hn kh hown hlen hB hkn hg
 obtain ⟨h',hh'⟩:∃ x:Int,((h+1:Nat):Int)=x:=⟨_,rfl⟩
 rw [hh'] at KH
 have HH:=hid hh'
 have t1:¬ h'<0:=by omega
 have t2:(h' == 0)=false:=by simpa using (show ¬ h'=0 by omega)
 have t3:(h:Int)<h':=by omega
 clear hh'
 go_enter func145,ntmps145
 go_wp2_with fail
 refine (KH.out _ (Below.refl _ _)).mono ?_;rintro e w1 ⟨rfl,ad⟩
 have am:=hid ad
 clear ad
 go_wp2_with fail
 refine (KH.out _ am.out).mono ?_;rintro e w2 ⟨rfl,ab⟩
 have d6:w2.cell? ⟨b,6,none⟩=some (.slice (some ⟨g,0,none⟩) n c):=(ab.cell (p:=⟨b,6,none⟩) (Nat.lt_of_lt_of_le hbb hbase)).trans c6
 have ae:=hid ab
 clear ab
 go_wp2
 go_loopw [1,27] (fun u i wr=>∃ (k:Nat) (x:Value),k≤n∧i=.int .i64 k∧x=u∧wr.ownsRow base 9 1 x (l++flat (K.take k)).length (strVs (l++flat (K.take k)))∧Below base w wr) (fun _ i _=>n - (intOf i).toNat)
 case atStart=>exact ⟨0,v,Nat.zero_le _,rfl,rfl,by rw [List.take_zero,show flat []=[] from rfl,List.append_nil];exact bW HO.out ae.out,ae.out.mono hbase⟩
 case round =>
  obtain ⟨k,x,hkk,rfl,rfl,hown,hbel⟩:=hrel
  by_cases hlt:k<n
  ·have hkl:k<K.length:=by rw [HK.out];exact hlt
   have q0:=(hbel.cell (p:=⟨g,0+k,none⟩) HG.out).trans (HN.out.row.2 k (by rw [aP];exact hkl))
   rw [show (ptrs K)[k]'(by rw [aP];exact hkl)=pv K[k].b by simp [ptrs],Nat.zero_add] at q0
   have hkid:=(HN.out.kids K[k] (List.getElem_mem hkl)).below hbel aa.out
   have kk:=dT hkid (by omega)
   have kb:=dT (ak.out.below hbel aa.out) (by omega)
   rw [HH.out] at kb
   have hst:=qE K k hkl
   have hle:=rV K (k+1)
   rw [hst,List.length_append] at hle
   have hih:=fun W (hW:Below wr.heap.size wr W)=>al.out K[k].b K[k].L W base x (l++flat (K.take k)) B (hkid.below hW fun i hi=>Nat.lt_of_lt_of_le (aa.out i hi) (Nat.le_trans hbase hbel.size)) aa.out (Nat.le_trans (Nat.le_trans hbase hbel.size) hW.size) (bW hown hW) (by have:=HL.out;rw [List.length_append];omega)
   rw [List.append_assoc,← hst] at hih
   obtain ⟨bk,hbk⟩:∃ bk,K[k].b=bk:=⟨_,rfl⟩
   rw [hbk] at q0 kk hih
   have KK:=hid kk;have KB:=hid kb;have HI:=hid hih;have HB:=hid hbel
   have hsz:base≤wr.heap.size:=Nat.le_trans hbase hbel.size
   clear kk kb hih hbel hown hkid hst hle hbk hkl
   go_wp2_with fail
   refine (KK.out _ (Below.refl _ _)).mono ?_;rintro e w3 ⟨rfl,af⟩
   have ac:=hid af
   clear af
   go_wp2_with fail
   refine (KB.out _ ac.out).mono ?_;rintro e w4 ⟨rfl,ag⟩
   have ah:=hid ag
   clear ag
   go_wp2_with fail
   refine (HI.out _ ah.out).mono ?_;rintro e w5 ⟨v',rfl,ai,aj⟩
   have an:=hid ai;have ao:=hid ((HB.out.trans (ah.out.mono hsz)).trans aj)
   clear ai aj
   go_wp2
   go_roundw
   case rel=>exact ⟨k+1,_,by omega,by go_num,rfl,an.out,ao.out⟩
   case measure=>simp [intOf];omega
  ·obtain rfl:k=n:=by omega
   have e:K.take k=K:=List.take_of_length_le (by rw [HK.out];exact Nat.le_refl _)
   rw [e] at hown
   have aq:=hid hown;have ac:=hid hbel
   clear hown hbel e
   go_wp2
   go_ret
   exact ⟨_,rfl,aq.out,ac.out⟩
theorem BG (h:Nat) (hh:h≤900):GatherC h:=by
 induction h with
 | zero=>exact wS
 | succ h ih=>exact wQ (by omega) (ih (by omega))
set_option maxHeartbeats 800000 in
theorem vQ {p:Option Addr} (k:Hgt w p (-1)) (v:Value):Calls prog 145 #[.pointer p,v] w fun e w'=>e=.returned v∧Below w.heap.size w w':=by
 have kh:=k.later
 have KH:=hid kh
 clear k kh
 go_enter func145,ntmps145
 go_wp2_with fail
 refine (KH.out _ (Below.refl _ _)).mono ?_;rintro e w1 ⟨rfl,aa⟩
 go_wp2
 go_ret
 exact ⟨rfl,aa⟩
set_option maxHeartbeats 800000 in
theorem zE {b:Nat} (k:KnotH w h b L) (hh:h≤900) (hl:L.length≤1000000) :
 Calls prog 117 #[pv b] w (RetGath w w.heap.size L):=by
 have kc:=BG h hh b L w w.heap.size (.slice none 0 0) [] _ k (fun i hi=>hi) (Nat.le_refl _) (World.ownsRow_nil _ _ _ _) (by simpa using hl)
 rw [List.nil_append] at kc
 have KC:=hid kc
 clear k kc
 go_enter func117,ntmps117
 go_wp2_with fail
 refine KC.out.mono ?_;rintro e w1 ⟨v',rfl,ho,hb⟩
 have HO:=hid (And.intro ho hb)
 clear ho hb
 go_wp2
 go_ret
 exact ⟨_,rfl,HO.out⟩
set_option maxHeartbeats 800000 in
theorem wK {p:Option Addr} (k:Hgt w p (-1)):Calls prog 117 #[.pointer p] w fun e w'=>e=.returned (.slice none 0 0)∧Below w.heap.size w w':=by
 have kc:=vQ k (.slice none 0 0)
 have KC:=hid kc
 clear k kc
 go_enter func117,ntmps117
 go_wp2_with fail
 refine KC.out.mono ?_;rintro e w1 ⟨rfl,hb⟩
 go_wp2
 go_ret
 exact ⟨rfl,hb⟩
theorem qG (w:World):Calls prog 116 #[.slice none 0 0,.string ⟨#[]⟩] w fun e w'=>e=.returned (.string ⟨#[]⟩)∧w'=w:=
 Any.strings_Join_none Tryz.lays156 Tryz.Builder_Extra_156 none 0 ⟨#[]⟩ w
theorem JX {base:Nat} (ho:w.ownsRow base 9 1 v L.length (strVs L)) (hl:L.length≤1000000) (hz:(wholeL L).size≤1000000) :
 Calls prog 116 #[v,.string ⟨#[]⟩] w fun e w'=>e=.returned (.string (wholeL L))∧Below w.heap.size w w':=by
 rcases Nat.eq_zero_or_pos L.length with h0|h0
 ·obtain rfl:L=[]:=List.eq_nil_of_length_eq_zero h0
  rcases ho.2 with ⟨rfl,_⟩|⟨g,cap,cur,rfl,_⟩
  ·exact (qG w).mono fun e w' ⟨he,hw⟩=>⟨he,hw ▸ Below.refl _ _⟩
  ·exact (Any.strings_Join_none Tryz.lays156 Tryz.Builder_Extra_156 _ cap ⟨#[]⟩ w).mono fun e w' ⟨he,hw⟩=>⟨he,hw ▸ Below.refl _ _⟩
 ·obtain ⟨g,c,rfl,hc,-,hg,hr⟩:=bF ho h0
  have e:Lib.join (L.map (·.data.toList)) (⟨#[]⟩:ByteArray).data.toList=(wholeL L).data.toList:=yB L
  refine (Tryz.strings_Join g 0 c L ⟨#[]⟩ w (fun j x hj=>?_) hg (by omega) hc (by rw [e];simp;omega)).mono ?_
  ·obtain ⟨aa,rfl⟩:=List.getElem?_eq_some_iff.1 hj
   have:=hr j (by simpa [strVs] using aa)
   rw [this]
   simp [strVs]
  ·rintro e' w' ⟨rfl,hb⟩
   exact ⟨lW (by rw [e]),hb⟩
set_option maxHeartbeats 800000 in
theorem KQ {b:Nat} (k:KnotH w h b L) (hh:h≤900) (hl:L.length≤1000000) (hz:(wholeL L).size≤1000000) :
 Calls prog 95 #[pv b] w fun e w'=>e=.returned (.string (wholeL L))∧Below w.heap.size w w':=by
 have kc:=zE k hh hl
 have KC:=hid kc
 clear k kc
 go_enter func95,ntmps95
 go_wp2_with fail
 refine KC.out.mono ?_;rintro e w1 ⟨v',rfl,ho,aa⟩
 have kj:=JX ho hl hz
 have KJ:=hid kj;have ab:=hid aa
 clear ho kj aa
 go_wp2_with fail
 refine KJ.out.mono ?_;rintro e w2 ⟨rfl,ac⟩
 have ad:=hid (ab.out.trans (ac.mono ab.out.size))
 clear ac
 go_wp2
 go_ret
 exact ⟨rfl,ad.out⟩
set_option maxHeartbeats 800000 in
theorem EC {p:Option Addr} (k:Hgt w p (-1)):Calls prog 95 #[.pointer p] w fun e w'=>e=.returned (.string ⟨#[]⟩)∧Below w.heap.size w w':=by
 have kc:=wK k
 have kj:=qG
 have KC:=hid kc;have KJ:=hid kj
 clear k kc kj
 go_enter func95,ntmps95
 go_wp2_with fail
 refine KC.out.mono ?_;rintro e w1 ⟨rfl,aa⟩
 go_wp2_with fail
 refine (KJ.out _).mono ?_;rintro e w2 ⟨rfl,rfl⟩
 go_wp2
 go_ret
 exact ⟨rfl,aa⟩
end Go.Proofs.YtbagenpobcgjnaaGreat
