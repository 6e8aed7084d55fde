/-
  Joined: KnotMem, KnotDev1, KnotDev2.
-/
import Derived.Test.YtbagenpobcgjnaaGreatJKnotMath
import Derived.Test.YtbagenpobcgjnaaGreatJChunkRef
import Derived.Test.YtbagenpobcgjnaaGreatJSq
import Derived.Test.YtbagenpobcgjnaaGreatKnotClone
open Go renaming Calls->ze,Value->zj,World->zd,bodyPost_ret->zr,results->zs,undef->zn,wpAnyH_done->zw,wpAnyH_take->zm,wp_region_held_drew->zv
open Go.Act renaming put->zh
open Go.Ending renaming returned->zf
open Go.Instr renaming field->zt
open Go.IntKind renaming i64->yw
open Go.Lib renaming hid->yx
open Go.Obj renaming cells->zk
open Go.RowKit renaming Below->yy
open Go.Value renaming int->yv,pointer->yz,slice->zi,string->zg
open List renaming getElem_map->Ab,length_map->Ad,take_length->zz,take_succ_eq_append_getElem->zy,take_zero->Aa
open Nat renaming le_refl->zq,lt_irrefl->zx,lt_of_lt_of_le->zu
open Or renaming inr->zo
variable {f s:ByteArray} {a c lv:Int} {L:List ByteArray} {l:List Go.Value} {b g h o:Nat} {B:Nat→Prop} {p:Option Go.Addr} {t:Go.TypeId} {kv:Go.Value} {w w':Go.World}
namespace Go.Proofs.YtbagenpobcgjnaaGreat
open Go.RowKit
set_option linter.unusedVariables false
abbrev pv (b:Nat):zj:=yz (some ⟨b,0,none⟩)
def kcs (lv:Int) (s f l:ByteArray) (kv:zj):Array zj:=#[yv yw lv,yv yw s.size,yv yw (op s.data.toList),yv yw (oq s.data.toList),zg f,zg l,kv]
structure pg where
 b:Nat
 L:List ByteArray
def flat (K:List pg):List ByteArray:=(K.map pg.L).flatten
def ns (K:List pg):List zj:=K.map fun k=>pv k.b
theorem aP (K:List pg):(ns K).length=K.length:=by simp [ns]
theorem od (A B:List pg):flat (A++B)=flat A++flat B:=by simp [flat]
theorem dC (k:pg):flat [k]=k.L:=by simp [flat]
def qp (w:zd) (g o:Nat) (l:List zj):Prop:=g<w∧∀ j (h:j<l.length),w ⟨g,o+j,none⟩=some l[j]
theorem qp.keep (h:qp w g o l) (hs:w.heap.size≤w') (hk:w'.heap[g]? = w.heap[g]?):qp w' g o l:=
 ⟨zu h.1 hs,fun j hj=>(World.cell?_of_block (w:=w) hk).trans (h.2 j hj)⟩
theorem qp.on (h:qp w g o l) (hb:yy w w w'):qp w' g o l:=h.keep hb.size (hb.block g h.1)
theorem qp.sub (h:qp w g o l) (n:Nat):qp w g (o+n) (l.drop n):=
 ⟨h.1,fun j hj=>by
  rw [List.length_drop] at hj;rw [List.getElem_drop,Nat.add_assoc];exact h.2 (n+j) lf⟩
theorem qp.pre (h:qp w g o l) (n:Nat):qp w g o (l.take n):=
 ⟨h.1,fun j hj=>by
  rw [List.length_take] at hj;rw [List.getElem_take];exact h.2 j lf⟩
def l9 (w:zd) (B:Nat→Prop):Nat→Nat→List ByteArray→Prop
 | 0,b,L=>B b∧∃ s,L=[s]∧qq s∧l6 w b (kcs 1 s s s (zi none 0 0)) 212
 | h+1,b,L=>B b∧∃ (K:List pg) (g c:Nat),2≤K.length∧K.length≤8∧K.length≤c∧(∀ k∈K,l9 w B h k.b k.L)∧L=flat K∧B g∧qp w g 0 (ns K)∧l6 w b (kcs (h+2) (lx L) (p9 L) (pq L) (zi (some ⟨g,0,none⟩) K.length c)) 212
structure tp (w:zd) (B:Nat→Prop) (h b:Nat) (K:List pg) (g c:Nat):Prop where
 two:2≤K.length
 eight:K.length≤8
 cap:K.length≤c
 kids:∀ k∈K,l9 w B h k.b k.L
 row:qp w g 0 (ns K)
 blk:l6 w b (kcs (h+2) (lx (flat K)) (p9 (flat K)) (pq (flat K)) (zi (some ⟨g,0,none⟩) K.length c)) 212
theorem l9.node (k:l9 w B (h+1) b L):∃ K g c,tp w B h b K g c∧L=flat K∧B g:=by
 obtain ⟨h1,K,g,c,h2,h3,h4,h5,rfl,h6,h7,h8⟩:=k;exact ⟨K,g,c,⟨h2,h3,h4,h5,h7,h8⟩,rfl,h6⟩
theorem l9.lt :∀ {h b:Nat} {L:List ByteArray},l9 w B h b L→B b
 | 0,_,_,k=>k.1
 | _+1,_,_,k=>k.1
theorem l9.keep (hs:w.heap.size≤w') (hk:∀ i,B i→w'.heap[i]? = w.heap[i]?):∀ {h b:Nat} {L:List ByteArray},l9 w B h b L→l9 w' B h b L
 | 0,b,L,⟨hb,s,e,hf,hB⟩=>⟨hb,s,e,hf,(hk b hb).trans hB⟩
 | h+1,b,L,⟨hb,K,g,c,h2,h3,h4,h5,e,h6,h7,h8⟩=>⟨hb,K,g,c,h2,h3,h4,fun k hm=>(h5 k hm).keep hs hk,e,h6,h7.keep hs (hk g h6),(hk b hb).trans h8⟩
theorem l9.weak {B':Nat→Prop} (hB:∀ k,B k→B' k):∀ {h b:Nat} {L:List ByteArray},l9 w B h b L→l9 w B' h b L
 | 0,b,L,⟨hb,r⟩=>⟨hB _ hb,r⟩
 | h+1,b,L,⟨hb,K,g,c,h2,h3,h4,h5,e,h6,r⟩=>⟨hB _ hb,K,g,c,h2,h3,h4,fun k hm=>(h5 k hm).weak hB,e,hB _ h6,r⟩
theorem tp.knot {B':Nat→Prop} {K:List pg} {c:Nat} (n:tp w B h b K g c) (hB:∀ k,B k→B' k) (hb:B' b) (hg:B' g):l9 w B' (h+1) b (flat K):=
 ⟨hb,K,g,c,n.two,n.eight,n.cap,fun k hk=>(n.kids k hk).weak hB,rfl,hg,n.row,n.blk⟩
theorem l9.below {N:Nat} (k:l9 w B h b L) (hb:yy N w w') (hB:∀ i,B i→i<N):l9 w' B h b L:=k.keep hb.size fun i hi=>hb.block i (hB i hi)
abbrev vu (w:zd) (h b:Nat) (L:List ByteArray):Prop:=l9 w (·<w) h b L
theorem vu.on (k:vu w h b L) (hb:yy w w w'):vu w' h b L:=(k.below hb fun _ h=>h).weak fun _ h=>zu h hb.size
theorem FO {K:List pg} {P:ByteArray→Prop} {m:Nat} (h:∀ k∈K,(∀ s∈k.L,P s)∧m≤k.L.length):(∀ s∈flat K,P s)∧m * K.length≤(flat K).length:=by
 induction K with
 | nil=>exact ⟨fun s hs=>absurd hs (by simp [flat]),lh⟩
 | cons k K ih =>
  obtain ⟨i1,i2⟩:=ih fun x hx=>h x (by simp [hx]);obtain ⟨j1,j2⟩:=h k lh;have e:flat (k::K)=k.L++flat K:=by simp [flat]
  refine ⟨fun s hs=>?_,?_⟩
  ·rw [e,List.mem_append] at hs;exact hs.elim (j1 s) (i1 s)
  ·rw [e,List.length_append,List.length_cons,Nat.mul_succ];omega
theorem l9.chunks :∀ {h b:Nat} {L:List ByteArray},l9 w B h b L→(∀ s∈L,qq s)∧2 ^ h≤L.length
 | 0,b,L,⟨hb,s,e,hf,hB⟩=>by subst e;exact ⟨fun t ht=>by rw [List.mem_singleton.1 ht];exact hf,zq _⟩
 | h+1,b,L,⟨hb,K,g,c,h2,h3,h4,h5,e,r⟩=>by
  subst e;obtain ⟨i1,i2⟩:=FO (P:=qq) (m:=2 ^ h) fun k hk=>(h5 k hk).chunks;refine ⟨i1,?_⟩;have:=Nat.mul_le_mul_left (2 ^ h) h2;rw [Nat.pow_succ];omega
theorem l9.many (k:l9 w B h b L):0<L.length:=zu (Nat.pow_pos li) k.chunks.2
theorem l9.ne (k:l9 w B h b L):L≠[]:=fun e=>by have:=k.many;rw [e] at this;exact absurd this (zx 0)
theorem l9.cells :∀ {h b:Nat} {L:List ByteArray},l9 w B h b L→∃ kv:zj,(∃ a n c,kv=zi a n c)∧l6 w b (kcs (h+1) (lx L) (p9 L) (pq L) kv) 212
 | 0,b,L,⟨hb,s,e,hf,hB⟩=>by subst e;rw [bQ];exact ⟨_,⟨_,_,_,rfl⟩,hB⟩
 | h+1,b,L,⟨hb,K,g,c,h2,h3,h4,h5,e,h6,h7,h8⟩=>⟨_,⟨_,_,_,rfl⟩,by
  rw [show ((h+1:Nat):Int)+1=(h:Int)+2 by omega];exact h8⟩
theorem FZ {K:List pg} (h:∀ k∈K,k.L≠[]) (h0:0<K.length):p9 (flat K)=p9 K[0].L∧pq (flat K)=pq (K[K.length - 1]' lf).L:=by
 constructor
 ·cases K with
  | nil=>exact absurd h0 (zx 0)
  | cons k K =>
   have e:flat (k::K)=k.L++flat K:=by simp [flat]
   rw [e,NA (h k lh)];rfl
 ·have e:K=K.take (K.length - 1)++[K[K.length - 1]' lf]:=by
   have:=zy (l:=K) (i:=K.length - 1) lf;rw [show K.length - 1+1=K.length by omega,zz] at this;exact this
  have e2:flat K=flat (K.take (K.length - 1))++(K[K.length - 1]' lf).L:=by
   conv=>lhs;rw [e]
   rw [od,dC]
  rw [e2,wK (h _ (List.getElem_mem _))]
theorem NK {K:List pg} (hz:(lx (flat K)).size≤1000000):sq.sum (K.map fun k=>tr (lx k.L))=tr (lx (flat K)):=by
 have h:∀ n,n≤K.length→sq.sum ((K.map fun k=>tr (lx k.L)).take n)=tr (lx (flat (K.take n))):=by
  intro n
  induction n with
  | zero=>intro _;rw [Aa,Aa];rfl
  | succ n ih =>
   intro hn;have e:flat (K.take (n+1))=flat (K.take n)++(K[n]' lf).L:=by
    rw [zy lf,od,dC]
   have hl:(lx (flat (K.take (n+1)))).size≤(lx (flat K)).size:=by
    have e2:flat K=flat (K.take (n+1))++flat (K.drop (n+1)):=by rw [← od,List.take_append_drop]
    rw [e2,aG,ByteArray.size_append];omega
   rw [uL _ _ (by simpa using (show n<K.length by omega)),ih lf,Ab];rw [e,aG] at hl ⊢;exact MS _ _ lf
 have:=h K.length (zq _);rwa [zz,List.take_of_length_le lh] at this
open Go.Proofs.Tryz
set_option maxRecDepth 100000
open Lib (hid)
set_option linter.unusedSimpArgs false
abbrev kc7 (lv a b c:Int) (f s:ByteArray) (kv:zj):Array zj:=#[yv yw lv,yv yw a,yv yw b,yv yw c,zg f,zg s,kv]
abbrev knV (lv a b c:Int) (f s:ByteArray):zj:=.agg #[yv yw lv,yv yw a,yv yw b,yv yw c,zg f,zg s]
theorem l6.seven {b:Int} (h:l6 w g (kc7 lv a b c f s kv) t) :
 w ⟨g,0,none⟩=some (yv yw lv)∧w ⟨g,1,none⟩=some (yv yw a)∧w ⟨g,2,none⟩=some (yv yw b)∧w ⟨g,3,none⟩=some (yv yw c) ∧
 w ⟨g,4,none⟩=some (zg f)∧w ⟨g,5,none⟩=some (zg s)∧w ⟨g,6,none⟩=some kv:=
 ⟨h.cell 0 _ rfl,h.cell 1 _ rfl,h.cell 2 _ rfl,h.cell 3 _ rfl,h.cell 4 _ rfl,h.cell 5 _ rfl,h.cell 6 _ rfl⟩
abbrev z6:Obj:=zk #[yv yw 0,yv yw 0,yv yw 0,yv yw 0,zg ⟨#[]⟩,zg ⟨#[]⟩] 200
set_option maxHeartbeats 800000 in
theorem fN (w:zd):ze prog 162 #[yz none] w fun e w'=>e=zf (knV 0 0 0 0 ⟨#[]⟩ ⟨#[]⟩)∧yy w w w':=by
 go_enter func162,ntmps162;go_wp2;refine zr (v:=knV 0 0 0 0 ⟨#[]⟩ ⟨#[]⟩) (by simp [zs,results162,go_sem]) rfl ⟨rfl,?_⟩;exact (Below.refl _ _).alloc (zq _) _
set_option maxHeartbeats 800000 in
theorem fO {b:Int} (hB:l6 w g (kc7 lv a b c f s kv) t) :
 ze prog 162 #[yz (some ⟨g,0,none⟩)] w fun e w'=>e=zf (knV lv a b c f s)∧yy w w w':=by
 obtain ⟨c0,c1,c2,c3,c4,c5,-⟩:=(hB.alloc z6).seven;clear hB;go_enter func162,ntmps162;go_wp2;refine zr (v:=knV lv a b c f s) (by simp [zs,results162,go_sem]) rfl ⟨rfl,?_⟩;exact (Below.refl _ _).alloc (zq _) _
theorem OO (lv a b c:Int) (f s:ByteArray) (w:zd):(zt 200 (knV lv a b c f s) 0).run prog w=.ok (yv yw lv) w:=lg
theorem GG (lv a b c:Int) (f s:ByteArray) (w:zd):(zt 200 (knV lv a b c f s) 1).run prog w=.ok (cntV a b c) w:=lg
theorem JG (lv a b c:Int) (f s:ByteArray) (w:zd):(zt 200 (knV lv a b c f s) 2).run prog w=.ok (zg f) w:=lg
theorem JX (lv a b c:Int) (f s:ByteArray) (w:zd):(zt 200 (knV lv a b c f s) 3).run prog w=.ok (zg s) w:=lg
set_option maxHeartbeats 800000 in
theorem pQ (w:zd) :
 ze prog 175 #[yz none] w fun e w'=>e=zf (yv yw (-1))∧yy w w w':=by
 have ck:=fN w;have cf:=OO 0 0 0 0 ⟨#[]⟩ ⟨#[]⟩;have CK:=yx ck;clear ck;go_enter func175,ntmps175;go_wp2_with fail;refine CK.out.mono ?_;rintro e w1 ⟨rfl,aa⟩;go_wp2;go_ret;exact ⟨rfl,aa⟩
set_option maxHeartbeats 800000 in
theorem AK {b:Int} (hB:l6 w g (kc7 lv a b c f s kv) t) (h0:0≤lv) (h1:lv≤1000000) :
 ze prog 175 #[yz (some ⟨g,0,none⟩)] w fun e w'=>e=zf (yv yw (lv - 1))∧yy w w w':=by
 have ck:=fO hB;have cf:=OO lv a b c f s;have CK:=yx ck;clear ck hB;go_enter func175,ntmps175;go_wp2_with fail;refine CK.out.mono ?_;rintro e w1 ⟨rfl,aa⟩;go_wp2;go_ret;exact ⟨rfl,aa⟩
set_option maxHeartbeats 800000 in
theorem FB (w:zd) :
 ze prog 139 #[yz none] w fun e w'=>e=zf (cntV 0 0 0)∧yy w w w':=by
 have ck:=fN w;have cf:=GG 0 0 0 0 ⟨#[]⟩ ⟨#[]⟩;have ck:ze prog 162 #[yz none] (w.alloc (zk #[yv yw 0,yv yw 0,yv yw 0] 173)) fun e w'=>e=zf (knV 0 0 0 0 ⟨#[]⟩ ⟨#[]⟩)∧yy (w.alloc (zk #[yv yw 0,yv yw 0,yv yw 0] 173)) (w.alloc (zk #[yv yw 0,yv yw 0,yv yw 0] 173)) w':=fN _;have CK:=yx ck;clear ck;go_enter func139,ntmps139;go_wp2_with fail;refine CK.out.mono ?_;rintro e w1 ⟨rfl,aa⟩;have hN:l6 w1 w #[yv yw 0,yv yw 0,yv yw 0] 173:=(l6.new w _ _).onto aa;have g0:=hN.free 0;have g1:=hN.free 1;have g2:=hN.free 2;have d0:=hN.cell 0 _ rfl;have d1:=hN.cell 1 _ rfl;have d2:=hN.cell 2 _ rfl;have hlt:=hN.lt;go_wp2;refine zr (v:=cntV 0 0 0) (by simp [zs,results139,go_sem,g0,g1,g2,d0,d1,d2]) rfl ⟨rfl,?_⟩;exact gB (o:=zk #[yv yw 0,yv yw 0,yv yw 0] 173) aa _ _ _
set_option maxHeartbeats 800000 in
theorem rO {b:Int} (hB:l6 w g (kc7 lv a b c f s kv) t) :
 ze prog 139 #[yz (some ⟨g,0,none⟩)] w fun e w'=>e=zf (cntV a b c)∧yy w w w':=by
 have ck:=fO hB;have cf:=GG lv a b c f s;have ck:ze prog 162 #[yz (some ⟨g,0,none⟩)] (w.alloc (zk #[yv yw 0,yv yw 0,yv yw 0] 173)) fun e w'=>e=zf (knV lv a b c f s)∧yy (w.alloc (zk #[yv yw 0,yv yw 0,yv yw 0] 173)) (w.alloc (zk #[yv yw 0,yv yw 0,yv yw 0] 173)) w':=fO (hB.alloc _);have CK:=yx ck;clear ck hB;go_enter func139,ntmps139;go_wp2_with fail;refine CK.out.mono ?_;rintro e w1 ⟨rfl,aa⟩;have hN:l6 w1 w #[yv yw 0,yv yw 0,yv yw 0] 173:=(l6.new w _ _).onto aa;have g0:=hN.free 0;have g1:=hN.free 1;have g2:=hN.free 2;have d0:=hN.cell 0 _ rfl;have d1:=hN.cell 1 _ rfl;have d2:=hN.cell 2 _ rfl;have hlt:=hN.lt;go_wp2;refine zr (v:=cntV a b c) (by simp [zs,results139,go_sem,g0,g1,g2,d0,d1,d2]) rfl ⟨rfl,?_⟩;exact gB (o:=zk #[yv yw 0,yv yw 0,yv yw 0] 173) aa _ _ _
set_option maxHeartbeats 800000 in
theorem sQ (w:zd) :
 ze prog 165 #[yz none] w fun e w'=>e=zf (zg ⟨#[]⟩)∧yy w w w':=by
 have ck:=fN w;have cf:=JG 0 0 0 0 ⟨#[]⟩ ⟨#[]⟩;have CK:=yx ck;clear ck;go_enter func165,ntmps165;go_wp2_with fail;refine CK.out.mono ?_;rintro e w1 ⟨rfl,aa⟩;go_wp2;go_ret;exact ⟨rfl,aa⟩
set_option maxHeartbeats 800000 in
theorem sH {b:Int} (hB:l6 w g (kc7 lv a b c f s kv) t) :
 ze prog 165 #[yz (some ⟨g,0,none⟩)] w fun e w'=>e=zf (zg f)∧yy w w w':=by
 have ck:=fO hB;have cf:=JG lv a b c f s;have CK:=yx ck;clear ck hB;go_enter func165,ntmps165;go_wp2_with fail;refine CK.out.mono ?_;rintro e w1 ⟨rfl,aa⟩;go_wp2;go_ret;exact ⟨rfl,aa⟩
set_option maxHeartbeats 800000 in
theorem MA (w:zd) :
 ze prog 164 #[yz none] w fun e w'=>e=zf (zg ⟨#[]⟩)∧yy w w w':=by
 have ck:=fN w;have cf:=JX 0 0 0 0 ⟨#[]⟩ ⟨#[]⟩;have CK:=yx ck;clear ck;go_enter func164,ntmps164;go_wp2_with fail;refine CK.out.mono ?_;rintro e w1 ⟨rfl,aa⟩;go_wp2;go_ret;exact ⟨rfl,aa⟩
set_option maxHeartbeats 800000 in
theorem LQ {b:Int} (hB:l6 w g (kc7 lv a b c f s kv) t) :
 ze prog 164 #[yz (some ⟨g,0,none⟩)] w fun e w'=>e=zf (zg s)∧yy w w w':=by
 have ck:=fO hB;have cf:=JX lv a b c f s;have CK:=yx ck;clear ck hB;go_enter func164,ntmps164;go_wp2_with fail;refine CK.out.mono ?_;rintro e w1 ⟨rfl,aa⟩;go_wp2;go_ret;exact ⟨rfl,aa⟩
theorem cW:(prog.info? 128).map (fun i=>(i.zero,i.size,i.bytes))=some (some (yz none),1,8):=lg
theorem DN {n c:Nat} (hl:l.length=n) (hn:n≤1000000) (hr:qp w g o l) (h1:∀ u∈l,u.oneCell'=true) :
 ze prog 212 #[zi (some ⟨g,o,none⟩) n c] w fun e w'=>∃ g' c',e=zf (zi (some ⟨g',0,none⟩) n c')∧n≤c'∧w.heap.size≤g'∧qp w' g' 0 l∧yy w w w':=by
 obtain ⟨i0,hi,aa,ab,ac⟩:=info_parts cW;refine (AnyE.slices_Clone Tryz.knClone i0 (yz none) 1 8 hi aa ab ac rfl li (fun w=>by exact Tryz.sizeOf128 w) g o n c l w lf ln lf (fun j u hj=>?_) h1).mono ?_
 ·obtain ⟨ad,rfl⟩:=List.getElem?_eq_some_iff.1 hj;exact hr.2 j ad
 ·rintro e w' ⟨v',rfl,hown,hne,hb⟩;rcases hown.2 with ⟨rfl,h0⟩|⟨g',cap,cur,rfl,hb',hB,hc,hm,hcs,ht⟩
  ·exact absurd rfl hne
  ·have hlt:=(Array.getElem?_eq_some_iff.1 hB).1;refine ⟨g',cap,rfl,hc,hb',⟨hlt,fun j hj=>?_⟩,hb⟩;have:=hown.cells (g:=g') rfl j _ (List.getElem?_eq_getElem hj);rwa [show (⟨g',0,none⟩:Addr).add j=⟨g',0+j,none⟩ by unfold Addr.add;split <;> simp_all] at this
theorem BE (w:zd):ze prog 212 #[zi none 0 0] w fun e w'=>e=zf (zi none 0 0)∧w'=w:=AnyE.slices_Clone_nil Tryz.knClone 0 0 w
theorem NP (w:zd):ze prog 208 #[yz none] w fun e w'=>e=zf (zi none 0 0)∧yy w w w':=by
 go_enter func208,ntmps208;go_wp2;go_ret;exact ⟨rfl,Below.refl _ _⟩
theorem GW {b:Int} (hB:l6 w g (kc7 lv a b c f s (zi none 0 0)) t) :
 ze prog 208 #[yz (some ⟨g,0,none⟩)] w fun e w'=>e=zf (zi none 0 0)∧yy w w w':=by
 obtain ⟨-,-,-,-,-,-,c6⟩:=hB.seven;have ck:=BE w;have CK:=yx ck;clear hB ck;go_enter func208,ntmps208;go_wp2_with fail;refine CK.out.mono ?_;rintro e w1 ⟨rfl,rfl⟩;go_wp2;go_ret;exact ⟨rfl,Below.refl _ _⟩
set_option maxHeartbeats 400000 in
theorem PU (s:ByteArray) (hs:s.size≤maxLen) (hf:oe s=false) (w:zd) :
 ze prog 170 #[zg s] w fun e w'=>e=zf (yz none)∧yy w w w':=by
 have cf:=eT s hs;rw [hf] at cf;have CF:=yx cf;clear cf hs hf;go_enter func170,ntmps170;go_wp2_with fail;refine (CF.out _).mono ?_;rintro e w1 ⟨rfl,aa⟩;go_wp2;go_ret;exact ⟨rfl,aa⟩
set_option maxHeartbeats 400000 in
theorem xD (s:ByteArray) (hs:s.size≤maxLen) (hf:oe s=true) (w:zd) :
 ze prog 170 #[zg s] w fun e w'=>∃ b,e=zf (pv b)∧w.heap.size≤b∧l6 w' b (kcs 1 s s s (zi none 0 0)) 212∧yy w w w':=by
 have cf:=eT s hs;have ct:=QC s hs;rw [hf] at cf;obtain ⟨x,hx⟩:∃ x,op s.data.toList=x:=⟨_,rfl⟩;obtain ⟨y,hy⟩:∃ y,oq s.data.toList=y:=⟨_,rfl⟩;unfold kcs;rw [hx,hy] at ct ⊢;have CF:=yx cf;have CT:=yx ct;clear cf hs hf ct hx hy;go_enter func170,ntmps170;go_wp2_with fail;refine (CF.out _).mono ?_;rintro e w1 ⟨rfl,aa⟩;go_wp2_with fail;refine (CT.out _).mono ?_;rintro e w2 ⟨rfl,ab⟩;have HB:=yx (aa.trans (ab.mono aa.size));clear aa ab;go_wp2;go_ret;exact ⟨_,rfl,HB.out.size,l6.new _ _ _,HB.out.alloc HB.out.size _⟩
def xg (w:zd) (p:Option Addr) (h:Int):Prop:=
 (p=none∧h=-1)∨∃ (b:Nat) (lv x y z:Int) (f s:ByteArray) (kv:zj) (t:TypeId),p=some ⟨b,0,none⟩∧h=lv - 1∧0≤lv∧lv≤1000000∧l6 w b (kc7 lv x y z f s kv) t
theorem xg.on {h:Int} (k:xg w p h) (hb:yy w w w'):xg w' p h:=by
 rcases k with k|⟨b,lv,x,y,z,f,s,kv,t,h1,h2,h3,h4,h5⟩
 ·exact .inl k
 ·exact .inr ⟨b,lv,x,y,z,f,s,kv,t,h1,h2,h3,h4,h5.onto hb⟩
theorem xg.ge {h:Int} (k:xg w p h):-1≤h∧h≤1000000:=by
 rcases k with k|⟨b,lv,x,y,z,f,s,kv,t,h1,h2,h3,h4,h5⟩ <;> omega
theorem l9.hgt (k:l9 w B h b L) (hh:h≤1000):xg w (some ⟨b,0,none⟩) h:=by
 obtain ⟨kv,-,hB⟩:=k.cells;exact .inr ⟨b,_,_,_,_,_,_,kv,_,rfl,lf,lf,lf,hB⟩
theorem xg.call {h:Int} (k:xg w p h) :
 ze prog 175 #[yz p] w fun e w'=>e=zf (yv yw h)∧yy w w w':=by
 rcases k with ⟨rfl,rfl⟩|⟨b,lv,x,y,z,f,s,kv,t,rfl,rfl,h3,h4,h5⟩
 ·exact pQ w
 ·exact AK h5 h3 h4
theorem xg.later {h:Int} (k:xg w p h):∀ W,yy w w W→ze prog 175 #[yz p] W fun e w'=>e=zf (yv yw h)∧yy w w w':=
 fun W hb=>my hb (k.on hb).call
def xm (hs:Nat→Int) (n:Nat):Prop:=∀ k,k<n→0≤hs k∧hs k=hs 0
def RetEven (w:zd) (hs:Nat→Int) (n:Nat) (e:Ending) (w':zd):Prop:=∃ b:Bool,e=zf (.bool b)∧(b=true↔xm hs n)∧yy w w w'
theorem NI {hs:Nat→Int} {n k:Nat} (h:k<n) (hc:hs k<0∨¬ hs k=hs 0):¬ xm hs n:=fun g=>by have:=g k h;omega
theorem IC {hs:Nat→Int} {k:Nat} (h:xm hs k) (h0:0≤hs k) (h1:hs k=hs 0):xm hs (k+1):=fun j hj=>by
 rcases Nat.lt_or_ge j k with g|g
 ·exact h j g
 ·obtain rfl:j=k:=lf;exact ⟨h0,h1⟩
set_option maxHeartbeats 1600000 in
theorem NN {n c:Nat} {ps:List (Option Addr)} {hs:Nat→Int} (hl:ps.length=n) (hn:n≤1000000) (hr:qp w g o (ps.map yz)) (hh:∀ k (h:k<ps.length),xg w ps[k] (hs k)) :
 ze prog 196 #[zi (some ⟨g,o,none⟩) n c] w (RetEven w hs n):=by
 have HL:=yx hl;have HR:=yx hr;have HH:=yx hh;clear hl hr hh;go_enter func196,ntmps196;go_wp2
 go_loopw [7] (fun i wr=>∃ k:Nat,k≤n∧i=yv yw k∧xm hs k∧yy w w wr) (fun i _=>n - (intOf i).toNat)
 case atStart=>exact ⟨0,Nat.zero_le _,rfl,fun k h=>absurd h (Nat.not_lt_zero k),Below.refl _ _⟩
 case round =>
  obtain ⟨k,hk,rfl,hE,hbel⟩:=hrel;by_cases hlt:k<n
  ·have hkl:k<ps.length:=by rw [HL.out];exact hlt
   have h0l:0<ps.length:=lf;have q0:=(HR.out.on hbel).2 k (by rw [Ad];exact hkl);have r0:=(HR.out.on hbel).2 0 (by rw [Ad];exact h0l);rw [Ab] at q0 r0;rw [Nat.add_zero] at r0;have kp:=(HH.out k hkl).later;have k0:=(HH.out 0 h0l).later;have hge:=(HH.out k hkl).ge;have ai:=(HH.out 0 h0l).ge;have hend:=@NI hs n k hlt;have hnext:=@IC hs k hE;obtain ⟨p,hp⟩:∃ p,ps[k]=p:=⟨_,rfl⟩;obtain ⟨p0,ag⟩:∃ p,ps[0]=p:=⟨_,rfl⟩;obtain ⟨h,hhk⟩:∃ h,hs k=h:=⟨_,rfl⟩;obtain ⟨h0,ah⟩:∃ h,hs 0=h:=⟨_,rfl⟩;rw [hp] at q0 kp;rw [ag] at r0 k0;rw [hhk] at kp hge hend hnext;rw [ah] at k0 ai hend hnext;have hlo:g<wr.drew:=(HR.out.on hbel).1;have HB:=yx hbel.drew;have KP:=yx kp;have K0:=yx k0;have HE:=yx hend;have aj:=yx hnext;have r1:wr.drew ⟨g,o,none⟩=some (yz p0):=r0;have HG:=yx HR.out.1;have b0:(0:Int)<(n:Int):=lf;have b3:0<n:=lf;have b1:(k:Int)<(n:Int):=lf;have b2:(0:Int)≤(k:Int):=lf;clear kp k0 hp ag hhk ah hend hnext hE hbel r0 hlo h0l hkl hk;have R1:=yx ((HB.out.cell (p:=⟨g,o,none⟩) HG.out).symm.trans r1);rcases Int.lt_or_le h 0 with hneg|hneg
   ·have HN:=yx (HE.out (.inl hneg));have d1:decide (h<0)=true:=decide_eq_true hneg;go_wp2_with fail;refine zv (S:=(fun w':zd=>yy w w w'∧w' ⟨g,o,none⟩=some (yz p0))) lg ⟨HB.out,r1⟩ (fun hHeld=>?_);refine ly 0 ?_;refine m8 1 fun K hK=>?_;go_simp
    (go_at_call 175;refine (KP.out _ HB.out).mono ?_;rintro e w1 ⟨rfl,ad⟩;have aa:=yx ad)
    try go_wp2_with fail
    refine hK.out _ _ ?_ (fun hHeld=>?_)
    ·exact ⟨aa.out,(aa.out.cell (p:=⟨g,o,none⟩) HG.out).trans R1.out⟩
    clear hK K
    try simp only [zh,mj]
    refine ly 2 ?_;refine ly 3 ?_;refine zm (i:=4) (v:=zn) (by simp only [qz];rfl) lg lg lg (fun _ _ _ h=>by exact h) (zo ⟨lj,rfl⟩) lm ?_
    try simp only [zh,mj]
    refine zm (i:=5) (v:=zn) (by simp only [qz];rfl) lg lg lg (fun _ _ _ h=>by exact h) (zo ⟨lj,rfl⟩) lm ?_
    try simp only [zh,mj]
    refine zm (i:=6) (v:=zn) (by simp only [qz];rfl) lg lg lg (fun _ _ _ h=>by exact h) (zo ⟨lj,rfl⟩) lm ?_
    try simp only [zh,mj]
    refine zm (i:=7) (v:=zn) (by simp only [qz];rfl) lg lg lg (fun _ _ _ h=>by exact h) (zo ⟨lj,rfl⟩) lm ?_
    try simp only [zh,mj]
    refine zm (i:=8) (v:=zn) (by simp only [qz];rfl) lg lg lg (fun _ _ _ h=>by exact h) (zo ⟨lj,rfl⟩) lm ?_
    try simp only [zh,mj]
    refine zm (i:=9) (v:=zn) (by simp only [qz];rfl) lg lg lg (fun _ _ _ h=>by exact h) (zo ⟨lj,rfl⟩) lm ?_
    try simp only [zh,mj]
    refine zm (i:=10) (v:=zn) (by simp only [qz];rfl) lg lg lg (fun _ _ _ h=>by exact h) (zo ⟨lj,rfl⟩) lm ?_
    try simp only [zh,mj]
    refine ly 11 ?_;refine zw lg ?_ _;go_wp2_with fail;go_ret;exact ⟨false,rfl,⟨(fun h=>Bool.noConfusion h),fun h=>absurd h HN.out⟩,aa.out⟩
   ·have d1:decide (h<0)=false:=decide_eq_false lf;by_cases heq:h=h0
    ·have HN:=yx (aj.out hneg heq);subst heq;clear hneg;go_wp2_with fail;refine zv (S:=(fun w':zd=>yy w w w'∧w' ⟨g,o,none⟩=some (yz p0))) lg ⟨HB.out,r1⟩ (fun hHeld=>?_);refine ly 0 ?_;refine m8 1 fun K hK=>?_;go_simp
     (go_at_call 175;refine (KP.out _ HB.out).mono ?_;rintro e w1 ⟨rfl,ad⟩;have aa:=yx ad)
     try go_wp2_with fail
     refine hK.out _ _ ?_ (fun hHeld=>?_)
     ·exact ⟨aa.out,(aa.out.cell (p:=⟨g,o,none⟩) HG.out).trans R1.out⟩
     clear hK K
     try simp only [zh,mj]
     refine ly 2 ?_;refine ly 3 ?_;refine ly 4 ?_;refine ly 6 ?_;refine ly 7 ?_;refine ly 8 ?_;refine m8 5 fun K hK=>?_;go_simp
     (go_at_call 175;refine (KP.out _ aa.out).mono ?_;rintro e w2 ⟨rfl,ae⟩;have ab:=yx ae)
     try go_wp2_with fail
     refine hK.out _ _ ?_ (fun hHeld=>?_)
     ·exact ⟨ab.out,(ab.out.cell (p:=⟨g,o,none⟩) HG.out).trans R1.out⟩
     clear hK K
     try simp only [zh,mj]
     refine m8 9 fun K hK=>?_;go_simp
     (go_at_call 175;refine (K0.out _ ab.out).mono ?_;rintro e w3 ⟨rfl,af⟩;have ac:=yx af)
     try go_wp2_with fail
     refine hK.out _ _ ?_ (fun hHeld=>?_)
     ·exact ⟨ac.out,(ac.out.cell (p:=⟨g,o,none⟩) HG.out).trans R1.out⟩
     clear hK K
     try simp only [zh,mj]
     refine ly 10 ?_;refine ly 11 ?_;refine zw lg ?_ _;go_wp2_with fail;go_roundw
     case rel=>exact ⟨k+1,lf,by go_num,HN.out,ac.out⟩
     case measure=>simp [intOf];omega
    ·have HN:=yx (HE.out (.inr heq));have e1:(h == h0)=false:=by simpa using heq
     clear hneg;go_wp2_with fail;refine zv (S:=(fun w':zd=>yy w w w'∧w' ⟨g,o,none⟩=some (yz p0))) lg ⟨HB.out,r1⟩ (fun hHeld=>?_);refine ly 0 ?_;refine m8 1 fun K hK=>?_;go_simp
     (go_at_call 175;refine (KP.out _ HB.out).mono ?_;rintro e w1 ⟨rfl,ad⟩;have aa:=yx ad)
     try go_wp2_with fail
     refine hK.out _ _ ?_ (fun hHeld=>?_)
     ·exact ⟨aa.out,(aa.out.cell (p:=⟨g,o,none⟩) HG.out).trans R1.out⟩
     clear hK K
     try simp only [zh,mj]
     refine ly 2 ?_;refine ly 3 ?_;refine ly 4 ?_;refine ly 6 ?_;refine ly 7 ?_;refine ly 8 ?_;refine m8 5 fun K hK=>?_;go_simp
     (go_at_call 175;refine (KP.out _ aa.out).mono ?_;rintro e w2 ⟨rfl,ae⟩;have ab:=yx ae)
     try go_wp2_with fail
     refine hK.out _ _ ?_ (fun hHeld=>?_)
     ·exact ⟨ab.out,(ab.out.cell (p:=⟨g,o,none⟩) HG.out).trans R1.out⟩
     clear hK K
     try simp only [zh,mj]
     refine m8 9 fun K hK=>?_;go_simp
     (go_at_call 175;refine (K0.out _ ab.out).mono ?_;rintro e w3 ⟨rfl,af⟩;have ac:=yx af)
     try go_wp2_with fail
     refine hK.out _ _ ?_ (fun hHeld=>?_)
     ·exact ⟨ac.out,(ac.out.cell (p:=⟨g,o,none⟩) HG.out).trans R1.out⟩
     clear hK K
     try simp only [zh,mj]
     refine ly 10 ?_;refine ly 11 ?_;refine zw lg ?_ _;go_wp2_with fail;go_ret;exact ⟨false,rfl,⟨(fun h=>Bool.noConfusion h),fun h=>absurd h HN.out⟩,ac.out⟩
  ·obtain rfl:k=n:=lf;have HE:=yx hE;have HB:=yx hbel;clear hE hbel;go_wp2;go_ret;exact ⟨true,rfl,⟨fun _=>HE.out,fun _=>rfl⟩,HB.out⟩
end Go.Proofs.YtbagenpobcgjnaaGreat
