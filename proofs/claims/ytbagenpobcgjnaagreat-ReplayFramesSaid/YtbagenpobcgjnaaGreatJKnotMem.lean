/-
  Joined: KnotMem, KnotDev1, KnotDev2.
-/
import Derived.Test.YtbagenpobcgjnaaGreatJOpenOps
import Derived.Test.YtbagenpobcgjnaaGreatJChunkRef
import Derived.Test.YtbagenpobcgjnaaGreatJSq
import Derived.Test.YtbagenpobcgjnaaGreatKnotClone
open Go renaming Calls->zr,Value->zx,World->zq,bodyPost_ret->Af,results->Ag,undef->Aa,wpAnyH_done->Ak,wpAnyH_take->zz,wp_region_held_drew->Aj
open Go.Act renaming put->zv
open Go.Ending renaming returned->zt
open Go.Instr renaming field->Ah
open Go.IntKind renaming i64->zm
open Go.Lib renaming hid->zn
open Go.Obj renaming cells->zy
open Go.RowKit renaming Below->zo
open Go.Value renaming int->zk,pointer->zp,slice->zw,string->zu
open List renaming getElem_map->Ap,length_map->Aq,take_length->An,take_succ_eq_append_getElem->Am,take_zero->Ao
open Nat renaming le_refl->Ae,lt_irrefl->Al,lt_of_lt_of_le->Ai
open Or renaming inr->Ab
variable {f s:ByteArray} {a c lv:Int} {L:List ByteArray} {l:List Go.Value} {b g h o:Nat} {B:Nat→Prop} {p:Option Go.Addr} {t:Go.TypeId} {kv:Go.Value} {w w':Go.World}
namespace Go.Proofs.YtbagenpobcgjnaaGreat
open Go.RowKit
set_option linter.unusedVariables false
abbrev pv (b:Nat):zx:=zp (some ⟨b,0,none⟩)
def kcs (lv:Int) (s f l:ByteArray) (kv:zx):Array zx:=#[zk zm lv,zk zm s.size,zk zm (oo s.data.toList),zk zm (op s.data.toList),zu f,zu l,kv]
structure pd where
 b:Nat
 L:List ByteArray
def flat (K:List pd):List ByteArray:=(K.map pd.L).flatten
def nu (K:List pd):List zx:=K.map fun k=>pv k.b
theorem aP (K:List pd):(nu K).length=K.length:=by simp [nu]
theorem od (A B:List pd):flat (A++B)=flat A++flat B:=by simp [flat]
theorem dI (k:pd):flat [k]=k.L:=by simp [flat]
def qr (w:zq) (g o:Nat) (l:List zx):Prop:=g<w∧∀ j (h:j<l.length),w ⟨g,o+j,none⟩=some l[j]
theorem qr.keep (h:qr w g o l) (hs:w.heap.size≤w') (hk:w'.heap[g]? = w.heap[g]?):qr w' g o l:=
 ⟨Ai h.1 hs,fun j hj=>(World.cell?_of_block (w:=w) hk).trans (h.2 j hj)⟩
theorem qr.on (h:qr w g o l) (hb:zo w w w'):qr w' g o l:=h.keep hb.size (hb.block g h.1)
theorem qr.sub (h:qr w g o l) (n:Nat):qr w g (o+n) (l.drop n):=
 ⟨h.1,fun j hj=>by
  rw [List.length_drop] at hj;rw [List.getElem_drop,Nat.add_assoc];exact h.2 (n+j) lg⟩
theorem qr.pre (h:qr w g o l) (n:Nat):qr w g o (l.take n):=
 ⟨h.1,fun j hj=>by
  rw [List.length_take] at hj;rw [List.getElem_take];exact h.2 j lg⟩
def mb (w:zq) (B:Nat→Prop):Nat→Nat→List ByteArray→Prop
 | 0,b,L=>B b∧∃ s,L=[s]∧qt s∧l6 w b (kcs 1 s s s (zw none 0 0)) 212
 | h+1,b,L=>B b∧∃ (K:List pd) (g c:Nat),2≤K.length∧K.length≤8∧K.length≤c∧(∀ k∈K,mb w B h k.b k.L)∧L=flat K∧B g∧qr w g 0 (nu K)∧l6 w b (kcs (h+2) (ly L) (py L) (pl L) (zw (some ⟨g,0,none⟩) K.length c)) 212
structure ui (w:zq) (B:Nat→Prop) (h b:Nat) (K:List pd) (g c:Nat):Prop where
 two:2≤K.length
 eight:K.length≤8
 cap:K.length≤c
 kids:∀ k∈K,mb w B h k.b k.L
 row:qr w g 0 (nu K)
 blk:l6 w b (kcs (h+2) (ly (flat K)) (py (flat K)) (pl (flat K)) (zw (some ⟨g,0,none⟩) K.length c)) 212
theorem mb.node (k:mb w B (h+1) b L):∃ K g c,ui w B h b K g c∧L=flat K∧B g:=by
 obtain ⟨h1,K,g,c,h2,h3,h4,h5,rfl,h6,h7,h8⟩:=k;exact ⟨K,g,c,⟨h2,h3,h4,h5,h7,h8⟩,rfl,h6⟩
theorem mb.lt :∀ {h b:Nat} {L:List ByteArray},mb w B h b L→B b
 | 0,_,_,k=>k.1
 | _+1,_,_,k=>k.1
theorem mb.keep (hs:w.heap.size≤w') (hk:∀ i,B i→w'.heap[i]? = w.heap[i]?):∀ {h b:Nat} {L:List ByteArray},mb w B h b L→mb w' B h b L
 | 0,b,L,⟨hb,s,e,hf,hB⟩=>⟨hb,s,e,hf,(hk b hb).trans hB⟩
 | h+1,b,L,⟨hb,K,g,c,h2,h3,h4,h5,e,h6,h7,h8⟩=>⟨hb,K,g,c,h2,h3,h4,fun k hm=>(h5 k hm).keep hs hk,e,h6,h7.keep hs (hk g h6),(hk b hb).trans h8⟩
theorem mb.weak {B':Nat→Prop} (hB:∀ k,B k→B' k):∀ {h b:Nat} {L:List ByteArray},mb w B h b L→mb w B' h b L
 | 0,b,L,⟨hb,r⟩=>⟨hB _ hb,r⟩
 | h+1,b,L,⟨hb,K,g,c,h2,h3,h4,h5,e,h6,r⟩=>⟨hB _ hb,K,g,c,h2,h3,h4,fun k hm=>(h5 k hm).weak hB,e,hB _ h6,r⟩
theorem ui.knot {B':Nat→Prop} {K:List pd} {c:Nat} (n:ui w B h b K g c) (hB:∀ k,B k→B' k) (hb:B' b) (hg:B' g):mb w B' (h+1) b (flat K):=
 ⟨hb,K,g,c,n.two,n.eight,n.cap,fun k hk=>(n.kids k hk).weak hB,rfl,hg,n.row,n.blk⟩
theorem mb.below {N:Nat} (k:mb w B h b L) (hb:zo N w w') (hB:∀ i,B i→i<N):mb w' B h b L:=k.keep hb.size fun i hi=>hb.block i (hB i hi)
abbrev wd (w:zq) (h b:Nat) (L:List ByteArray):Prop:=mb w (·<w) h b L
theorem wd.on (k:wd w h b L) (hb:zo w w w'):wd w' h b L:=(k.below hb fun _ h=>h).weak fun _ h=>Ai h hb.size
theorem LY {K:List pd} {P:ByteArray→Prop} {m:Nat} (h:∀ k∈K,(∀ s∈k.L,P s)∧m≤k.L.length):(∀ s∈flat K,P s)∧m * K.length≤(flat K).length:=by
 induction K with
 | nil=>exact ⟨fun s hs=>absurd hs (by simp [flat]),li⟩
 | cons k K ih =>
  obtain ⟨i1,i2⟩:=ih fun x hx=>h x (by simp [hx]);obtain ⟨j1,j2⟩:=h k li;have e:flat (k::K)=k.L++flat K:=by simp [flat]
  refine ⟨fun s hs=>?_,?_⟩
  ·rw [e,List.mem_append] at hs;exact hs.elim (j1 s) (i1 s)
  ·rw [e,List.length_append,List.length_cons,Nat.mul_succ];omega
theorem mb.chunks :∀ {h b:Nat} {L:List ByteArray},mb w B h b L→(∀ s∈L,qt s)∧2 ^ h≤L.length
 | 0,b,L,⟨hb,s,e,hf,hB⟩=>by subst e;exact ⟨fun t ht=>by rw [List.mem_singleton.1 ht];exact hf,Ae _⟩
 | h+1,b,L,⟨hb,K,g,c,h2,h3,h4,h5,e,r⟩=>by
  subst e;obtain ⟨i1,i2⟩:=LY (P:=qt) (m:=2 ^ h) fun k hk=>(h5 k hk).chunks;refine ⟨i1,?_⟩;have:=Nat.mul_le_mul_left (2 ^ h) h2;rw [Nat.pow_succ];omega
theorem mb.many (k:mb w B h b L):0<L.length:=Ai (Nat.pow_pos lj) k.chunks.2
theorem mb.ne (k:mb w B h b L):L≠[]:=fun e=>by have:=k.many;rw [e] at this;exact absurd this (Al 0)
theorem mb.cells :∀ {h b:Nat} {L:List ByteArray},mb w B h b L→∃ kv:zx,(∃ a n c,kv=zw a n c)∧l6 w b (kcs (h+1) (ly L) (py L) (pl L) kv) 212
 | 0,b,L,⟨hb,s,e,hf,hB⟩=>by subst e;rw [cE];exact ⟨_,⟨_,_,_,rfl⟩,hB⟩
 | h+1,b,L,⟨hb,K,g,c,h2,h3,h4,h5,e,h6,h7,h8⟩=>⟨_,⟨_,_,_,rfl⟩,by
  rw [show ((h+1:Nat):Int)+1=(h:Int)+2 by omega];exact h8⟩
theorem JT {K:List pd} (h:∀ k∈K,k.L≠[]) (h0:0<K.length):py (flat K)=py K[0].L∧pl (flat K)=pl (K[K.length - 1]' lg).L:=by
 constructor
 ·cases K with
  | nil=>exact absurd h0 (Al 0)
  | cons k K =>
   have e:flat (k::K)=k.L++flat K:=by simp [flat]
   rw [e,OJ (h k li)];rfl
 ·have e:K=K.take (K.length - 1)++[K[K.length - 1]' lg]:=by
   have:=Am (l:=K) (i:=K.length - 1) lg;rw [show K.length - 1+1=K.length by omega,An] at this;exact this
  have e2:flat K=flat (K.take (K.length - 1))++(K[K.length - 1]' lg).L:=by
   conv=>lhs;rw [e]
   rw [od,dI]
  rw [e2,yQ (h _ (List.getElem_mem _))]
theorem OV {K:List pd} (hz:(ly (flat K)).size≤1000000):sw.sum (K.map fun k=>uj (ly k.L))=uj (ly (flat K)):=by
 have h:∀ n,n≤K.length→sw.sum ((K.map fun k=>uj (ly k.L)).take n)=uj (ly (flat (K.take n))):=by
  intro n
  induction n with
  | zero=>intro _;rw [Ao,Ao];rfl
  | succ n ih =>
   intro hn;have e:flat (K.take (n+1))=flat (K.take n)++(K[n]' lg).L:=by
    rw [Am lg,od,dI]
   have hl:(ly (flat (K.take (n+1)))).size≤(ly (flat K)).size:=by
    have e2:flat K=flat (K.take (n+1))++flat (K.drop (n+1)):=by rw [← od,List.take_append_drop]
    rw [e2,aJ,ByteArray.size_append];omega
   rw [yG _ _ (by simpa using (show n<K.length by omega)),ih lg,Ap];rw [e,aJ] at hl ⊢;exact QA _ _ lg
 have:=h K.length (Ae _);rwa [An,List.take_of_length_le li] at this
open Go.Proofs.Tryz
set_option maxRecDepth 100000
open Lib (hid)
set_option linter.unusedSimpArgs false
abbrev kc7 (lv a b c:Int) (f s:ByteArray) (kv:zx):Array zx:=#[zk zm lv,zk zm a,zk zm b,zk zm c,zu f,zu s,kv]
abbrev knV (lv a b c:Int) (f s:ByteArray):zx:=.agg #[zk zm lv,zk zm a,zk zm b,zk zm c,zu f,zu s]
theorem l6.seven {b:Int} (h:l6 w g (kc7 lv a b c f s kv) t) :
 w ⟨g,0,none⟩=some (zk zm lv)∧w ⟨g,1,none⟩=some (zk zm a)∧w ⟨g,2,none⟩=some (zk zm b)∧w ⟨g,3,none⟩=some (zk zm c) ∧
 w ⟨g,4,none⟩=some (zu f)∧w ⟨g,5,none⟩=some (zu s)∧w ⟨g,6,none⟩=some kv:=
 ⟨h.cell 0 _ rfl,h.cell 1 _ rfl,h.cell 2 _ rfl,h.cell 3 _ rfl,h.cell 4 _ rfl,h.cell 5 _ rfl,h.cell 6 _ rfl⟩
abbrev z6:Obj:=zy #[zk zm 0,zk zm 0,zk zm 0,zk zm 0,zu ⟨#[]⟩,zu ⟨#[]⟩] 200
set_option maxHeartbeats 800000 in
theorem fW (w:zq):zr prog 162 #[zp none] w fun e w'=>e=zt (knV 0 0 0 0 ⟨#[]⟩ ⟨#[]⟩)∧zo w w w':=by
 go_enter func162,ntmps162;go_wp2;refine Af (v:=knV 0 0 0 0 ⟨#[]⟩ ⟨#[]⟩) (by simp [Ag,results162,go_sem]) rfl ⟨rfl,?_⟩;exact (Below.refl _ _).alloc (Ae _) _
set_option maxHeartbeats 800000 in
theorem fU {b:Int} (hB:l6 w g (kc7 lv a b c f s kv) t) :
 zr prog 162 #[zp (some ⟨g,0,none⟩)] w fun e w'=>e=zt (knV lv a b c f s)∧zo w w w':=by
 obtain ⟨c0,c1,c2,c3,c4,c5,-⟩:=(hB.alloc z6).seven;clear hB;go_enter func162,ntmps162;go_wp2;refine Af (v:=knV lv a b c f s) (by simp [Ag,results162,go_sem]) rfl ⟨rfl,?_⟩;exact (Below.refl _ _).alloc (Ae _) _
theorem QT (lv a b c:Int) (f s:ByteArray) (w:zq):(Ah 200 (knV lv a b c f s) 0).run prog w=.ok (zk zm lv) w:=lh
theorem KQ (lv a b c:Int) (f s:ByteArray) (w:zq):(Ah 200 (knV lv a b c f s) 1).run prog w=.ok (cntV a b c) w:=lh
theorem JG (lv a b c:Int) (f s:ByteArray) (w:zq):(Ah 200 (knV lv a b c f s) 2).run prog w=.ok (zu f) w:=lh
theorem IZ (lv a b c:Int) (f s:ByteArray) (w:zq):(Ah 200 (knV lv a b c f s) 3).run prog w=.ok (zu s) w:=lh
set_option maxHeartbeats 800000 in
theorem pW (w:zq) :
 zr prog 175 #[zp none] w fun e w'=>e=zt (zk zm (-1))∧zo w w w':=by
 have ck:=fW w;have cf:=QT 0 0 0 0 ⟨#[]⟩ ⟨#[]⟩;have CK:=zn ck;clear ck;go_enter func175,ntmps175;go_wp2_with fail;refine CK.out.mono ?_;rintro e w1 ⟨rfl,aa⟩;go_wp2;go_ret;exact ⟨rfl,aa⟩
set_option maxHeartbeats 800000 in
theorem DP {b:Int} (hB:l6 w g (kc7 lv a b c f s kv) t) (h0:0≤lv) (h1:lv≤1000000) :
 zr prog 175 #[zp (some ⟨g,0,none⟩)] w fun e w'=>e=zt (zk zm (lv - 1))∧zo w w w':=by
 have ck:=fU hB;have cf:=QT lv a b c f s;have CK:=zn ck;clear ck hB;go_enter func175,ntmps175;go_wp2_with fail;refine CK.out.mono ?_;rintro e w1 ⟨rfl,aa⟩;go_wp2;go_ret;exact ⟨rfl,aa⟩
set_option maxHeartbeats 800000 in
theorem LW (w:zq) :
 zr prog 139 #[zp none] w fun e w'=>e=zt (cntV 0 0 0)∧zo w w w':=by
 have ck:=fW w;have cf:=KQ 0 0 0 0 ⟨#[]⟩ ⟨#[]⟩;have ck:zr prog 162 #[zp none] (w.alloc (zy #[zk zm 0,zk zm 0,zk zm 0] 173)) fun e w'=>e=zt (knV 0 0 0 0 ⟨#[]⟩ ⟨#[]⟩)∧zo (w.alloc (zy #[zk zm 0,zk zm 0,zk zm 0] 173)) (w.alloc (zy #[zk zm 0,zk zm 0,zk zm 0] 173)) w':=fW _;have CK:=zn ck;clear ck;go_enter func139,ntmps139;go_wp2_with fail;refine CK.out.mono ?_;rintro e w1 ⟨rfl,aa⟩;have hN:l6 w1 w #[zk zm 0,zk zm 0,zk zm 0] 173:=(l6.new w _ _).onto aa;have g0:=hN.free 0;have g1:=hN.free 1;have g2:=hN.free 2;have d0:=hN.cell 0 _ rfl;have d1:=hN.cell 1 _ rfl;have d2:=hN.cell 2 _ rfl;have hlt:=hN.lt;go_wp2;refine Af (v:=cntV 0 0 0) (by simp [Ag,results139,go_sem,g0,g1,g2,d0,d1,d2]) rfl ⟨rfl,?_⟩;exact gR (o:=zy #[zk zm 0,zk zm 0,zk zm 0] 173) aa _ _ _
set_option maxHeartbeats 800000 in
theorem uC {b:Int} (hB:l6 w g (kc7 lv a b c f s kv) t) :
 zr prog 139 #[zp (some ⟨g,0,none⟩)] w fun e w'=>e=zt (cntV a b c)∧zo w w w':=by
 have ck:=fU hB;have cf:=KQ lv a b c f s;have ck:zr prog 162 #[zp (some ⟨g,0,none⟩)] (w.alloc (zy #[zk zm 0,zk zm 0,zk zm 0] 173)) fun e w'=>e=zt (knV lv a b c f s)∧zo (w.alloc (zy #[zk zm 0,zk zm 0,zk zm 0] 173)) (w.alloc (zy #[zk zm 0,zk zm 0,zk zm 0] 173)) w':=fU (hB.alloc _);have CK:=zn ck;clear ck hB;go_enter func139,ntmps139;go_wp2_with fail;refine CK.out.mono ?_;rintro e w1 ⟨rfl,aa⟩;have hN:l6 w1 w #[zk zm 0,zk zm 0,zk zm 0] 173:=(l6.new w _ _).onto aa;have g0:=hN.free 0;have g1:=hN.free 1;have g2:=hN.free 2;have d0:=hN.cell 0 _ rfl;have d1:=hN.cell 1 _ rfl;have d2:=hN.cell 2 _ rfl;have hlt:=hN.lt;go_wp2;refine Af (v:=cntV a b c) (by simp [Ag,results139,go_sem,g0,g1,g2,d0,d1,d2]) rfl ⟨rfl,?_⟩;exact gR (o:=zy #[zk zm 0,zk zm 0,zk zm 0] 173) aa _ _ _
set_option maxHeartbeats 800000 in
theorem sL (w:zq) :
 zr prog 165 #[zp none] w fun e w'=>e=zt (zu ⟨#[]⟩)∧zo w w w':=by
 have ck:=fW w;have cf:=JG 0 0 0 0 ⟨#[]⟩ ⟨#[]⟩;have CK:=zn ck;clear ck;go_enter func165,ntmps165;go_wp2_with fail;refine CK.out.mono ?_;rintro e w1 ⟨rfl,aa⟩;go_wp2;go_ret;exact ⟨rfl,aa⟩
set_option maxHeartbeats 800000 in
theorem uD {b:Int} (hB:l6 w g (kc7 lv a b c f s kv) t) :
 zr prog 165 #[zp (some ⟨g,0,none⟩)] w fun e w'=>e=zt (zu f)∧zo w w w':=by
 have ck:=fU hB;have cf:=JG lv a b c f s;have CK:=zn ck;clear ck hB;go_enter func165,ntmps165;go_wp2_with fail;refine CK.out.mono ?_;rintro e w1 ⟨rfl,aa⟩;go_wp2;go_ret;exact ⟨rfl,aa⟩
set_option maxHeartbeats 800000 in
theorem OE (w:zq) :
 zr prog 164 #[zp none] w fun e w'=>e=zt (zu ⟨#[]⟩)∧zo w w w':=by
 have ck:=fW w;have cf:=IZ 0 0 0 0 ⟨#[]⟩ ⟨#[]⟩;have CK:=zn ck;clear ck;go_enter func164,ntmps164;go_wp2_with fail;refine CK.out.mono ?_;rintro e w1 ⟨rfl,aa⟩;go_wp2;go_ret;exact ⟨rfl,aa⟩
set_option maxHeartbeats 800000 in
theorem NP {b:Int} (hB:l6 w g (kc7 lv a b c f s kv) t) :
 zr prog 164 #[zp (some ⟨g,0,none⟩)] w fun e w'=>e=zt (zu s)∧zo w w w':=by
 have ck:=fU hB;have cf:=IZ lv a b c f s;have CK:=zn ck;clear ck hB;go_enter func164,ntmps164;go_wp2_with fail;refine CK.out.mono ?_;rintro e w1 ⟨rfl,aa⟩;go_wp2;go_ret;exact ⟨rfl,aa⟩
theorem dD:(prog.info? 128).map (fun i=>(i.zero,i.size,i.bytes))=some (some (zp none),1,8):=lh
theorem EO {n c:Nat} (hl:l.length=n) (hn:n≤1000000) (hr:qr w g o l) (h1:∀ u∈l,u.oneCell'=true) :
 zr prog 212 #[zw (some ⟨g,o,none⟩) n c] w fun e w'=>∃ g' c',e=zt (zw (some ⟨g',0,none⟩) n c')∧n≤c'∧w.heap.size≤g'∧qr w' g' 0 l∧zo w w w':=by
 obtain ⟨i0,hi,aa,ab,ac⟩:=info_parts dD;refine (AnyE.slices_Clone Tryz.knClone i0 (zp none) 1 8 hi aa ab ac rfl lj (fun w=>by exact Tryz.sizeOf128 w) g o n c l w lg lq lg (fun j u hj=>?_) h1).mono ?_
 ·obtain ⟨ad,rfl⟩:=List.getElem?_eq_some_iff.1 hj;exact hr.2 j ad
 ·rintro e w' ⟨v',rfl,hown,hne,hb⟩;rcases hown.2 with ⟨rfl,h0⟩|⟨g',cap,cur,rfl,hb',hB,hc,hm,hcs,ht⟩
  ·exact absurd rfl hne
  ·have hlt:=(Array.getElem?_eq_some_iff.1 hB).1;refine ⟨g',cap,rfl,hc,hb',⟨hlt,fun j hj=>?_⟩,hb⟩;have:=hown.cells (g:=g') rfl j _ (List.getElem?_eq_getElem hj);rwa [show (⟨g',0,none⟩:Addr).add j=⟨g',0+j,none⟩ by unfold Addr.add;split <;> simp_all] at this
theorem GC (w:zq):zr prog 212 #[zw none 0 0] w fun e w'=>e=zt (zw none 0 0)∧w'=w:=AnyE.slices_Clone_nil Tryz.knClone 0 0 w
theorem MW (w:zq):zr prog 208 #[zp none] w fun e w'=>e=zt (zw none 0 0)∧zo w w w':=by
 go_enter func208,ntmps208;go_wp2;go_ret;exact ⟨rfl,Below.refl _ _⟩
theorem LT {b:Int} (hB:l6 w g (kc7 lv a b c f s (zw none 0 0)) t) :
 zr prog 208 #[zp (some ⟨g,0,none⟩)] w fun e w'=>e=zt (zw none 0 0)∧zo w w w':=by
 obtain ⟨-,-,-,-,-,-,c6⟩:=hB.seven;have ck:=GC w;have CK:=zn ck;clear hB ck;go_enter func208,ntmps208;go_wp2_with fail;refine CK.out.mono ?_;rintro e w1 ⟨rfl,rfl⟩;go_wp2;go_ret;exact ⟨rfl,Below.refl _ _⟩
set_option maxHeartbeats 400000 in
theorem SP (s:ByteArray) (hs:s.size≤maxLen) (hf:oe s=false) (w:zq) :
 zr prog 170 #[zu s] w fun e w'=>e=zt (zp none)∧zo w w w':=by
 have cf:=fC s hs;rw [hf] at cf;have CF:=zn cf;clear cf hs hf;go_enter func170,ntmps170;go_wp2_with fail;refine (CF.out _).mono ?_;rintro e w1 ⟨rfl,aa⟩;go_wp2;go_ret;exact ⟨rfl,aa⟩
set_option maxHeartbeats 400000 in
theorem yK (s:ByteArray) (hs:s.size≤maxLen) (hf:oe s=true) (w:zq) :
 zr prog 170 #[zu s] w fun e w'=>∃ b,e=zt (pv b)∧w.heap.size≤b∧l6 w' b (kcs 1 s s s (zw none 0 0)) 212∧zo w w w':=by
 have cf:=fC s hs;have ct:=SI s hs;rw [hf] at cf;obtain ⟨x,hx⟩:∃ x,oo s.data.toList=x:=⟨_,rfl⟩;obtain ⟨y,hy⟩:∃ y,op s.data.toList=y:=⟨_,rfl⟩;unfold kcs;rw [hx,hy] at ct ⊢;have CF:=zn cf;have CT:=zn ct;clear cf hs hf ct hx hy;go_enter func170,ntmps170;go_wp2_with fail;refine (CF.out _).mono ?_;rintro e w1 ⟨rfl,aa⟩;go_wp2_with fail;refine (CT.out _).mono ?_;rintro e w2 ⟨rfl,ab⟩;have HB:=zn (aa.trans (ab.mono aa.size));clear aa ab;go_wp2;go_ret;exact ⟨_,rfl,HB.out.size,l6.new _ _ _,HB.out.alloc HB.out.size _⟩
def xx (w:zq) (p:Option Addr) (h:Int):Prop:=
 (p=none∧h=-1)∨∃ (b:Nat) (lv x y z:Int) (f s:ByteArray) (kv:zx) (t:TypeId),p=some ⟨b,0,none⟩∧h=lv - 1∧0≤lv∧lv≤1000000∧l6 w b (kc7 lv x y z f s kv) t
theorem xx.on {h:Int} (k:xx w p h) (hb:zo w w w'):xx w' p h:=by
 rcases k with k|⟨b,lv,x,y,z,f,s,kv,t,h1,h2,h3,h4,h5⟩
 ·exact .inl k
 ·exact .inr ⟨b,lv,x,y,z,f,s,kv,t,h1,h2,h3,h4,h5.onto hb⟩
theorem xx.ge {h:Int} (k:xx w p h):-1≤h∧h≤1000000:=by
 rcases k with k|⟨b,lv,x,y,z,f,s,kv,t,h1,h2,h3,h4,h5⟩ <;> omega
theorem mb.hgt (k:mb w B h b L) (hh:h≤1000):xx w (some ⟨b,0,none⟩) h:=by
 obtain ⟨kv,-,hB⟩:=k.cells;exact .inr ⟨b,_,_,_,_,_,_,kv,_,rfl,lg,lg,lg,hB⟩
theorem xx.call {h:Int} (k:xx w p h) :
 zr prog 175 #[zp p] w fun e w'=>e=zt (zk zm h)∧zo w w w':=by
 rcases k with ⟨rfl,rfl⟩|⟨b,lv,x,y,z,f,s,kv,t,rfl,rfl,h3,h4,h5⟩
 ·exact pW w
 ·exact DP h5 h3 h4
theorem xx.later {h:Int} (k:xx w p h):∀ W,zo w w W→zr prog 175 #[zp p] W fun e w'=>e=zt (zk zm h)∧zo w w w':=
 fun W hb=>mw hb (k.on hb).call
def x9 (hs:Nat→Int) (n:Nat):Prop:=∀ k,k<n→0≤hs k∧hs k=hs 0
def RetEven (w:zq) (hs:Nat→Int) (n:Nat) (e:Ending) (w':zq):Prop:=∃ b:Bool,e=zt (.bool b)∧(b=true↔x9 hs n)∧zo w w w'
theorem QI {hs:Nat→Int} {n k:Nat} (h:k<n) (hc:hs k<0∨¬ hs k=hs 0):¬ x9 hs n:=fun g=>by have:=g k h;omega
theorem IV {hs:Nat→Int} {k:Nat} (h:x9 hs k) (h0:0≤hs k) (h1:hs k=hs 0):x9 hs (k+1):=fun j hj=>by
 rcases Nat.lt_or_ge j k with g|g
 ·exact h j g
 ·obtain rfl:j=k:=lg;exact ⟨h0,h1⟩
set_option maxHeartbeats 1600000 in
theorem NR {n c:Nat} {ps:List (Option Addr)} {hs:Nat→Int} (hl:ps.length=n) (hn:n≤1000000) (hr:qr w g o (ps.map zp)) (hh:∀ k (h:k<ps.length),xx w ps[k] (hs k)) :
 zr prog 196 #[zw (some ⟨g,o,none⟩) n c] w (RetEven w hs n):=by
 have HL:=zn hl;have HR:=zn hr;have HH:=zn hh;clear hl hr hh;go_enter func196,ntmps196;go_wp2
 go_loopw [7] (fun i wr=>∃ k:Nat,k≤n∧i=zk zm k∧x9 hs k∧zo w w wr) (fun i _=>n - (intOf i).toNat)
 case atStart=>exact ⟨0,Nat.zero_le _,rfl,fun k h=>absurd h (Nat.not_lt_zero k),Below.refl _ _⟩
 case round =>
  obtain ⟨k,hk,rfl,hE,hbel⟩:=hrel;by_cases hlt:k<n
  ·have hkl:k<ps.length:=by rw [HL.out];exact hlt
   have h0l:0<ps.length:=lg;have q0:=(HR.out.on hbel).2 k (by rw [Aq];exact hkl);have r0:=(HR.out.on hbel).2 0 (by rw [Aq];exact h0l);rw [Ap] at q0 r0;rw [Nat.add_zero] at r0;have kp:=(HH.out k hkl).later;have k0:=(HH.out 0 h0l).later;have hge:=(HH.out k hkl).ge;have ai:=(HH.out 0 h0l).ge;have hend:=@QI hs n k hlt;have hnext:=@IV hs k hE;obtain ⟨p,hp⟩:∃ p,ps[k]=p:=⟨_,rfl⟩;obtain ⟨p0,ag⟩:∃ p,ps[0]=p:=⟨_,rfl⟩;obtain ⟨h,hhk⟩:∃ h,hs k=h:=⟨_,rfl⟩;obtain ⟨h0,ah⟩:∃ h,hs 0=h:=⟨_,rfl⟩;rw [hp] at q0 kp;rw [ag] at r0 k0;rw [hhk] at kp hge hend hnext;rw [ah] at k0 ai hend hnext;have hlo:g<wr.drew:=(HR.out.on hbel).1;have HB:=zn hbel.drew;have KP:=zn kp;have K0:=zn k0;have HE:=zn hend;have aj:=zn hnext;have r1:wr.drew ⟨g,o,none⟩=some (zp p0):=r0;have HG:=zn HR.out.1;have b0:(0:Int)<(n:Int):=lg;have b3:0<n:=lg;have b1:(k:Int)<(n:Int):=lg;have b2:(0:Int)≤(k:Int):=lg;clear kp k0 hp ag hhk ah hend hnext hE hbel r0 hlo h0l hkl hk;have R1:=zn ((HB.out.cell (p:=⟨g,o,none⟩) HG.out).symm.trans r1);rcases Int.lt_or_le h 0 with hneg|hneg
   ·have HN:=zn (HE.out (.inl hneg));have d1:decide (h<0)=true:=decide_eq_true hneg;go_wp2_with fail;refine Aj (S:=(fun w':zq=>zo w w w'∧w' ⟨g,o,none⟩=some (zp p0))) lh ⟨HB.out,r1⟩ (fun hHeld=>?_);refine lz 0 ?_;refine m8 1 fun K hK=>?_;go_simp
    (go_at_call 175;refine (KP.out _ HB.out).mono ?_;rintro e w1 ⟨rfl,ad⟩;have aa:=zn ad)
    try go_wp2_with fail
    refine hK.out _ _ ?_ (fun hHeld=>?_)
    ·exact ⟨aa.out,(aa.out.cell (p:=⟨g,o,none⟩) HG.out).trans R1.out⟩
    clear hK K
    try simp only [zv,mj]
    refine lz 2 ?_;refine lz 3 ?_;refine zz (i:=4) (v:=Aa) (by simp only [rg];rfl) lh lh lh (fun _ _ _ h=>by exact h) (Ab ⟨lm,rfl⟩) ln ?_
    try simp only [zv,mj]
    refine zz (i:=5) (v:=Aa) (by simp only [rg];rfl) lh lh lh (fun _ _ _ h=>by exact h) (Ab ⟨lm,rfl⟩) ln ?_
    try simp only [zv,mj]
    refine zz (i:=6) (v:=Aa) (by simp only [rg];rfl) lh lh lh (fun _ _ _ h=>by exact h) (Ab ⟨lm,rfl⟩) ln ?_
    try simp only [zv,mj]
    refine zz (i:=7) (v:=Aa) (by simp only [rg];rfl) lh lh lh (fun _ _ _ h=>by exact h) (Ab ⟨lm,rfl⟩) ln ?_
    try simp only [zv,mj]
    refine zz (i:=8) (v:=Aa) (by simp only [rg];rfl) lh lh lh (fun _ _ _ h=>by exact h) (Ab ⟨lm,rfl⟩) ln ?_
    try simp only [zv,mj]
    refine zz (i:=9) (v:=Aa) (by simp only [rg];rfl) lh lh lh (fun _ _ _ h=>by exact h) (Ab ⟨lm,rfl⟩) ln ?_
    try simp only [zv,mj]
    refine zz (i:=10) (v:=Aa) (by simp only [rg];rfl) lh lh lh (fun _ _ _ h=>by exact h) (Ab ⟨lm,rfl⟩) ln ?_
    try simp only [zv,mj]
    refine lz 11 ?_;refine Ak lh ?_ _;go_wp2_with fail;go_ret;exact ⟨false,rfl,⟨(fun h=>Bool.noConfusion h),fun h=>absurd h HN.out⟩,aa.out⟩
   ·have d1:decide (h<0)=false:=decide_eq_false lg;by_cases heq:h=h0
    ·have HN:=zn (aj.out hneg heq);subst heq;clear hneg;go_wp2_with fail;refine Aj (S:=(fun w':zq=>zo w w w'∧w' ⟨g,o,none⟩=some (zp p0))) lh ⟨HB.out,r1⟩ (fun hHeld=>?_);refine lz 0 ?_;refine m8 1 fun K hK=>?_;go_simp
     (go_at_call 175;refine (KP.out _ HB.out).mono ?_;rintro e w1 ⟨rfl,ad⟩;have aa:=zn ad)
     try go_wp2_with fail
     refine hK.out _ _ ?_ (fun hHeld=>?_)
     ·exact ⟨aa.out,(aa.out.cell (p:=⟨g,o,none⟩) HG.out).trans R1.out⟩
     clear hK K
     try simp only [zv,mj]
     refine lz 2 ?_;refine lz 3 ?_;refine lz 4 ?_;refine lz 6 ?_;refine lz 7 ?_;refine lz 8 ?_;refine m8 5 fun K hK=>?_;go_simp
     (go_at_call 175;refine (KP.out _ aa.out).mono ?_;rintro e w2 ⟨rfl,ae⟩;have ab:=zn ae)
     try go_wp2_with fail
     refine hK.out _ _ ?_ (fun hHeld=>?_)
     ·exact ⟨ab.out,(ab.out.cell (p:=⟨g,o,none⟩) HG.out).trans R1.out⟩
     clear hK K
     try simp only [zv,mj]
     refine m8 9 fun K hK=>?_;go_simp
     (go_at_call 175;refine (K0.out _ ab.out).mono ?_;rintro e w3 ⟨rfl,af⟩;have ac:=zn af)
     try go_wp2_with fail
     refine hK.out _ _ ?_ (fun hHeld=>?_)
     ·exact ⟨ac.out,(ac.out.cell (p:=⟨g,o,none⟩) HG.out).trans R1.out⟩
     clear hK K
     try simp only [zv,mj]
     refine lz 10 ?_;refine lz 11 ?_;refine Ak lh ?_ _;go_wp2_with fail;go_roundw
     case rel=>exact ⟨k+1,lg,by go_num,HN.out,ac.out⟩
     case measure=>simp [intOf];omega
    ·have HN:=zn (HE.out (.inr heq));have e1:(h == h0)=false:=by simpa using heq
     clear hneg;go_wp2_with fail;refine Aj (S:=(fun w':zq=>zo w w w'∧w' ⟨g,o,none⟩=some (zp p0))) lh ⟨HB.out,r1⟩ (fun hHeld=>?_);refine lz 0 ?_;refine m8 1 fun K hK=>?_;go_simp
     (go_at_call 175;refine (KP.out _ HB.out).mono ?_;rintro e w1 ⟨rfl,ad⟩;have aa:=zn ad)
     try go_wp2_with fail
     refine hK.out _ _ ?_ (fun hHeld=>?_)
     ·exact ⟨aa.out,(aa.out.cell (p:=⟨g,o,none⟩) HG.out).trans R1.out⟩
     clear hK K
     try simp only [zv,mj]
     refine lz 2 ?_;refine lz 3 ?_;refine lz 4 ?_;refine lz 6 ?_;refine lz 7 ?_;refine lz 8 ?_;refine m8 5 fun K hK=>?_;go_simp
     (go_at_call 175;refine (KP.out _ aa.out).mono ?_;rintro e w2 ⟨rfl,ae⟩;have ab:=zn ae)
     try go_wp2_with fail
     refine hK.out _ _ ?_ (fun hHeld=>?_)
     ·exact ⟨ab.out,(ab.out.cell (p:=⟨g,o,none⟩) HG.out).trans R1.out⟩
     clear hK K
     try simp only [zv,mj]
     refine m8 9 fun K hK=>?_;go_simp
     (go_at_call 175;refine (K0.out _ ab.out).mono ?_;rintro e w3 ⟨rfl,af⟩;have ac:=zn af)
     try go_wp2_with fail
     refine hK.out _ _ ?_ (fun hHeld=>?_)
     ·exact ⟨ac.out,(ac.out.cell (p:=⟨g,o,none⟩) HG.out).trans R1.out⟩
     clear hK K
     try simp only [zv,mj]
     refine lz 10 ?_;refine lz 11 ?_;refine Ak lh ?_ _;go_wp2_with fail;go_ret;exact ⟨false,rfl,⟨(fun h=>Bool.noConfusion h),fun h=>absurd h HN.out⟩,ac.out⟩
  ·obtain rfl:k=n:=lg;have HE:=zn hE;have HB:=zn hbel;clear hE hbel;go_wp2;go_ret;exact ⟨true,rfl,⟨fun _=>HE.out,fun _=>rfl⟩,HB.out⟩
end Go.Proofs.YtbagenpobcgjnaaGreat
