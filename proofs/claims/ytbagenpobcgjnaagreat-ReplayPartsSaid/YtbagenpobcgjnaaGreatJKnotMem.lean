/-
  Joined: KnotMem, KnotDev1, KnotDev2.
-/
import Derived.Test.YtbagenpobcgjnaaGreatJOpenOps
import Derived.Test.YtbagenpobcgjnaaGreatJStrs
import Derived.Test.YtbagenpobcgjnaaGreatJCells
import Derived.Test.YtbagenpobcgjnaaGreatJCommon
import Derived.Test.YtbagenpobcgjnaaGreatJChunkRef
import Derived.Test.YtbagenpobcgjnaaGreatJUtfRTake
import Derived.Test.YtbagenpobcgjnaaGreatJSq
import Derived.Test.YtbagenpobcgjnaaGreatKnotClone
import Derived.Deep.RegionHeld3
variable {f s:ByteArray} {a c lv:Int} {L:List ByteArray} {l:List Go.Value} {b g h o:Nat} {B:Nat→Prop} {p:Option Go.Addr} {t:Go.TypeId} {kv:Go.Value} {w w':Go.World}
namespace Go.Proofs.YtbagenpobcgjnaaGreat
open Go.RowKit
set_option linter.unusedVariables false
abbrev pv (b:Nat):Value:=.pointer (some ⟨b,0,none⟩)
def kcs (lv:Int) (s f l:ByteArray) (kv:Value):Array Value:=#[.int .i64 lv,.int .i64 s.size,.int .i64 (runes s.data.toList),.int .i64 (lines s.data.toList),.string f,.string l,kv]
structure Kid where
 b:Nat
 L:List ByteArray
def flat (K:List Kid):List ByteArray:=(K.map Kid.L).flatten
def ptrs (K:List Kid):List Value:=K.map fun k=>pv k.b
theorem aP (K:List Kid):(ptrs K).length=K.length:=by simp [ptrs]
theorem flat_app (A B:List Kid):flat (A++B)=flat A++flat B:=by simp [flat]
theorem cV (k:Kid):flat [k]=k.L:=by simp [flat]
def PRow (w:World) (g o:Nat) (l:List Value):Prop:=g<w.heap.size∧∀ j (h:j<l.length),w.cell? ⟨g,o+j,none⟩=some l[j]
theorem PRow.keep (h:PRow w g o l) (hs:w.heap.size≤w'.heap.size) (hk:w'.heap[g]? = w.heap[g]?):PRow w' g o l:=
 ⟨Nat.lt_of_lt_of_le h.1 hs,fun j hj=>(World.cell?_of_block (w:=w) hk).trans (h.2 j hj)⟩
theorem PRow.on (h:PRow w g o l) (hb:Below w.heap.size w w'):PRow w' g o l:=h.keep hb.size (hb.block g h.1)
theorem PRow.sub (h:PRow w g o l) (n:Nat):PRow w g (o+n) (l.drop n):=
 ⟨h.1,fun j hj=>by
  rw [List.length_drop] at hj
  rw [List.getElem_drop,Nat.add_assoc]
  exact h.2 (n+j) (by omega)⟩
theorem PRow.pre (h:PRow w g o l) (n:Nat):PRow w g o (l.take n):=
 ⟨h.1,fun j hj=>by
  rw [List.length_take] at hj
  rw [List.getElem_take]
  exact h.2 j (by omega)⟩
def KnotW (w:World) (B:Nat→Prop):Nat→Nat→List ByteArray→Prop
 | 0,b,L=>B b∧∃ s,L=[s]∧fitsP s∧Blk w b (kcs 1 s s s (.slice none 0 0)) 212
 | h+1,b,L=>B b∧∃ (K:List Kid) (g c:Nat),2≤K.length∧K.length≤8∧K.length≤c∧(∀ k∈K,KnotW w B h k.b k.L)∧L=flat K∧B g∧PRow w g 0 (ptrs K)∧Blk w b (kcs (h+2) (wholeL L) (fstL L) (lstL L) (.slice (some ⟨g,0,none⟩) K.length c)) 212
structure KnotN (w:World) (B:Nat→Prop) (h b:Nat) (K:List Kid) (g c:Nat):Prop where
 two:2≤K.length
 eight:K.length≤8
 cap:K.length≤c
 kids:∀ k∈K,KnotW w B h k.b k.L
 row:PRow w g 0 (ptrs K)
 blk:Blk w b (kcs (h+2) (wholeL (flat K)) (fstL (flat K)) (lstL (flat K)) (.slice (some ⟨g,0,none⟩) K.length c)) 212
theorem KnotW.node (k:KnotW w B (h+1) b L):∃ K g c,KnotN w B h b K g c∧L=flat K∧B g:=by
 obtain ⟨h1,K,g,c,h2,h3,h4,h5,rfl,h6,h7,h8⟩:=k
 exact ⟨K,g,c,⟨h2,h3,h4,h5,h7,h8⟩,rfl,h6⟩
theorem KnotW.lt :∀ {h b:Nat} {L:List ByteArray},KnotW w B h b L→B b
 | 0,_,_,k=>k.1
 | _+1,_,_,k=>k.1
theorem KnotW.keep (hs:w.heap.size≤w'.heap.size) (hk:∀ i,B i→w'.heap[i]? = w.heap[i]?):∀ {h b:Nat} {L:List ByteArray},KnotW w B h b L→KnotW w' B h b L
 | 0,b,L,⟨hb,s,e,hf,hB⟩=>⟨hb,s,e,hf,(hk b hb).trans hB⟩
 | h+1,b,L,⟨hb,K,g,c,h2,h3,h4,h5,e,h6,h7,h8⟩=>⟨hb,K,g,c,h2,h3,h4,fun k hm=>(h5 k hm).keep hs hk,e,h6,h7.keep hs (hk g h6),(hk b hb).trans h8⟩
theorem KnotW.weak {B':Nat→Prop} (hB:∀ k,B k→B' k):∀ {h b:Nat} {L:List ByteArray},KnotW w B h b L→KnotW w B' h b L
 | 0,b,L,⟨hb,r⟩=>⟨hB _ hb,r⟩
 | h+1,b,L,⟨hb,K,g,c,h2,h3,h4,h5,e,h6,r⟩=>⟨hB _ hb,K,g,c,h2,h3,h4,fun k hm=>(h5 k hm).weak hB,e,hB _ h6,r⟩
theorem KnotN.knot {B':Nat→Prop} {K:List Kid} {c:Nat} (n:KnotN w B h b K g c) (hB:∀ k,B k→B' k) (hb:B' b) (hg:B' g):KnotW w B' (h+1) b (flat K):=
 ⟨hb,K,g,c,n.two,n.eight,n.cap,fun k hk=>(n.kids k hk).weak hB,rfl,hg,n.row,n.blk⟩
theorem KnotW.below {N:Nat} (k:KnotW w B h b L) (hb:Below N w w') (hB:∀ i,B i→i<N):KnotW w' B h b L:=k.keep hb.size fun i hi=>hb.block i (hB i hi)
abbrev KnotH (w:World) (h b:Nat) (L:List ByteArray):Prop:=KnotW w (·<w.heap.size) h b L
theorem KnotH.on (k:KnotH w h b L) (hb:Below w.heap.size w w'):KnotH w' h b L:=(k.below hb fun _ h=>h).weak fun _ h=>Nat.lt_of_lt_of_le h hb.size
theorem DB {K:List Kid} {P:ByteArray→Prop} {m:Nat} (h:∀ k∈K,(∀ s∈k.L,P s)∧m≤k.L.length):(∀ s∈flat K,P s)∧m * K.length≤(flat K).length:=by
 induction K with
 | nil=>exact ⟨fun s hs=>absurd hs (by simp [flat]),by simp⟩
 | cons k K ih =>
  obtain ⟨i1,i2⟩:=ih fun x hx=>h x (by simp [hx])
  obtain ⟨j1,j2⟩:=h k (by simp)
  have e:flat (k::K)=k.L++flat K:=by simp [flat]
  refine ⟨fun s hs=>?_,?_⟩
  ·rw [e,List.mem_append] at hs
   exact hs.elim (j1 s) (i1 s)
  ·rw [e,List.length_append,List.length_cons,Nat.mul_succ]
   omega
theorem KnotW.chunks :∀ {h b:Nat} {L:List ByteArray},KnotW w B h b L→(∀ s∈L,fitsP s)∧2 ^ h≤L.length
 | 0,b,L,⟨hb,s,e,hf,hB⟩=>by subst e;exact ⟨fun t ht=>by rw [List.mem_singleton.1 ht];exact hf,Nat.le_refl _⟩
 | h+1,b,L,⟨hb,K,g,c,h2,h3,h4,h5,e,r⟩=>by
  subst e
  obtain ⟨i1,i2⟩:=DB (P:=fitsP) (m:=2 ^ h) fun k hk=>(h5 k hk).chunks
  refine ⟨i1,?_⟩
  have:=Nat.mul_le_mul_left (2 ^ h) h2
  rw [Nat.pow_succ]
  omega
theorem KnotW.many (k:KnotW w B h b L):0<L.length:=Nat.lt_of_lt_of_le (Nat.pow_pos (by decide)) k.chunks.2
theorem KnotW.ne (k:KnotW w B h b L):L≠[]:=fun e=>by have:=k.many;rw [e] at this;exact absurd this (Nat.lt_irrefl 0)
theorem KnotW.cells :∀ {h b:Nat} {L:List ByteArray},KnotW w B h b L→∃ kv:Value,(∃ a n c,kv=.slice a n c)∧Blk w b (kcs (h+1) (wholeL L) (fstL L) (lstL L) kv) 212
 | 0,b,L,⟨hb,s,e,hf,hB⟩=>by subst e;rw [bO];exact ⟨_,⟨_,_,_,rfl⟩,hB⟩
 | h+1,b,L,⟨hb,K,g,c,h2,h3,h4,h5,e,h6,h7,h8⟩=>⟨_,⟨_,_,_,rfl⟩,by
  rw [show ((h+1:Nat):Int)+1=(h:Int)+2 by omega];exact h8⟩
theorem DF {K:List Kid} (h:∀ k∈K,k.L≠[]) (h0:0<K.length):fstL (flat K)=fstL K[0].L∧lstL (flat K)=lstL (K[K.length - 1]'(by omega)).L:=by
 constructor
 ·cases K with
  | nil=>exact absurd h0 (Nat.lt_irrefl 0)
  | cons k K =>
   have e:flat (k::K)=k.L++flat K:=by simp [flat]
   rw [e,JW (h k (by simp))]
   rfl
 ·have e:K=K.take (K.length - 1)++[K[K.length - 1]'(by omega)]:=by
   have:=List.take_succ_eq_append_getElem (l:=K) (i:=K.length - 1) (by omega)
   rw [show K.length - 1+1=K.length by omega,List.take_length] at this
   exact this
  have e2:flat K=flat (K.take (K.length - 1))++(K[K.length - 1]'(by omega)).L:=by
   conv=>lhs;rw [e]
   rw [flat_app,cV]
  rw [e2,uU (h _ (List.getElem_mem _))]
theorem LY {K:List Kid} (hz:(wholeL (flat K)).size≤1000000):Cnt.sum (K.map fun k=>cntK (wholeL k.L))=cntK (wholeL (flat K)):=by
 have h:∀ n,n≤K.length→Cnt.sum ((K.map fun k=>cntK (wholeL k.L)).take n)=cntK (wholeL (flat (K.take n))):=by
  intro n
  induction n with
  | zero=>intro _;rw [List.take_zero,List.take_zero];rfl
  | succ n ih =>
   intro hn
   have e:flat (K.take (n+1))=flat (K.take n)++(K[n]'(by omega)).L:=by
    rw [List.take_succ_eq_append_getElem (by omega),flat_app,cV]
   have hl:(wholeL (flat (K.take (n+1)))).size≤(wholeL (flat K)).size:=by
    have e2:flat K=flat (K.take (n+1))++flat (K.drop (n+1)):=by rw [← flat_app,List.take_append_drop]
    rw [e2,aE,ByteArray.size_append]
    omega
   rw [tK _ _ (by simpa using (show n<K.length by omega)),ih (by omega),List.getElem_map]
   rw [e,aE] at hl ⊢
   exact KU _ _ (by omega)
 have:=h K.length (Nat.le_refl _)
 rwa [List.take_length,List.take_of_length_le (by simp)] at this
open Go.Proofs.Tryz
set_option maxRecDepth 100000
open Lib (hid)
set_option linter.unusedSimpArgs false
abbrev kc7 (lv a b c:Int) (f s:ByteArray) (kv:Value):Array Value:=#[.int .i64 lv,.int .i64 a,.int .i64 b,.int .i64 c,.string f,.string s,kv]
abbrev knV (lv a b c:Int) (f s:ByteArray):Value:=.agg #[.int .i64 lv,.int .i64 a,.int .i64 b,.int .i64 c,.string f,.string s]
theorem Blk.seven {b:Int} (h:Blk w g (kc7 lv a b c f s kv) t) :
 w.cell? ⟨g,0,none⟩=some (.int .i64 lv)∧w.cell? ⟨g,1,none⟩=some (.int .i64 a)∧w.cell? ⟨g,2,none⟩=some (.int .i64 b)∧w.cell? ⟨g,3,none⟩=some (.int .i64 c) ∧
 w.cell? ⟨g,4,none⟩=some (.string f)∧w.cell? ⟨g,5,none⟩=some (.string s)∧w.cell? ⟨g,6,none⟩=some kv:=
 ⟨h.cell 0 _ rfl,h.cell 1 _ rfl,h.cell 2 _ rfl,h.cell 3 _ rfl,h.cell 4 _ rfl,h.cell 5 _ rfl,h.cell 6 _ rfl⟩
abbrev z6:Obj:=.cells #[.int .i64 0,.int .i64 0,.int .i64 0,.int .i64 0,.string ⟨#[]⟩,.string ⟨#[]⟩] 200
set_option maxHeartbeats 800000 in
theorem eR (w:World):Calls prog 162 #[.pointer none] w fun e w'=>e=.returned (knV 0 0 0 0 ⟨#[]⟩ ⟨#[]⟩)∧Below w.heap.size w w':=by
 go_enter func162,ntmps162
 go_wp2
 refine bodyPost_ret (v:=knV 0 0 0 0 ⟨#[]⟩ ⟨#[]⟩) (by simp [results,results162,go_sem]) rfl ⟨rfl,?_⟩
 exact (Below.refl _ _).alloc (Nat.le_refl _) _
set_option maxHeartbeats 800000 in
theorem eO {b:Int} (hB:Blk w g (kc7 lv a b c f s kv) t) :
 Calls prog 162 #[.pointer (some ⟨g,0,none⟩)] w fun e w'=>e=.returned (knV lv a b c f s)∧Below w.heap.size w w':=by
 obtain ⟨c0,c1,c2,c3,c4,c5,-⟩:=(hB.alloc z6).seven
 clear hB
 go_enter func162,ntmps162
 go_wp2
 refine bodyPost_ret (v:=knV lv a b c f s) (by simp [results,results162,go_sem]) rfl ⟨rfl,?_⟩
 exact (Below.refl _ _).alloc (Nat.le_refl _) _
theorem MG (lv a b c:Int) (f s:ByteArray) (w:World):(Instr.field 200 (knV lv a b c f s) 0).run prog w=.ok (.int .i64 lv) w:=by kernel_rfl
theorem BR (lv a b c:Int) (f s:ByteArray) (w:World):(Instr.field 200 (knV lv a b c f s) 1).run prog w=.ok (cntV a b c) w:=by kernel_rfl
theorem FZ (lv a b c:Int) (f s:ByteArray) (w:World):(Instr.field 200 (knV lv a b c f s) 2).run prog w=.ok (.string f) w:=by kernel_rfl
theorem DN (lv a b c:Int) (f s:ByteArray) (w:World):(Instr.field 200 (knV lv a b c f s) 3).run prog w=.ok (.string s) w:=by kernel_rfl
set_option maxHeartbeats 800000 in
theorem nV (w:World) :
 Calls prog 175 #[.pointer none] w fun e w'=>e=.returned (.int .i64 (-1))∧Below w.heap.size w w':=by
 have ck:=eR w
 have cf:=MG 0 0 0 0 ⟨#[]⟩ ⟨#[]⟩
 have CK:=hid ck
 clear ck
 go_enter func175,ntmps175
 go_wp2_with fail
 refine CK.out.mono ?_;rintro e w1 ⟨rfl,aa⟩
 go_wp2
 go_ret
 exact ⟨rfl,aa⟩
set_option maxHeartbeats 800000 in
theorem zH {b:Int} (hB:Blk w g (kc7 lv a b c f s kv) t) (h0:0≤lv) (h1:lv≤1000000) :
 Calls prog 175 #[.pointer (some ⟨g,0,none⟩)] w fun e w'=>e=.returned (.int .i64 (lv - 1))∧Below w.heap.size w w':=by
 have ck:=eO hB
 have cf:=MG lv a b c f s
 have CK:=hid ck
 clear ck hB
 go_enter func175,ntmps175
 go_wp2_with fail
 refine CK.out.mono ?_;rintro e w1 ⟨rfl,aa⟩
 go_wp2
 go_ret
 exact ⟨rfl,aa⟩
set_option maxHeartbeats 800000 in
theorem DZ (w:World) :
 Calls prog 139 #[.pointer none] w fun e w'=>e=.returned (cntV 0 0 0)∧Below w.heap.size w w':=by
 have ck:=eR w
 have cf:=BR 0 0 0 0 ⟨#[]⟩ ⟨#[]⟩
 have ck:Calls prog 162 #[.pointer none] (w.alloc (.cells #[.int .i64 0,.int .i64 0,.int .i64 0] 173)) fun e w'=>e=.returned (knV 0 0 0 0 ⟨#[]⟩ ⟨#[]⟩)∧Below (w.alloc (.cells #[.int .i64 0,.int .i64 0,.int .i64 0] 173)).heap.size (w.alloc (.cells #[.int .i64 0,.int .i64 0,.int .i64 0] 173)) w':=eR _
 have CK:=hid ck
 clear ck
 go_enter func139,ntmps139
 go_wp2_with fail
 refine CK.out.mono ?_;rintro e w1 ⟨rfl,aa⟩
 have hN:Blk w1 w.heap.size #[.int .i64 0,.int .i64 0,.int .i64 0] 173:=(Blk.new w _ _).onto aa
 have g0:=hN.free 0
 have g1:=hN.free 1
 have g2:=hN.free 2
 have d0:=hN.cell 0 _ rfl
 have d1:=hN.cell 1 _ rfl
 have d2:=hN.cell 2 _ rfl
 have hlt:=hN.lt
 go_wp2
 refine bodyPost_ret (v:=cntV 0 0 0) (by simp [results,results139,go_sem,g0,g1,g2,d0,d1,d2]) rfl ⟨rfl,?_⟩
 exact fP (o:=.cells #[.int .i64 0,.int .i64 0,.int .i64 0] 173) aa _ _ _
set_option maxHeartbeats 800000 in
theorem qY {b:Int} (hB:Blk w g (kc7 lv a b c f s kv) t) :
 Calls prog 139 #[.pointer (some ⟨g,0,none⟩)] w fun e w'=>e=.returned (cntV a b c)∧Below w.heap.size w w':=by
 have ck:=eO hB
 have cf:=BR lv a b c f s
 have ck:Calls prog 162 #[.pointer (some ⟨g,0,none⟩)] (w.alloc (.cells #[.int .i64 0,.int .i64 0,.int .i64 0] 173)) fun e w'=>e=.returned (knV lv a b c f s)∧Below (w.alloc (.cells #[.int .i64 0,.int .i64 0,.int .i64 0] 173)).heap.size (w.alloc (.cells #[.int .i64 0,.int .i64 0,.int .i64 0] 173)) w':=eO (hB.alloc _)
 have CK:=hid ck
 clear ck hB
 go_enter func139,ntmps139
 go_wp2_with fail
 refine CK.out.mono ?_;rintro e w1 ⟨rfl,aa⟩
 have hN:Blk w1 w.heap.size #[.int .i64 0,.int .i64 0,.int .i64 0] 173:=(Blk.new w _ _).onto aa
 have g0:=hN.free 0
 have g1:=hN.free 1
 have g2:=hN.free 2
 have d0:=hN.cell 0 _ rfl
 have d1:=hN.cell 1 _ rfl
 have d2:=hN.cell 2 _ rfl
 have hlt:=hN.lt
 go_wp2
 refine bodyPost_ret (v:=cntV a b c) (by simp [results,results139,go_sem,g0,g1,g2,d0,d1,d2]) rfl ⟨rfl,?_⟩
 exact fP (o:=.cells #[.int .i64 0,.int .i64 0,.int .i64 0] 173) aa _ _ _
set_option maxHeartbeats 800000 in
theorem qT (w:World) :
 Calls prog 165 #[.pointer none] w fun e w'=>e=.returned (.string ⟨#[]⟩)∧Below w.heap.size w w':=by
 have ck:=eR w
 have cf:=FZ 0 0 0 0 ⟨#[]⟩ ⟨#[]⟩
 have CK:=hid ck
 clear ck
 go_enter func165,ntmps165
 go_wp2_with fail
 refine CK.out.mono ?_;rintro e w1 ⟨rfl,aa⟩
 go_wp2
 go_ret
 exact ⟨rfl,aa⟩
set_option maxHeartbeats 800000 in
theorem pU {b:Int} (hB:Blk w g (kc7 lv a b c f s kv) t) :
 Calls prog 165 #[.pointer (some ⟨g,0,none⟩)] w fun e w'=>e=.returned (.string f)∧Below w.heap.size w w':=by
 have ck:=eO hB
 have cf:=FZ lv a b c f s
 have CK:=hid ck
 clear ck hB
 go_enter func165,ntmps165
 go_wp2_with fail
 refine CK.out.mono ?_;rintro e w1 ⟨rfl,aa⟩
 go_wp2
 go_ret
 exact ⟨rfl,aa⟩
set_option maxHeartbeats 800000 in
theorem IU (w:World) :
 Calls prog 164 #[.pointer none] w fun e w'=>e=.returned (.string ⟨#[]⟩)∧Below w.heap.size w w':=by
 have ck:=eR w
 have cf:=DN 0 0 0 0 ⟨#[]⟩ ⟨#[]⟩
 have CK:=hid ck
 clear ck
 go_enter func164,ntmps164
 go_wp2_with fail
 refine CK.out.mono ?_;rintro e w1 ⟨rfl,aa⟩
 go_wp2
 go_ret
 exact ⟨rfl,aa⟩
set_option maxHeartbeats 800000 in
theorem JF {b:Int} (hB:Blk w g (kc7 lv a b c f s kv) t) :
 Calls prog 164 #[.pointer (some ⟨g,0,none⟩)] w fun e w'=>e=.returned (.string s)∧Below w.heap.size w w':=by
 have ck:=eO hB
 have cf:=DN lv a b c f s
 have CK:=hid ck
 clear ck hB
 go_enter func164,ntmps164
 go_wp2_with fail
 refine CK.out.mono ?_;rintro e w1 ⟨rfl,aa⟩
 go_wp2
 go_ret
 exact ⟨rfl,aa⟩
theorem cJ:(prog.info? 128).map (fun i=>(i.zero,i.size,i.bytes))=some (some (.pointer none),1,8):=by kernel_rfl
theorem zT {n c:Nat} (hl:l.length=n) (hn:n≤1000000) (hr:PRow w g o l) (h1:∀ u∈l,u.oneCell'=true) :
 Calls prog 212 #[.slice (some ⟨g,o,none⟩) n c] w fun e w'=>∃ g' c',e=.returned (.slice (some ⟨g',0,none⟩) n c')∧n≤c'∧w.heap.size≤g'∧PRow w' g' 0 l∧Below w.heap.size w w':=by
 obtain ⟨i0,hi,aa,ab,ac⟩:=info_parts cJ
 refine (AnyE.slices_Clone Tryz.knClone i0 (.pointer none) 1 8 hi aa ab ac rfl (by decide) (fun w=>by exact Tryz.sizeOf128 w) g o n c l w (by omega) (by unfold maxLen;omega) (by omega) (fun j u hj=>?_) h1).mono ?_
 ·obtain ⟨ad,rfl⟩:=List.getElem?_eq_some_iff.1 hj
  exact hr.2 j ad
 ·rintro e w' ⟨v',rfl,hown,hne,hb⟩
  rcases hown.2 with ⟨rfl,h0⟩|⟨g',cap,cur,rfl,hb',hB,hc,hm,hcs,ht⟩
  ·exact absurd rfl hne
  ·have hlt:=(Array.getElem?_eq_some_iff.1 hB).1
   refine ⟨g',cap,rfl,hc,hb',⟨hlt,fun j hj=>?_⟩,hb⟩
   have:=hown.cells (g:=g') rfl j _ (List.getElem?_eq_getElem hj)
   rwa [show (⟨g',0,none⟩:Addr).add j=⟨g',0+j,none⟩ by unfold Addr.add;split <;> simp_all] at this
theorem yD (w:World):Calls prog 212 #[.slice none 0 0] w fun e w'=>e=.returned (.slice none 0 0)∧w'=w:=AnyE.slices_Clone_nil Tryz.knClone 0 0 w
theorem LG (w:World):Calls prog 208 #[.pointer none] w fun e w'=>e=.returned (.slice none 0 0)∧Below w.heap.size w w':=by
 go_enter func208,ntmps208
 go_wp2
 go_ret
 exact ⟨rfl,Below.refl _ _⟩
theorem FD {b:Int} (hB:Blk w g (kc7 lv a b c f s (.slice none 0 0)) t) :
 Calls prog 208 #[.pointer (some ⟨g,0,none⟩)] w fun e w'=>e=.returned (.slice none 0 0)∧Below w.heap.size w w':=by
 obtain ⟨-,-,-,-,-,-,c6⟩:=hB.seven
 have ck:=yD w
 have CK:=hid ck
 clear hB ck
 go_enter func208,ntmps208
 go_wp2_with fail
 refine CK.out.mono ?_;rintro e w1 ⟨rfl,rfl⟩
 go_wp2
 go_ret
 exact ⟨rfl,Below.refl _ _⟩
set_option maxHeartbeats 400000 in
theorem NW (s:ByteArray) (hs:s.size≤maxLen) (hf:fitsB s=false) (w:World) :
 Calls prog 170 #[.string s] w fun e w'=>e=.returned (.pointer none)∧Below w.heap.size w w':=by
 have cf:=dZ s hs
 rw [hf] at cf
 have CF:=hid cf
 clear cf hs hf
 go_enter func170,ntmps170
 go_wp2_with fail
 refine (CF.out _).mono ?_;rintro e w1 ⟨rfl,aa⟩
 go_wp2
 go_ret
 exact ⟨rfl,aa⟩
set_option maxHeartbeats 400000 in
theorem uI (s:ByteArray) (hs:s.size≤maxLen) (hf:fitsB s=true) (w:World) :
 Calls prog 170 #[.string s] w fun e w'=>∃ b,e=.returned (pv b)∧w.heap.size≤b∧Blk w' b (kcs 1 s s s (.slice none 0 0)) 212∧Below w.heap.size w w':=by
 have cf:=dZ s hs
 have ct:=MJ s hs
 rw [hf] at cf
 obtain ⟨x,hx⟩:∃ x,runes s.data.toList=x:=⟨_,rfl⟩
 obtain ⟨y,hy⟩:∃ y,lines s.data.toList=y:=⟨_,rfl⟩
 unfold kcs
 rw [hx,hy] at ct ⊢
 have CF:=hid cf;have CT:=hid ct
 clear cf hs hf ct hx hy
 go_enter func170,ntmps170
 go_wp2_with fail
 refine (CF.out _).mono ?_;rintro e w1 ⟨rfl,aa⟩
 go_wp2_with fail
 refine (CT.out _).mono ?_;rintro e w2 ⟨rfl,ab⟩
 have HB:=hid (aa.trans (ab.mono aa.size))
 clear aa ab
 go_wp2
 go_ret
 exact ⟨_,rfl,HB.out.size,Blk.new _ _ _,HB.out.alloc HB.out.size _⟩
def Hgt (w:World) (p:Option Addr) (h:Int):Prop:=
 (p=none∧h=-1)∨∃ (b:Nat) (lv x y z:Int) (f s:ByteArray) (kv:Value) (t:TypeId),p=some ⟨b,0,none⟩∧h=lv - 1∧0≤lv∧lv≤1000000∧Blk w b (kc7 lv x y z f s kv) t
theorem Hgt.on {h:Int} (k:Hgt w p h) (hb:Below w.heap.size w w'):Hgt w' p h:=by
 rcases k with k|⟨b,lv,x,y,z,f,s,kv,t,h1,h2,h3,h4,h5⟩
 ·exact .inl k
 ·exact .inr ⟨b,lv,x,y,z,f,s,kv,t,h1,h2,h3,h4,h5.onto hb⟩
theorem Hgt.ge {h:Int} (k:Hgt w p h):-1≤h∧h≤1000000:=by
 rcases k with k|⟨b,lv,x,y,z,f,s,kv,t,h1,h2,h3,h4,h5⟩ <;> omega
theorem KnotW.hgt (k:KnotW w B h b L) (hh:h≤1000):Hgt w (some ⟨b,0,none⟩) h:=by
 obtain ⟨kv,-,hB⟩:=k.cells
 exact .inr ⟨b,_,_,_,_,_,_,kv,_,rfl,by omega,by omega,by omega,hB⟩
theorem Hgt.call {h:Int} (k:Hgt w p h) :
 Calls prog 175 #[.pointer p] w fun e w'=>e=.returned (.int .i64 h)∧Below w.heap.size w w':=by
 rcases k with ⟨rfl,rfl⟩|⟨b,lv,x,y,z,f,s,kv,t,rfl,rfl,h3,h4,h5⟩
 ·exact nV w
 ·exact zH h5 h3 h4
theorem Hgt.later {h:Int} (k:Hgt w p h):∀ W,Below w.heap.size w W→Calls prog 175 #[.pointer p] W fun e w'=>e=.returned (.int .i64 h)∧Below w.heap.size w w':=
 fun W hb=>onward hb (k.on hb).call
def evenP (hs:Nat→Int) (n:Nat):Prop:=∀ k,k<n→0≤hs k∧hs k=hs 0
def RetEven (w:World) (hs:Nat→Int) (n:Nat) (e:Ending) (w':World):Prop:=∃ b:Bool,e=.returned (.bool b)∧(b=true↔evenP hs n)∧Below w.heap.size w w'
theorem IG {hs:Nat→Int} {n k:Nat} (h:k<n) (hc:hs k<0∨¬ hs k=hs 0):¬ evenP hs n:=fun g=>by have:=g k h;omega
theorem GG {hs:Nat→Int} {k:Nat} (h:evenP hs k) (h0:0≤hs k) (h1:hs k=hs 0):evenP hs (k+1):=fun j hj=>by
 rcases Nat.lt_or_ge j k with g|g
 ·exact h j g
 ·obtain rfl:j=k:=by omega
  exact ⟨h0,h1⟩
set_option maxHeartbeats 1600000 in
theorem KX {n c:Nat} {ps:List (Option Addr)} {hs:Nat→Int} (hl:ps.length=n) (hn:n≤1000000) (hr:PRow w g o (ps.map Value.pointer)) (hh:∀ k (h:k<ps.length),Hgt w ps[k] (hs k)) :
 Calls prog 196 #[.slice (some ⟨g,o,none⟩) n c] w (RetEven w hs n):=by
 have HL:=hid hl;have HR:=hid hr;have HH:=hid hh
 clear hl hr hh
 go_enter func196,ntmps196
 go_wp2
 go_loopw [7] (fun i wr=>∃ k:Nat,k≤n∧i=.int .i64 k∧evenP hs k∧Below w.heap.size w wr) (fun i _=>n - (intOf i).toNat)
 case atStart=>exact ⟨0,Nat.zero_le _,rfl,fun k h=>absurd h (Nat.not_lt_zero k),Below.refl _ _⟩
 case round =>
  obtain ⟨k,hk,rfl,hE,hbel⟩:=hrel
  by_cases hlt:k<n
  ·have hkl:k<ps.length:=by rw [HL.out];exact hlt
   have h0l:0<ps.length:=by omega
   have q0:=(HR.out.on hbel).2 k (by rw [List.length_map];exact hkl)
   have r0:=(HR.out.on hbel).2 0 (by rw [List.length_map];exact h0l)
   rw [List.getElem_map] at q0 r0
   rw [Nat.add_zero] at r0
   have kp:=(HH.out k hkl).later
   have k0:=(HH.out 0 h0l).later
   have hge:=(HH.out k hkl).ge
   have ai:=(HH.out 0 h0l).ge
   have hend:=@IG hs n k hlt
   have hnext:=@GG hs k hE
   obtain ⟨p,hp⟩:∃ p,ps[k]=p:=⟨_,rfl⟩
   obtain ⟨p0,ag⟩:∃ p,ps[0]=p:=⟨_,rfl⟩
   obtain ⟨h,hhk⟩:∃ h,hs k=h:=⟨_,rfl⟩
   obtain ⟨h0,ah⟩:∃ h,hs 0=h:=⟨_,rfl⟩
   rw [hp] at q0 kp
   rw [ag] at r0 k0
   rw [hhk] at kp hge hend hnext
   rw [ah] at k0 ai hend hnext
   have hlo:g<wr.drew.heap.size:=(HR.out.on hbel).1
   have HB:=hid hbel.drew;have KP:=hid kp;have K0:=hid k0;have HE:=hid hend;have aj:=hid hnext
   have r1:wr.drew.cell? ⟨g,o,none⟩=some (.pointer p0):=r0
   have HG:=hid HR.out.1
   have b0:(0:Int)<(n:Int):=by omega
   have b3:0<n:=by omega
   have b1:(k:Int)<(n:Int):=by omega
   have b2:(0:Int)≤(k:Int):=by omega
   clear kp k0 hp ag hhk ah hend hnext hE hbel r0 hlo h0l hkl hk
   have R1:=hid ((HB.out.cell (p:=⟨g,o,none⟩) HG.out).symm.trans r1)
   rcases Int.lt_or_le h 0 with hneg|hneg
   ·have HN:=hid (HE.out (.inl hneg))
    have d1:decide (h<0)=true:=decide_eq_true hneg
    go_wp2_with fail
    refine wp_region_held_drew (S:=(fun w':World=>Below w.heap.size w w'∧w'.cell? ⟨g,o,none⟩=some (.pointer p0))) (by kernel_rfl) ⟨HB.out,r1⟩ (fun hHeld=>?_)
    refine sqt 0 ?_
    refine sqr 1 fun K hK=>?_
    go_simp
    (go_at_call 175;refine (KP.out _ HB.out).mono ?_;rintro e w1 ⟨rfl,ad⟩;have aa:=hid ad)
    try go_wp2_with fail
    refine hK.out _ _ ?_ (fun hHeld=>?_)
    ·exact ⟨aa.out,(aa.out.cell (p:=⟨g,o,none⟩) HG.out).trans R1.out⟩
    clear hK K
    try simp only [Act.put,sqp]
    refine sqt 2 ?_
    refine sqt 3 ?_
    refine wpAnyH_take (i:=4) (v:=undef) (by simp only [sqg];rfl) (by kernel_rfl) (by kernel_rfl) (by kernel_rfl) (fun _ _ _ h=>by exact h) (Or.inr ⟨by rfl,rfl⟩) (by assumption) ?_
    try simp only [Act.put,sqp]
    refine wpAnyH_take (i:=5) (v:=undef) (by simp only [sqg];rfl) (by kernel_rfl) (by kernel_rfl) (by kernel_rfl) (fun _ _ _ h=>by exact h) (Or.inr ⟨by rfl,rfl⟩) (by assumption) ?_
    try simp only [Act.put,sqp]
    refine wpAnyH_take (i:=6) (v:=undef) (by simp only [sqg];rfl) (by kernel_rfl) (by kernel_rfl) (by kernel_rfl) (fun _ _ _ h=>by exact h) (Or.inr ⟨by rfl,rfl⟩) (by assumption) ?_
    try simp only [Act.put,sqp]
    refine wpAnyH_take (i:=7) (v:=undef) (by simp only [sqg];rfl) (by kernel_rfl) (by kernel_rfl) (by kernel_rfl) (fun _ _ _ h=>by exact h) (Or.inr ⟨by rfl,rfl⟩) (by assumption) ?_
    try simp only [Act.put,sqp]
    refine wpAnyH_take (i:=8) (v:=undef) (by simp only [sqg];rfl) (by kernel_rfl) (by kernel_rfl) (by kernel_rfl) (fun _ _ _ h=>by exact h) (Or.inr ⟨by rfl,rfl⟩) (by assumption) ?_
    try simp only [Act.put,sqp]
    refine wpAnyH_take (i:=9) (v:=undef) (by simp only [sqg];rfl) (by kernel_rfl) (by kernel_rfl) (by kernel_rfl) (fun _ _ _ h=>by exact h) (Or.inr ⟨by rfl,rfl⟩) (by assumption) ?_
    try simp only [Act.put,sqp]
    refine wpAnyH_take (i:=10) (v:=undef) (by simp only [sqg];rfl) (by kernel_rfl) (by kernel_rfl) (by kernel_rfl) (fun _ _ _ h=>by exact h) (Or.inr ⟨by rfl,rfl⟩) (by assumption) ?_
    try simp only [Act.put,sqp]
    refine sqt 11 ?_
    refine wpAnyH_done (by kernel_rfl) ?_ _
    go_wp2_with fail
    go_ret
    exact ⟨false,rfl,⟨(fun h=>Bool.noConfusion h),fun h=>absurd h HN.out⟩,aa.out⟩
   ·have d1:decide (h<0)=false:=decide_eq_false (by omega)
    by_cases heq:h=h0
    ·have HN:=hid (aj.out hneg heq)
     subst heq
     clear hneg
     go_wp2_with fail
     refine wp_region_held_drew (S:=(fun w':World=>Below w.heap.size w w'∧w'.cell? ⟨g,o,none⟩=some (.pointer p0))) (by kernel_rfl) ⟨HB.out,r1⟩ (fun hHeld=>?_)
     refine sqt 0 ?_
     refine sqr 1 fun K hK=>?_
     go_simp
     (go_at_call 175;refine (KP.out _ HB.out).mono ?_;rintro e w1 ⟨rfl,ad⟩;have aa:=hid ad)
     try go_wp2_with fail
     refine hK.out _ _ ?_ (fun hHeld=>?_)
     ·exact ⟨aa.out,(aa.out.cell (p:=⟨g,o,none⟩) HG.out).trans R1.out⟩
     clear hK K
     try simp only [Act.put,sqp]
     refine sqt 2 ?_
     refine sqt 3 ?_
     refine sqt 4 ?_
     refine sqt 6 ?_
     refine sqt 7 ?_
     refine sqt 8 ?_
     refine sqr 5 fun K hK=>?_
     go_simp
     (go_at_call 175;refine (KP.out _ aa.out).mono ?_;rintro e w2 ⟨rfl,ae⟩;have ab:=hid ae)
     try go_wp2_with fail
     refine hK.out _ _ ?_ (fun hHeld=>?_)
     ·exact ⟨ab.out,(ab.out.cell (p:=⟨g,o,none⟩) HG.out).trans R1.out⟩
     clear hK K
     try simp only [Act.put,sqp]
     refine sqr 9 fun K hK=>?_
     go_simp
     (go_at_call 175;refine (K0.out _ ab.out).mono ?_;rintro e w3 ⟨rfl,af⟩;have ac:=hid af)
     try go_wp2_with fail
     refine hK.out _ _ ?_ (fun hHeld=>?_)
     ·exact ⟨ac.out,(ac.out.cell (p:=⟨g,o,none⟩) HG.out).trans R1.out⟩
     clear hK K
     try simp only [Act.put,sqp]
     refine sqt 10 ?_
     refine sqt 11 ?_
     refine wpAnyH_done (by kernel_rfl) ?_ _
     go_wp2_with fail
     go_roundw
     case rel=>exact ⟨k+1,by omega,by go_num,HN.out,ac.out⟩
     case measure=>simp [intOf];omega
    ·have HN:=hid (HE.out (.inr heq))
     have e1:(h == h0)=false:=by simpa using heq
     clear hneg
     go_wp2_with fail
     refine wp_region_held_drew (S:=(fun w':World=>Below w.heap.size w w'∧w'.cell? ⟨g,o,none⟩=some (.pointer p0))) (by kernel_rfl) ⟨HB.out,r1⟩ (fun hHeld=>?_)
     refine sqt 0 ?_
     refine sqr 1 fun K hK=>?_
     go_simp
     (go_at_call 175;refine (KP.out _ HB.out).mono ?_;rintro e w1 ⟨rfl,ad⟩;have aa:=hid ad)
     try go_wp2_with fail
     refine hK.out _ _ ?_ (fun hHeld=>?_)
     ·exact ⟨aa.out,(aa.out.cell (p:=⟨g,o,none⟩) HG.out).trans R1.out⟩
     clear hK K
     try simp only [Act.put,sqp]
     refine sqt 2 ?_
     refine sqt 3 ?_
     refine sqt 4 ?_
     refine sqt 6 ?_
     refine sqt 7 ?_
     refine sqt 8 ?_
     refine sqr 5 fun K hK=>?_
     go_simp
     (go_at_call 175;refine (KP.out _ aa.out).mono ?_;rintro e w2 ⟨rfl,ae⟩;have ab:=hid ae)
     try go_wp2_with fail
     refine hK.out _ _ ?_ (fun hHeld=>?_)
     ·exact ⟨ab.out,(ab.out.cell (p:=⟨g,o,none⟩) HG.out).trans R1.out⟩
     clear hK K
     try simp only [Act.put,sqp]
     refine sqr 9 fun K hK=>?_
     go_simp
     (go_at_call 175;refine (K0.out _ ab.out).mono ?_;rintro e w3 ⟨rfl,af⟩;have ac:=hid af)
     try go_wp2_with fail
     refine hK.out _ _ ?_ (fun hHeld=>?_)
     ·exact ⟨ac.out,(ac.out.cell (p:=⟨g,o,none⟩) HG.out).trans R1.out⟩
     clear hK K
     try simp only [Act.put,sqp]
     refine sqt 10 ?_
     refine sqt 11 ?_
     refine wpAnyH_done (by kernel_rfl) ?_ _
     go_wp2_with fail
     go_ret
     exact ⟨false,rfl,⟨(fun h=>Bool.noConfusion h),fun h=>absurd h HN.out⟩,ac.out⟩
  ·obtain rfl:k=n:=by omega
   have HE:=hid hE;have HB:=hid hbel
   clear hE hbel
   go_wp2
   go_ret
   exact ⟨true,rfl,⟨fun _=>HE.out,fun _=>rfl⟩,HB.out⟩
end Go.Proofs.YtbagenpobcgjnaaGreat
