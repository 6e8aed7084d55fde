/-
  Joined: Round, Goes, Hoes.
-/
import Derived.RangeFuncBox
import Derived.RangeFuncNested
import Derived.Shelf.Abstract
import Derived.Deep.Quiet
import Derived.StillTail
import Derived.TacticsIn
import Derived.OrdersIn
import Derived.Test.YtbagenpobcgjnaaGreatSq3
open Array renaming getElem?_eq_some_iff->zj
open Go renaming Act->yw,Code->ze,Oper->zh,TypeId->zf,Value->zg,World->yv,getD_replicate_false->Ad,roundIn_of_wpIn->Ak,run_beginRound->Al,run_endLoop->zu,run_endRound->An,run_enterLoop_outer->Aj,wpAnyIn->zv,wpIn_rangeFunc->Ah,wpListIn->zq,wpOpIn->zo
open Go.Fence renaming wide->yz
open Go.Region renaming Mode->zz,lexTailB->zx,seqB->zw
open Go.RowKit.Below renaming heap_alloc->zs,heap_setCell->Ae,refl->zm
open Go.World renaming alloc_heap_new->zn,putObj_heap_other->zd,putObj_heap_same->zt,putObj_size->yy,size_alloc->Ai
open Nat renaming le_refl->yx,le_trans->zk
variable {l:Nat} {w:Go.World}
namespace Go.Proofs.YtbagenpobcgjnaaGreat
open Go.RowKit
section
variable {P : Program} {l n : Nat} {Q : Exit → Act → World → Prop}
def wv (ops:List zh):Bool:=ops.all fun o=>match o.op with | .defer _=>false|_=>true
theorem wW {ops:List zh} (h:wv ops=true):∀ o∈ops.toArray,∀ c,o.op≠.defer c:=by
 intro o ho c e;have:=List.all_eq_true.1 h o (by simpa using ho);rw [e] at this;exact absurd this lh
end
section
variable {P : Program}
end
set_option linter.unusedVariables false
structure nh (T:zf→Prop) (B:Nat) (W W':yv):Prop where
 bel:Below B W W'
 far:∀ (b:Nat) (cs:Array zg) (t:zf) (z:Nat×Nat),W.heap[b]? = some (.cells cs t z)→T t→W'.heap[b]? = some (.cells cs t z)
section
variable {T : TypeId → Prop} {B B' lo hi : Nat} {X Y Z W W' : World}
theorem nh.refl (T:zf→Prop) (B:Nat) (W:yv):nh T B W W:=⟨zm _ _,fun _ _ _ _ h _=>h⟩
theorem nh.trans (h:nh T B X Y) (k:nh T B Y Z):nh T B X Z:=⟨h.bel.trans k.bel,fun b cs t z hb ht=>k.far b cs t z (h.far b cs t z hb ht) ht⟩
theorem nh.mono (h:nh T B X Y) (hB:B'≤B):nh T B' X Y:=⟨h.bel.mono hB,h.far⟩
theorem nh.of_below (h:Below X X Y) (hB:B≤X):nh T B X Y:=⟨h.mono hB,fun b cs t z hb _=>(h.block b (zj.1 hb).1).trans hb⟩
theorem nh.alloc (h:nh T B X Y) (hB:B≤Y) (o:Obj):nh T B X (Y.alloc o):=h.trans (.of_below ((zm _ Y).alloc (yx _) o) hB)
theorem nh.put (h:nh T B X Y) {o:Obj} (hl:Y.heap[l]? = some o) (hB:B≤l) (ho:o.isCells=false) (o':Obj):nh T B X (Y.putObj l o'):=
 h.trans ⟨⟨rfl,rfl,rfl,lh,fun k hk=>zd lf⟩,fun b cs t z hb _=>by
  by_cases e:b=l
  ·subst e;rw [hl] at hb;cases hb;cases ho
  ·rw [zd e];exact hb⟩
theorem nh.box (h:nh T B W W') {b:Nat} {t:zf} {v:zg} (hb:Boxed W b t v) (hB:b<B):Boxed W' b t v:=(h.bel.block b hB).trans hb
theorem nh.low (h:nh T B W W') {b:Nat} {o:Obj} (hb:W.heap[b]? = some o) (hB:b<B):W'.heap[b]? = some o:=(h.bel.block b hB).trans hb
end
section
variable {P : Program}
end
section
variable {P : Program} {r : Option Nat} {n : Nat} {Q : Exit → Act → World → Prop}
abbrev rz (r:Option Nat):Fence:={ yz with round:=r }
theorem qO {ops:Array zh} (hn:∀ o∈ops,∀ c,o.op≠.defer c) {i:Nat} {a:yw} {K:yw→Prop} {K':yw→yv→Prop} (h:∀ a,K a→K' a w) (hh:stOp P ops w i K a):zo (rz r) n P ops Q i K' a w:=by
 unfold stOp at hh;unfold zo;cases ho:ops[i]? with
 | none=>simp only [ho] at hh;exact h _ hh
 | some o =>
  simp only [ho] at hh ⊢;by_cases hw:Region.wanted o (yielded ops a.tmps)=true
  ·rw [if_pos hw] at hh ⊢;unfold Oper.wpIn;refine ⟨fun f _=>trivial,?_⟩;have hs:o.semAt (rz r).round a.eval=execOp a.eval o:=by
    cases r with
    | none=>exact Oper.semAt_none _ _
    | some l=>exact Oper.semAt_some l _ _ (hn o (Array.mem_of_getElem? ho))
   rw [hs];unfold Oper.still at hh;generalize (execOp a.eval o).run P w=z at *;cases z with
   | ok x w' =>
    cases x <;> simp only [Oper.stillUpon,Oper.uponIn] at hh ⊢
    case value u=>obtain ⟨rfl,h2⟩:=hh;exact h _ h2
    case skip=>obtain ⟨rfl,h2⟩:=hh;exact h _ h2
    case enter f args =>
     obtain ⟨rfl,v,hc,h2⟩:=hh;have h3:CallsIn (rz r) (n - 1) P f args w' (fun e w''=>e=.returned v∧w''=w'):=callsIn_wide (n:=n - 1) |>.2 hc
     refine ⟨fun e=>(by cases e),h3.mono ?_⟩;rintro e w'' ⟨rfl,rfl⟩;exact h _ h2
   | halt x w'=>simp only [Oper.stillUpon] at hh
  ·rw [if_neg hw] at hh ⊢;exact ⟨fun f _=>trivial,h _ hh⟩
theorem iO {ops:Array zh} {md:zz} (hd:∀ o∈ops,∀ c,o.op≠.defer c) {k g:Nat} {L:Array Bool→yw→Prop} (hL:∀ listed a,L listed a→zv (rz r) n P md ops Q g listed a w) :
 ∀ (f:Nat) (listed:Array Bool) (a:yw),wpAnyL P md ops w k L f listed a→zv (rz r) n P md ops Q (f+g) listed a w
 | 0,listed,a,h=>by rw [Nat.zero_add];exact hL _ _ h
 | f+1,listed,a,h=>by
  rw [show f+1+g=(f+g)+1 by omega];exact ⟨fun h0=>absurd h0 h.1,fun i hi=>qO hd (fun a' h'=>iO hd hL f _ a' h') (h.2 i hi).2⟩
theorem iV {ops:Array zh} {md:zz}:∀ (l:List zh) (k:Nat) (listed:Array Bool) (a:yw) (w:yv),(∀ j,l[j]? = ops[k+j]?) →
 zw md ops l.length k listed=true→zq (rz r) n P ops Q l a w→zv (rz r) n P md ops Q l.length listed a w
 | [],_,_,_,_,_,hB,h=>⟨by simpa [zw] using hB,h⟩
 | o::l,k,listed,a,w,hl,hB,h=>by
  have h0:ops[k]? = some o:=by simpa using (hl 0).symm
  simp only [List.length_cons,zw,Bool.and_eq_true,decide_eq_true_eq] at hB;refine ⟨fun h1=>(by rw [hB.1] at h1;cases h1),fun i hi=>?_⟩;rw [hB.1] at hi;have hik:i=k:=by simpa using hi
  subst hik;have hw:zo (rz r) n P ops Q i (zq (rz r) n P ops Q l) a w:=by unfold zo;simp only [h0];exact h
  exact wpOpIn_mono (fun a' w' h'=>iV l (i+1) _ a' w' (fun j=>by have:=hl (j+1);simpa [Nat.add_assoc,Nat.add_comm 1 j] using this) hB.2 h') hw
theorem oP {id:Nat} {a:yw} {ops:List zh} (k:Nat) (hm:P.follows .mixedOrders=true) (hd:wv ops=true) (hB:zx .any ops.toArray k=true)
 (h:wpStill P ops.toArray w.drew (fun a'=>zq (rz r) n P ops.toArray Q (ops.drop k) a' w.drew) (ops.take k) a):(Code.region id ops.toArray true).wpIn (rz r) n P Q a w:=by
 simp only [zx,Bool.and_eq_true,decide_eq_true_eq] at hB;obtain ⟨⟨⟨⟨hsel,hn⟩,hs⟩,hc⟩,hlex⟩:=hB;have hn':k<ops.length:=by simpa using hn
 have htl:(ops.take k).length=k:=lq;have hdl:(ops.drop k).length=ops.toArray.size - k:=lh;have inv0:HeadInv .any ops.toArray k (Array.replicate ops.toArray.size false):=
  ⟨lh,fun j oj _ hl=>(by rw [Ad] at hl;cases hl),fun t _ ht=>getD_in (by simpa using ht) (Ad _ _)⟩
 have H:=wpAnyL_lex (md:=.any) (g:=ops.toArray.size - k) hsel hs hc hn (ops.take k) 0 _ a (fun j hj=>by
  have hj':j<k:=by rw [htl] at hj;exact hj
  simp [hj']) (by simpa using htl) inv0 (by rw [htl];exact hlex) h
 refine wpIn_region_any hm ?_;have:=iO (r:=r) (n:=n) (Q:=Q) (wW hd) (g:=ops.toArray.size - k) (fun listed a' hL=>by
  have:=iV (md:=.any) (r:=r) (n:=n) (Q:=Q) (ops.drop k) k listed a' { w with drawn:=w.drawn+1 } (fun j=>by simp [List.getElem?_drop]) (by rw [hdl];exact hL.1) hL.2;rwa [hdl] at this) _ _ _ H
 rw [htl,show k+(ops.toArray.size - k)=ops.toArray.size by omega] at this;exact this
theorem nJ {id:Nat} {a:yw} {ops:List zh} (k:Nat) (hm:P.follows .mixedOrders=true) (hd:wv ops=true) (hB:zx .any ops.toArray k=true)
 (h:wpStill P ops.toArray w.drew (fun a'=>zq (yz.inRound l) n P ops.toArray Q (ops.drop k) a' w.drew) (ops.take k) a):(Code.region id ops.toArray true).wpIn (yz.inRound l) n P Q a w:=oP (r:=some l) k hm hd hB h
end
theorem dL {P:Program} {m:Nat} {args:Array zg} {W:yv} {R:Ending→yv→Prop} (h:YieldAt yz m P l args W R) :
 ∃ fn tmps assign body,(Instr.yield l args).run P W=.ok (.round l fn tmps assign body) W∧∀ (r:Option Nat) (m':Nat),RoundIn (rz r) m' P l fn tmps assign body W R:=by
 obtain ⟨fn,tmps,assign,body,h1,h2⟩:=h;exact ⟨fn,tmps,assign,body,h1,fun r m'=>⟨h2.1,fun c cs _=>h2.2 c cs (by intro d e;cases e)⟩⟩
structure Kq (T:zf→Prop) (lo B:Nat) (W W':yv):Prop where
 size:W.heap.size≤W'
 mid:∀ (b:Nat),b<lo→W'.heap[b]? = W.heap[b]?
 far:∀ (b:Nat) (o:Obj),B≤b→W.heap[b]? = some o→(∀ cs t z,o=.cells cs t z→¬ T t)→W'.heap[b]? = some o
section
variable {T : TypeId → Prop} {B B' lo : Nat} {X Y Z W W' : World}
theorem Kq.refl (T:zf→Prop) (lo B:Nat) (W:yv):Kq T lo B W W:=⟨yx _,fun _ _=>rfl,fun _ _ _ h _=>h⟩
theorem Kq.trans (h:Kq T lo B X Y) (k:Kq T lo B Y Z):Kq T lo B X Z:=⟨zk h.size k.size,fun b h1=>(k.mid b h1).trans (h.mid b h1),fun b o hb ho ht=>k.far b o hb (h.far b o hb ho ht) ht⟩
theorem Kq.later (h:Kq T lo B X Y) (hB:B≤B'):Kq T lo B' X Y:=⟨h.size,h.mid,fun b o hb=>h.far b o (zk hB hb)⟩
theorem Kq.of_below (h:Below X X Y) (hl:lo≤X):Kq T lo B X Y:=⟨h.size,fun b hb=>h.block b lf,fun b o _ hb _=>(h.block b (zj.1 hb).1).trans hb⟩
theorem Kq.alloc (h:Kq T lo B X Y) (hl:lo≤Y) (o:Obj):Kq T lo B X (Y.alloc o):=h.trans (.of_below ((zm _ Y).alloc (yx _) o) hl)
theorem Kq.put (h:Kq T lo B X Y) (hl:lo≤l) (hB:l<B) (o':Obj):Kq T lo B X (Y.putObj l o'):=
 h.trans ⟨lh,fun b hb=>zd lf,fun b o hb ho _=>by rw [zd lf];exact ho⟩
theorem Kq.set (h:Kq T lo B X Y) {b:Nat} (hB:b<B) (hb:lo≤b) (u:zg):Kq T lo B X (Y.setCell ⟨b,0,none⟩ u):=
 h.trans ⟨by rw [World.size_setCell];exact yx _,fun k h1=>Ae _ _ _ k (by show k≠b;omega),fun k o hk ho _=>by rw [Ae _ _ _ k (by show k≠b;omega)];exact ho⟩
theorem Kq.keeps (h:Kq T lo B W W'):KeepsFrom B W W':=⟨h.size,fun k o hk ho hc=>h.far k o hk ho (fun cs t z e=>by subst e;cases hc)⟩
end
section
variable {P : Program}
def Hoes (P:Program) (T:zf→Prop) (lo:Nat) (gf:Nat) (lb:Array zg) {σ X:Type} (encs:X→Array zg) (Y:σ→X→σ→Prop) (s0 s1:σ) (w:yv):Prop:=
 ∀ (n l:Nat) (J:σ→yv→Prop) (Jx:yv→Prop) (W:yv),Below w w W→l<W →
  (∀ s A B,J s A→W.heap.size≤A.heap.size→nh T W A B→J s B)→(∀ A B,Jx A→W.heap.size≤A.heap.size→nh T W A B→Jx B) →
  (∀ s x s' A,Y s x s'→W.heap.size≤A.heap.size→J s A→YieldAt yz (n - 1) P l (encs x) A fun e B=>(e=.returned (.bool true)∧J s' B∧Kq T lo W A B)∨(e=.returned (.bool false)∧Jx B∧Kq T lo W A B)) →
  J s0 W →
  CallsIn yz n P gf (#[.func (.yield l) #[] #[]]++lb) W fun e B=>(∃ v,e=.returned v)∧(J s1 B∨Jx B)
def yg (T:zf→Prop) (lo B:Nat) (J:yv→Prop) (Ix:ze→yv→Prop) (W:yv):Exit→yw→yv→Prop
 | .normal,_,W'=>Kq T lo B W W'∧J W'
 | .ret,_,W'=>Kq T lo B W W'∧Ix .ret W'
 | .exit id,_,W'=>Kq T lo B W W'∧Ix (.exit id) W'
 | .goto t,_,W'=>Kq T lo B W W'∧Ix (.goto t) W'
 | .panic _,_,_=>False
 | .outgrown,_,_=>False
theorem PK {n:Nat} {T:zf→Prop} {lo:Nat} {σ X:Type} {g:Operand} {ps:Array Tmp} {assign body:ze} {Q:Exit→yw→yv→Prop} {a:yw} 
 {gf:Nat} {lb:Array zg} (hg:a.eval g=.func (.func gf) #[] lb) (eg:∀ args w,(callFunc gf args).run P w=.ok (.enter gf args) w)
 {encs:X→Array zg} {Y:σ→X→σ→Prop} {s0 s1:σ} {w0:yv} (hseq:Hoes P T lo gf lb encs Y s0 s1 w0)
 (hb0:Below w0 w0 w) (hlo:lo≤w0) (hps:∀ x,(encs x).size=ps.size)
 (J:σ→yv→Prop) (Ix:ze→yv→Prop) (hJ:∀ s A B,J s A→w.heap.size≤A.heap.size→nh T w.heap.size A B→J s B) (hIx:∀ c A B,Ix c A→w.heap.size≤A.heap.size→nh T w A B→Ix c B) (h0:J s0 w)
 (a₁:X→yw)
 (hassign:∀ (l:Nat) (x:X) (W:yv) (K:yw→yv→Prop),K (a₁ x) W →
  assign.wpIn (yz.inRound l) (n - 1 - 1) P (Exit.then K (fun _ _ _=>False)) { tmps:=(ps.zip (encs x)).foldl (fun t (p,v)=>t.setIfInBounds p v) a.tmps,defers:=[] } W)
 (hbody:∀ (l:Nat) (s:σ) (x:X) (s':σ) (W:yv),w.heap.size≤W→Y s x s'→J s W→body.wpIn (yz.inRound l) (n - 1 - 1) P (yg T lo w (J s') Ix W) (a₁ x) W)
 (hdone:∀ (D':Nat) (W:yv),w≤D'→w.heap.size≤W→J s1 W→W.heap[D']? = some (.deferred (some []))→Q .normal { a with defers:={ target:=.collected D',args:=#[] }::a.defers } W)
 (hstop:∀ (D':Nat) (c:ze) (W:yv),w≤D'→w.heap.size≤W→Ix c W→W.heap[D']? = some (.deferred (some []))→c.wpIn yz n P Q { a with defers:={ target:=.collected D',args:=#[] }::a.defers } W) :
 (Code.rangeFunc g ps assign body).wpIn yz n P Q a w:=by
 refine Ah ?_;intro fn hfn;have aq:=hb0.size;obtain ⟨rec,hrec⟩:∃ rec:LoopState→Option ze→Loop,rec=fun st pe=>{ state:=st,pending:=pe,fn,tmps:=a.tmps,params:=ps,assign,body,defers:=w.heap.size }:=⟨_,rfl⟩;obtain ⟨W1,ah⟩:∃ W1,(w.alloc (.deferred (some []))).alloc (.loop (rec .ready none))=W1:=⟨_,rfl⟩;have ar:W1.heap.size=w+2:=by rw [← ah];simp
 have ai:W1.heap[w.heap.size+1]? = some (.loop (rec .ready none)):=by
  rw [← ah];have:=zn (w.alloc (.deferred (some []))) (.loop (rec .ready none));rwa [Ai] at this
 have aj:W1.heap[w.heap.size]? = some (.deferred (some [])):=by
  rw [← ah];exact (zs _ _ _ lh).trans (zn w _)
 have ak:J s0 W1:=by rw [← ah];exact hJ _ _ _ h0 (yx _) (((nh.refl T _ w).alloc (yx _) _).alloc lh _)
 have al:Below w0 w0 W1:=by
  rw [← ah];exact hb0.trans ((((zm _ w).alloc (yx _) _).alloc lh _).mono hb0.size)
 refine ⟨w+1,[{ target:=.collected w,args:=#[] }],W1,{ target:=.fn (.func gf) lb,args:=#[.func (.yield (w+1)) #[] #[]] },W1,gf,
  #[.func (.yield (w+1)) #[] #[]]++lb,W1,?_,?_,?_,?_,fun e=>(by cases e),?_⟩
 ·rw [← ah,hrec];exact Aj _ _ _ _ _
 ·simp only [resolve,hg];simp [go_sem]
 ·intro f' _;trivial
 ·simp [invoke,go_sem,eg]
 ·refine (hseq (n - 1) (w+1)
   (fun s W=>(J s W∧w.heap.size≤W)∧W.heap[w.heap.size+1]? = some (.loop (rec .ready none))∧W.heap[w.heap.size]? = some (.deferred (some [])))
   (fun W=>∃ c,(Ix c W∧w.heap.size≤W)∧W.heap[w.heap.size+1]? = some (.loop (rec .done (some c)))∧W.heap[w.heap.size]? = some (.deferred (some [])))
   W1 al lf
   (fun s A B hs hA hT=>⟨⟨hJ s A B hs.1.1 lf (hT.mono lf),zk hs.1.2 hT.bel.size⟩,hT.low hs.2.1 lf,hT.low hs.2.2 lf⟩)
   (fun A B hs hA hT=>by obtain ⟨c,h1,h2,h3⟩:=hs;exact ⟨c,⟨hIx c A B h1.1 lf (hT.mono lf),zk h1.2 hT.bel.size⟩,hT.low h2 lf,hT.low h3 lf⟩)
   ?_ ⟨⟨ak,lf⟩,ai,aj⟩).mono ?_
  ·rintro s x s' W hy' hWs ⟨⟨hi,hsz⟩,hl,hk⟩;have hlt:w.heap.size+1<W:=(zj.1 hl).1;have hy:=run_yield (P:=P) (args:=encs x) hl (by rw [hrec];exact hps x);rw [hrec] at hy;refine ⟨fn,_,assign,body,hy,Ak hfn (hassign _ x W _ ⟨_,Al hl (by rw [hrec]),?_⟩)⟩;have am:(W.putObj (w+1) (.loop { rec .ready none with state:=.busy })).heap[w.heap.size+1]? = some (.loop { rec .ready none with state:=.busy }):=zt hlt;have an:(W.putObj (w+1) (.loop { rec .ready none with state:=.busy })).heap[w.heap.size]? = some (.deferred (some [])):=(zd lf).trans hk;have ao:Kq T lo W1 W (W.putObj (w+1) (.loop { rec .ready none with state:=.busy })):=(Kq.refl _ _ _ _).put lf lf _;refine wpIn_mono (hbody _ s x s' _ (by rw [yy];omega) hy' (hJ _ _ _ hi lf ((nh.refl T _ W).put hl lf rfl _))) ?_;have fin:∀ (jump:Option ze) (W3:yv),Kq T lo w (W.putObj (w+1) (.loop { rec .ready none with state:=.busy })) W3 →
    (Instr.endRound (w+1) jump).run P W3=.ok (.bool jump.isNone) (W3.putObj (w+1) (.loop (rec (if jump.isNone then .ready else .done) jump))) ∧
    W3.heap[w.heap.size+1]? = some (.loop { rec .ready none with state:=.busy }) ∧
    (W3.putObj (w+1) (.loop (rec (if jump.isNone then .ready else .done) jump))).heap[w.heap.size+1]? = some (.loop (rec (if jump.isNone then .ready else .done) jump)) ∧
    (W3.putObj (w+1) (.loop (rec (if jump.isNone then .ready else .done) jump))).heap[w.heap.size]? = some (.deferred (some [])) ∧
    Kq T lo W1 W (W3.putObj (w+1) (.loop (rec (if jump.isNone then .ready else .done) jump)))∧w.heap.size≤W3:=fun jump W3 aa=>by
    have ab:=aa.keeps.same _ _ lf am rfl;have:=An (P:=P) jump ab;have hz:=aa.size;rw [yy] at hz;rw [hrec] at this ⊢;exact ⟨this,by rw [hrec] at ab;exact ab,zt (zj.1 ab).1,(zd lf).trans (aa.keeps.same _ _ (yx _) an rfl),
     ((ao.trans (aa.later lf)).put lf lf _),lf⟩
   rintro e a3 W3 hp;cases e with
   | normal =>
    obtain ⟨aa,ad⟩:=hp;obtain ⟨hr,ab,ae,af,ag,ac⟩:=fin none W3 aa;exact ⟨_,_,hr,.inl ⟨rfl,⟨⟨hJ _ _ _ ad ac ((nh.refl T _ W3).put ab lf rfl _),by rw [yy];exact ac⟩,ae,af⟩,ag⟩⟩
   | ret =>
    obtain ⟨aa,ad⟩:=hp;obtain ⟨hr,ab,ae,af,ag,ac⟩:=fin (some .ret) W3 aa;exact ⟨_,_,hr,.inr ⟨rfl,⟨.ret,⟨hIx _ _ _ ad ac ((nh.refl T _ W3).put ab lf rfl _),by rw [yy];exact ac⟩,ae,af⟩,ag⟩⟩
   | exit id =>
    obtain ⟨aa,ad⟩:=hp;obtain ⟨hr,ab,ae,af,ag,ac⟩:=fin (some (.exit id)) W3 aa;exact ⟨_,_,hr,.inr ⟨rfl,⟨.exit id,⟨hIx _ _ _ ad ac ((nh.refl T _ W3).put ab lf rfl _),by rw [yy];exact ac⟩,ae,af⟩,ag⟩⟩
   | goto t =>
    obtain ⟨aa,ad⟩:=hp;obtain ⟨hr,ab,ae,af,ag,ac⟩:=fin (some (.goto t)) W3 aa;exact ⟨_,_,hr,.inr ⟨rfl,⟨.goto t,⟨hIx _ _ _ ad ac ((nh.refl T _ W3).put ab lf rfl _),by rw [yy];exact ac⟩,ae,af⟩,ag⟩⟩
   | panic ch=>exact hp.elim
   | outgrown=>exact hp.elim
  ·rintro e W2 ⟨⟨v,rfl⟩,(⟨⟨hi,hz⟩,hl,hk⟩|⟨c,⟨hi,hz⟩,hl,hk⟩)⟩
   ·exact ⟨none,_,by have:=zu (P:=P) hl (by rw [hrec];simp);rw [hrec] at this;exact this,hdone _ _ (yx _) (by rw [yy];exact hz) (hJ _ _ _ hi hz ((nh.refl T _ W2).put hl lf rfl _)) ((zd lf).trans hk)⟩
   ·exact ⟨some c,_,by have:=zu (P:=P) hl (by rw [hrec];simp);rw [hrec] at this;exact this,hstop _ c _ (yx _) (by rw [yy];exact hz) (hIx _ _ _ hi hz ((nh.refl T _ W2).put hl lf rfl _)) ((zd lf).trans hk)⟩
theorem pU {n:Nat} {T:zf→Prop} {lo:Nat} {σ X:Type} {g:Operand} {ps:Array Tmp} {assign body:ze} {Q:Exit→yw→yv→Prop} {a:yw} 
 {gf:Nat} {lb:Array zg} (hg:a.eval g=.func (.func gf) #[] lb) (eg:∀ args w,(callFunc gf args).run P w=.ok (.enter gf args) w)
 {encs:X→Array zg} {Y:σ→X→σ→Prop} {s0 s1:σ} {w0:yv} (hseq:Hoes P T lo gf lb encs Y s0 s1 w0)
 (hb0:Below w0 w0 w) (hlo:lo≤w0) (hps:∀ x,(encs x).size=ps.size)
 (J:σ→yv→Prop) (Ix:ze→yv→Prop) (hJ:∀ s A B,J s A→w.heap.size≤A.heap.size→nh T w.heap.size A B→J s B) (hIx:∀ c A B,Ix c A→w.heap.size≤A.heap.size→nh T w A B→Ix c B) (h0:J s0 w)
 (a₁:X→Nat→yw) (ob:X→Obj)
 (hassign:∀ (l:Nat) (x:X) (W:yv) (K:yw→yv→Prop),K (a₁ x W) (W.alloc (ob x)) →
  assign.wpIn (yz.inRound l) (n - 1 - 1) P (Exit.then K (fun _ _ _=>False)) { tmps:=(ps.zip (encs x)).foldl (fun t (p,v)=>t.setIfInBounds p v) a.tmps,defers:=[] } W)
 (hbody:∀ (l:Nat) (s:σ) (x:X) (s':σ) (b:Nat) (W:yv),w≤b→W.heap[b]? = some (ob x)→Y s x s'→J s W→body.wpIn (yz.inRound l) (n - 1 - 1) P (yg T lo w (J s') Ix W) (a₁ x b) W)
 (hdone:∀ (D':Nat) (W:yv),w≤D'→w.heap.size≤W→J s1 W→W.heap[D']? = some (.deferred (some []))→Q .normal { a with defers:={ target:=.collected D',args:=#[] }::a.defers } W)
 (hstop:∀ (D':Nat) (c:ze) (W:yv),w≤D'→w.heap.size≤W→Ix c W→W.heap[D']? = some (.deferred (some []))→c.wpIn yz n P Q { a with defers:={ target:=.collected D',args:=#[] }::a.defers } W) :
 (Code.rangeFunc g ps assign body).wpIn yz n P Q a w:=by
 refine Ah ?_;intro fn hfn;have aq:=hb0.size;obtain ⟨rec,hrec⟩:∃ rec:LoopState→Option ze→Loop,rec=fun st pe=>{ state:=st,pending:=pe,fn,tmps:=a.tmps,params:=ps,assign,body,defers:=w.heap.size }:=⟨_,rfl⟩;obtain ⟨W1,ah⟩:∃ W1,(w.alloc (.deferred (some []))).alloc (.loop (rec .ready none))=W1:=⟨_,rfl⟩;have ar:W1.heap.size=w+2:=by rw [← ah];simp
 have ai:W1.heap[w.heap.size+1]? = some (.loop (rec .ready none)):=by
  rw [← ah];have:=zn (w.alloc (.deferred (some []))) (.loop (rec .ready none));rwa [Ai] at this
 have aj:W1.heap[w.heap.size]? = some (.deferred (some [])):=by
  rw [← ah];exact (zs _ _ _ lh).trans (zn w _)
 have ak:J s0 W1:=by rw [← ah];exact hJ _ _ _ h0 (yx _) (((nh.refl T _ w).alloc (yx _) _).alloc lh _)
 have al:Below w0 w0 W1:=by
  rw [← ah];exact hb0.trans ((((zm _ w).alloc (yx _) _).alloc lh _).mono hb0.size)
 refine ⟨w+1,[{ target:=.collected w,args:=#[] }],W1,{ target:=.fn (.func gf) lb,args:=#[.func (.yield (w+1)) #[] #[]] },W1,gf,
  #[.func (.yield (w+1)) #[] #[]]++lb,W1,?_,?_,?_,?_,fun e=>(by cases e),?_⟩
 ·rw [← ah,hrec];exact Aj _ _ _ _ _
 ·simp only [resolve,hg];simp [go_sem]
 ·intro f' _;trivial
 ·simp [invoke,go_sem,eg]
 ·refine (hseq (n - 1) (w+1)
   (fun s W=>(J s W∧w.heap.size≤W)∧W.heap[w.heap.size+1]? = some (.loop (rec .ready none))∧W.heap[w.heap.size]? = some (.deferred (some [])))
   (fun W=>∃ c,(Ix c W∧w.heap.size≤W)∧W.heap[w.heap.size+1]? = some (.loop (rec .done (some c)))∧W.heap[w.heap.size]? = some (.deferred (some [])))
   W1 al lf
   (fun s A B hs hA hT=>⟨⟨hJ s A B hs.1.1 lf (hT.mono lf),zk hs.1.2 hT.bel.size⟩,hT.low hs.2.1 lf,hT.low hs.2.2 lf⟩)
   (fun A B hs hA hT=>by obtain ⟨c,h1,h2,h3⟩:=hs;exact ⟨c,⟨hIx c A B h1.1 lf (hT.mono lf),zk h1.2 hT.bel.size⟩,hT.low h2 lf,hT.low h3 lf⟩)
   ?_ ⟨⟨ak,lf⟩,ai,aj⟩).mono ?_
  ·rintro s x s' W hy' hWs ⟨⟨hi,hsz⟩,hl,hk⟩;have hlt:w.heap.size+1<W:=(zj.1 hl).1;have hy:=run_yield (P:=P) (args:=encs x) hl (by rw [hrec];exact hps x);rw [hrec] at hy;obtain ⟨A,hA⟩:∃ A,W.alloc (ob x)=A:=⟨_,rfl⟩;have hzA:A.heap.size=W+1:=by rw [← hA];simp
   have hlA:A.heap[w.heap.size+1]? = some (.loop (rec .ready none)):=by rw [← hA];exact (zs _ _ _ hlt).trans hl
   have hkA:A.heap[w.heap.size]? = some (.deferred (some [])):=by rw [← hA];exact (zs _ _ _ lf).trans hk
   have hoA:A.heap[W.heap.size]? = some (ob x):=by rw [← hA];exact zn W _
   have hjA:J s A:=by rw [← hA];exact hJ _ _ _ hi lf ((nh.refl T _ W).alloc lf _)
   have hqA:Kq T lo W1 W A:=by rw [← hA];exact (Kq.refl _ _ _ _).alloc lf _
   refine ⟨fn,_,assign,body,hy,Ak hfn (hassign _ x W _ ⟨_,Al (by rw [hA];exact hlA) (by rw [hrec]),?_⟩)⟩;rw [hA];have am:(A.putObj (w+1) (.loop { rec .ready none with state:=.busy })).heap[w.heap.size+1]? = some (.loop { rec .ready none with state:=.busy }):=zt lf;have an:(A.putObj (w+1) (.loop { rec .ready none with state:=.busy })).heap[w.heap.size]? = some (.deferred (some [])):=(zd lf).trans hkA;have ao:Kq T lo W1 W (A.putObj (w+1) (.loop { rec .ready none with state:=.busy })):=hqA.put lf lf _;refine wpIn_mono (hbody _ s x s' W _ lf ((zd lf).trans hoA) hy' (hJ _ _ _ hjA lf ((nh.refl T _ A).put hlA lf rfl _))) ?_;have fin:∀ (jump:Option ze) (W3:yv),Kq T lo w (A.putObj (w+1) (.loop { rec .ready none with state:=.busy })) W3 →
    (Instr.endRound (w+1) jump).run P W3=.ok (.bool jump.isNone) (W3.putObj (w+1) (.loop (rec (if jump.isNone then .ready else .done) jump))) ∧
    W3.heap[w.heap.size+1]? = some (.loop { rec .ready none with state:=.busy }) ∧
    (W3.putObj (w+1) (.loop (rec (if jump.isNone then .ready else .done) jump))).heap[w.heap.size+1]? = some (.loop (rec (if jump.isNone then .ready else .done) jump)) ∧
    (W3.putObj (w+1) (.loop (rec (if jump.isNone then .ready else .done) jump))).heap[w.heap.size]? = some (.deferred (some [])) ∧
    Kq T lo W1 W (W3.putObj (w+1) (.loop (rec (if jump.isNone then .ready else .done) jump)))∧w.heap.size≤W3:=fun jump W3 aa=>by
    have ab:=aa.keeps.same _ _ lf am rfl;have:=An (P:=P) jump ab;have hz:=aa.size;rw [yy] at hz;rw [hrec] at this ⊢;exact ⟨this,by rw [hrec] at ab;exact ab,zt (zj.1 ab).1,(zd lf).trans (aa.keeps.same _ _ (yx _) an rfl),
     ((ao.trans (aa.later lf)).put lf lf _),lf⟩
   rintro e a3 W3 hp;cases e with
   | normal =>
    obtain ⟨aa,ad⟩:=hp;obtain ⟨hr,ab,ae,af,ag,ac⟩:=fin none W3 aa;exact ⟨_,_,hr,.inl ⟨rfl,⟨⟨hJ _ _ _ ad ac ((nh.refl T _ W3).put ab lf rfl _),by rw [yy];exact ac⟩,ae,af⟩,ag⟩⟩
   | ret =>
    obtain ⟨aa,ad⟩:=hp;obtain ⟨hr,ab,ae,af,ag,ac⟩:=fin (some .ret) W3 aa;exact ⟨_,_,hr,.inr ⟨rfl,⟨.ret,⟨hIx _ _ _ ad ac ((nh.refl T _ W3).put ab lf rfl _),by rw [yy];exact ac⟩,ae,af⟩,ag⟩⟩
   | exit id =>
    obtain ⟨aa,ad⟩:=hp;obtain ⟨hr,ab,ae,af,ag,ac⟩:=fin (some (.exit id)) W3 aa;exact ⟨_,_,hr,.inr ⟨rfl,⟨.exit id,⟨hIx _ _ _ ad ac ((nh.refl T _ W3).put ab lf rfl _),by rw [yy];exact ac⟩,ae,af⟩,ag⟩⟩
   | goto t =>
    obtain ⟨aa,ad⟩:=hp;obtain ⟨hr,ab,ae,af,ag,ac⟩:=fin (some (.goto t)) W3 aa;exact ⟨_,_,hr,.inr ⟨rfl,⟨.goto t,⟨hIx _ _ _ ad ac ((nh.refl T _ W3).put ab lf rfl _),by rw [yy];exact ac⟩,ae,af⟩,ag⟩⟩
   | panic ch=>exact hp.elim
   | outgrown=>exact hp.elim
  ·rintro e W2 ⟨⟨v,rfl⟩,(⟨⟨hi,hz⟩,hl,hk⟩|⟨c,⟨hi,hz⟩,hl,hk⟩)⟩
   ·exact ⟨none,_,by have:=zu (P:=P) hl (by rw [hrec];simp);rw [hrec] at this;exact this,hdone _ _ (yx _) (by rw [yy];exact hz) (hJ _ _ _ hi hz ((nh.refl T _ W2).put hl lf rfl _)) ((zd lf).trans hk)⟩
   ·exact ⟨some c,_,by have:=zu (P:=P) hl (by rw [hrec];simp);rw [hrec] at this;exact this,hstop _ c _ (yx _) (by rw [yy];exact hz) (hIx _ _ _ hi hz ((nh.refl T _ W2).put hl lf rfl _)) ((zd lf).trans hk)⟩
end
end Go.Proofs.YtbagenpobcgjnaaGreat
