/-
  Joined: Sq, Sq2, Round, Goes, Hoes.
-/
import Derived.Deep.RegionHeld3
import Derived.WalkKit
import Derived.Lib.Hide
import Derived.RangeFuncBox
import Derived.RangeFuncNested
import Derived.Shelf.Abstract
import Derived.Deep.Quiet
import Derived.StillTail
import Derived.OrdersIn
import Derived.Test.YtbagenpobcgjnaaGreatSq3
open Array renaming getElem?_eq_some_iff->zw
open Go renaming Act->zo,Code->zt,Program->Aa,TypeId->zu,Value->zr,World->zk,roundIn_of_wpIn->Aq,run_beginRound->Ar,run_endLoop->Ag,run_endRound->Av,run_enterLoop_outer->Ap,wpAnyH->Ab,wpIn_rangeFunc->An
open Go.Fence renaming wide->zq
open Go.RowKit.Below renaming heap_alloc->Ae,heap_setCell->Ak,refl->zy
open Go.World renaming alloc_heap_new->zz,putObj_heap_other->zp,putObj_heap_same->Af,putObj_size->zn,size_alloc->Ao
open Nat renaming le_refl->zm,le_trans->zx
variable {n:Nat} {w:Go.World}
namespace Go.Proofs.YtbagenpobcgjnaaGreat
open Go.RowKit
theorem rg : (∀ (α : Type) (l : List α) (i : Nat), l.toArray[i]? = l[i]?) ∧ (∀ (α : Type) (l : List α) (x : α) (i : Nat), (x :: l)[i + 1]? = l[i]?) ∧ (∀ (α : Type) (l : List α) (x : α), (x :: l)[0]? = some x) :=
  ⟨fun _ _ _ => List.getElem?_toArray, fun _ _ _ _ => List.getElem?_cons_succ, fun _ _ _ => List.getElem?_cons_zero⟩
theorem mj : (∀ (α : Type) (l : List α) (i : Nat) (x : α), l.toArray.setIfInBounds i x = (l.set i x).toArray) ∧ (∀ (α : Type) (l : List α) (x y : α), (x :: l).set 0 y = y :: l) ∧ (∀ (α : Type) (l : List α) (x y : α) (i : Nat), (x :: l).set (i + 1) y = x :: l.set i y) :=
  ⟨fun _ _ _ _ => List.setIfInBounds_toArray .., fun _ _ _ _ => List.set_cons_zero, fun _ _ _ _ _ => List.set_cons_succ⟩
/-- An operation that is wanted, and yields where S holds: next. -/
theorem lz {P : Aa} {ops : Array Oper} {Q : Exit → zo → zk → Prop} {S : zk → Prop} {ls : Array Bool} {a b : zo} {o : Oper} {v : zr} (i : Nat)
    (h : Ab P .any ops Q S n (ls.setIfInBounds i true) b w)
    (ho : ops[i]? = some o := by (simp only [rg]; rfl)) (h1 : Region.noSelect ops = true := by kernel_rfl) (h2 : Region.free .any ops ls i = true := by kernel_rfl) (h3 : (Region.ready .any ops ls).contains i = true := by kernel_rfl)
    (hw : Region.wanted o (yielded ops a.tmps) = true := by rfl)
    (hv : ∀ w, S w → (execOp a.eval o).run P w = .ok (.value v) w := by (intro w hSw; (try dsimp only at hSw); go_simp; try with_reducible rfl))
    (hQ : ∀ c a w, Q (.panic c) (a.put o.dst v) w → Q (.panic c) a w := by exact fun _ _ _ h => h)
    (hS : S w := by assumption) (hb : a.put o.dst v = b := by first | (simp only [Act.put, mj]; rfl) | rfl) : Ab P .any ops Q S (n + 1) ls a w := wpAnyH_take ho h1 h2 h3 hQ (.inl ⟨hw, hv⟩) hS (hb ▸ h)
theorem m8 {P : Aa} {ops : Array Oper} {Q : Exit → zo → zk → Prop} {S : zk → Prop} {ls : Array Bool} {a : zo} {o : Oper} (i : Nat)
    (h : ∀ K' : zo → zk → Prop, Shut (∀ a w, S w → (S w → Ab P .any ops Q S n (ls.setIfInBounds i true) a w) → K' a w) → if Region.wanted o (yielded ops a.tmps) = true then Oper.wp P o a w K' Q else K' (a.put o.dst undef) w)
    (ho : ops[i]? = some o := by (simp only [rg]; rfl)) (hr : Region.ready .any ops ls = [i] := by kernel_rfl) : Ab P .any ops Q S (n + 1) ls a w := wpAnyH_ready hr li (AllReadyH.cons ho h AllReadyH.nil)
section
variable {P : Program} {l n : Nat} {Q : Exit → Act → World → Prop}
end
section
variable {P : Program}
end
set_option linter.unusedVariables false
structure ng (T:zu→Prop) (B:Nat) (W W':zk):Prop where
 bel:Below B W W'
 far:∀ (b:Nat) (cs:Array zr) (t:zu) (z:Nat×Nat),W.heap[b]? = some (.cells cs t z)→T t→W'.heap[b]? = some (.cells cs t z)
section
variable {T : TypeId → Prop} {B B' lo hi : Nat} {X Y Z W W' : World}
theorem ng.refl (T:zu→Prop) (B:Nat) (W:zk):ng T B W W:=⟨zy _ _,fun _ _ _ _ h _=>h⟩
theorem ng.trans (h:ng T B X Y) (k:ng T B Y Z):ng T B X Z:=⟨h.bel.trans k.bel,fun b cs t z hb ht=>k.far b cs t z (h.far b cs t z hb ht) ht⟩
theorem ng.mono (h:ng T B X Y) (hB:B'≤B):ng T B' X Y:=⟨h.bel.mono hB,h.far⟩
theorem ng.of_below (h:Below X X Y) (hB:B≤X):ng T B X Y:=⟨h.mono hB,fun b cs t z hb _=>(h.block b (zw.1 hb).1).trans hb⟩
theorem ng.alloc (h:ng T B X Y) (hB:B≤Y) (o:Obj):ng T B X (Y.alloc o):=h.trans (.of_below ((zy _ Y).alloc (zm _) o) hB)
theorem ng.put (h:ng T B X Y) {l:Nat} {o:Obj} (hl:Y.heap[l]? = some o) (hB:B≤l) (ho:o.isCells=false) (o':Obj):ng T B X (Y.putObj l o'):=
 h.trans ⟨⟨rfl,rfl,rfl,li,fun k hk=>zp lg⟩,fun b cs t z hb _=>by
  by_cases e:b=l
  ·subst e;rw [hl] at hb;cases hb;cases ho
  ·rw [zp e];exact hb⟩
theorem ng.box (h:ng T B W W') {b:Nat} {t:zu} {v:zr} (hb:Boxed W b t v) (hB:b<B):Boxed W' b t v:=(h.bel.block b hB).trans hb
theorem ng.low (h:ng T B W W') {b:Nat} {o:Obj} (hb:W.heap[b]? = some o) (hB:b<B):W'.heap[b]? = some o:=(h.bel.block b hB).trans hb
end
section
variable {P : Program}
end
section
variable {P : Program} {r : Option Nat} {n : Nat} {Q : Exit → Act → World → Prop}
abbrev wideAt (r:Option Nat):Fence:={ zq with round:=r }
end
theorem dW {P:Aa} {m l:Nat} {args:Array zr} {W:zk} {R:Ending→zk→Prop} (h:YieldAt zq m P l args W R) :
 ∃ fn tmps assign body,(Instr.yield l args).run P W=.ok (.round l fn tmps assign body) W∧∀ (r:Option Nat) (m':Nat),RoundIn (wideAt r) m' P l fn tmps assign body W R:=by
 obtain ⟨fn,tmps,assign,body,h1,h2⟩:=h;exact ⟨fn,tmps,assign,body,h1,fun r m'=>⟨h2.1,fun c cs _=>h2.2 c cs (by intro d e;cases e)⟩⟩
structure Kq (T:zu→Prop) (lo B:Nat) (W W':zk):Prop where
 size:W.heap.size≤W'
 mid:∀ (b:Nat),b<lo→W'.heap[b]? = W.heap[b]?
 far:∀ (b:Nat) (o:Obj),B≤b→W.heap[b]? = some o→(∀ cs t z,o=.cells cs t z→¬ T t)→W'.heap[b]? = some o
section
variable {T : TypeId → Prop} {B B' lo : Nat} {X Y Z W W' : World}
theorem Kq.refl (T:zu→Prop) (lo B:Nat) (W:zk):Kq T lo B W W:=⟨zm _,fun _ _=>rfl,fun _ _ _ h _=>h⟩
theorem Kq.trans (h:Kq T lo B X Y) (k:Kq T lo B Y Z):Kq T lo B X Z:=⟨zx h.size k.size,fun b h1=>(k.mid b h1).trans (h.mid b h1),fun b o hb ho ht=>k.far b o hb (h.far b o hb ho ht) ht⟩
theorem Kq.later (h:Kq T lo B X Y) (hB:B≤B'):Kq T lo B' X Y:=⟨h.size,h.mid,fun b o hb=>h.far b o (zx hB hb)⟩
theorem Kq.of_below (h:Below X X Y) (hl:lo≤X):Kq T lo B X Y:=⟨h.size,fun b hb=>h.block b lg,fun b o _ hb _=>(h.block b (zw.1 hb).1).trans hb⟩
theorem Kq.alloc (h:Kq T lo B X Y) (hl:lo≤Y) (o:Obj):Kq T lo B X (Y.alloc o):=h.trans (.of_below ((zy _ Y).alloc (zm _) o) hl)
theorem Kq.put (h:Kq T lo B X Y) {l:Nat} (hl:lo≤l) (hB:l<B) (o':Obj):Kq T lo B X (Y.putObj l o'):=
 h.trans ⟨li,fun b hb=>zp lg,fun b o hb ho _=>by rw [zp lg];exact ho⟩
theorem Kq.set (h:Kq T lo B X Y) {b:Nat} (hB:b<B) (hb:lo≤b) (u:zr):Kq T lo B X (Y.setCell ⟨b,0,none⟩ u):=
 h.trans ⟨by rw [World.size_setCell];exact zm _,fun k h1=>Ak _ _ _ k (by show k≠b;omega),fun k o hk ho _=>by rw [Ak _ _ _ k (by show k≠b;omega)];exact ho⟩
theorem Kq.keeps (h:Kq T lo B W W'):KeepsFrom B W W':=⟨h.size,fun k o hk ho hc=>h.far k o hk ho (fun cs t z e=>by subst e;cases hc)⟩
end
section
variable {P : Program}
def Hoes (P:Aa) (T:zu→Prop) (lo:Nat) (gf:Nat) (lb:Array zr) {σ X:Type} (encs:X→Array zr) (Y:σ→X→σ→Prop) (s0 s1:σ) (w:zk):Prop:=
 ∀ (n l:Nat) (J:σ→zk→Prop) (Jx:zk→Prop) (W:zk),Below w w W→l<W →
  (∀ s A B,J s A→W.heap.size≤A.heap.size→ng T W A B→J s B)→(∀ A B,Jx A→W.heap.size≤A.heap.size→ng T W A B→Jx B) →
  (∀ s x s' A,Y s x s'→W.heap.size≤A.heap.size→J s A→YieldAt zq (n - 1) P l (encs x) A fun e B=>(e=.returned (.bool true)∧J s' B∧Kq T lo W A B)∨(e=.returned (.bool false)∧Jx B∧Kq T lo W A B)) →
  J s0 W →
  CallsIn zq n P gf (#[.func (.yield l) #[] #[]]++lb) W fun e B=>(∃ v,e=.returned v)∧(J s1 B∨Jx B)
def yv (T:zu→Prop) (lo B:Nat) (J:zk→Prop) (Ix:zt→zk→Prop) (W:zk):Exit→zo→zk→Prop
 | .normal,_,W'=>Kq T lo B W W'∧J W'
 | .ret,_,W'=>Kq T lo B W W'∧Ix .ret W'
 | .exit id,_,W'=>Kq T lo B W W'∧Ix (.exit id) W'
 | .goto t,_,W'=>Kq T lo B W W'∧Ix (.goto t) W'
 | .panic _,_,_=>False
 | .outgrown,_,_=>False
theorem QX {T:zu→Prop} {lo:Nat} {σ X:Type} {g:Operand} {ps:Array Tmp} {assign body:zt} {Q:Exit→zo→zk→Prop} {a:zo} 
 {gf:Nat} {lb:Array zr} (hg:a.eval g=.func (.func gf) #[] lb) (eg:∀ args w,(callFunc gf args).run P w=.ok (.enter gf args) w)
 {encs:X→Array zr} {Y:σ→X→σ→Prop} {s0 s1:σ} {w0:zk} (hseq:Hoes P T lo gf lb encs Y s0 s1 w0)
 (hb0:Below w0 w0 w) (hlo:lo≤w0) (hps:∀ x,(encs x).size=ps.size)
 (J:σ→zk→Prop) (Ix:zt→zk→Prop) (hJ:∀ s A B,J s A→w.heap.size≤A.heap.size→ng T w.heap.size A B→J s B) (hIx:∀ c A B,Ix c A→w.heap.size≤A.heap.size→ng T w A B→Ix c B) (h0:J s0 w)
 (a₁:X→zo)
 (hassign:∀ (l:Nat) (x:X) (W:zk) (K:zo→zk→Prop),K (a₁ x) W →
  assign.wpIn (zq.inRound l) (n - 1 - 1) P (Exit.then K (fun _ _ _=>False)) { tmps:=(ps.zip (encs x)).foldl (fun t (p,v)=>t.setIfInBounds p v) a.tmps,defers:=[] } W)
 (hbody:∀ (l:Nat) (s:σ) (x:X) (s':σ) (W:zk),w.heap.size≤W→Y s x s'→J s W→body.wpIn (zq.inRound l) (n - 1 - 1) P (yv T lo w (J s') Ix W) (a₁ x) W)
 (hdone:∀ (D':Nat) (W:zk),w≤D'→w.heap.size≤W→J s1 W→W.heap[D']? = some (.deferred (some []))→Q .normal { a with defers:={ target:=.collected D',args:=#[] }::a.defers } W)
 (hstop:∀ (D':Nat) (c:zt) (W:zk),w≤D'→w.heap.size≤W→Ix c W→W.heap[D']? = some (.deferred (some []))→c.wpIn zq n P Q { a with defers:={ target:=.collected D',args:=#[] }::a.defers } W) :
 (Code.rangeFunc g ps assign body).wpIn zq n P Q a w:=by
 refine An ?_;intro fn hfn;have aq:=hb0.size;obtain ⟨rec,hrec⟩:∃ rec:LoopState→Option zt→Loop,rec=fun st pe=>{ state:=st,pending:=pe,fn,tmps:=a.tmps,params:=ps,assign,body,defers:=w.heap.size }:=⟨_,rfl⟩;obtain ⟨W1,ah⟩:∃ W1,(w.alloc (.deferred (some []))).alloc (.loop (rec .ready none))=W1:=⟨_,rfl⟩;have ar:W1.heap.size=w+2:=by rw [← ah];simp
 have ai:W1.heap[w.heap.size+1]? = some (.loop (rec .ready none)):=by
  rw [← ah];have:=zz (w.alloc (.deferred (some []))) (.loop (rec .ready none));rwa [Ao] at this
 have aj:W1.heap[w.heap.size]? = some (.deferred (some [])):=by
  rw [← ah];exact (Ae _ _ _ li).trans (zz w _)
 have ak:J s0 W1:=by rw [← ah];exact hJ _ _ _ h0 (zm _) (((ng.refl T _ w).alloc (zm _) _).alloc li _)
 have al:Below w0 w0 W1:=by
  rw [← ah];exact hb0.trans ((((zy _ w).alloc (zm _) _).alloc li _).mono hb0.size)
 refine ⟨w+1,[{ target:=.collected w,args:=#[] }],W1,{ target:=.fn (.func gf) lb,args:=#[.func (.yield (w+1)) #[] #[]] },W1,gf,
  #[.func (.yield (w+1)) #[] #[]]++lb,W1,?_,?_,?_,?_,fun e=>(by cases e),?_⟩
 ·rw [← ah,hrec];exact Ap _ _ _ _ _
 ·simp only [resolve,hg];simp [go_sem]
 ·intro f' _;trivial
 ·simp [invoke,go_sem,eg]
 ·refine (hseq (n - 1) (w+1)
   (fun s W=>(J s W∧w.heap.size≤W)∧W.heap[w.heap.size+1]? = some (.loop (rec .ready none))∧W.heap[w.heap.size]? = some (.deferred (some [])))
   (fun W=>∃ c,(Ix c W∧w.heap.size≤W)∧W.heap[w.heap.size+1]? = some (.loop (rec .done (some c)))∧W.heap[w.heap.size]? = some (.deferred (some [])))
   W1 al lg
   (fun s A B hs hA hT=>⟨⟨hJ s A B hs.1.1 lg (hT.mono lg),zx hs.1.2 hT.bel.size⟩,hT.low hs.2.1 lg,hT.low hs.2.2 lg⟩)
   (fun A B hs hA hT=>by obtain ⟨c,h1,h2,h3⟩:=hs;exact ⟨c,⟨hIx c A B h1.1 lg (hT.mono lg),zx h1.2 hT.bel.size⟩,hT.low h2 lg,hT.low h3 lg⟩)
   ?_ ⟨⟨ak,lg⟩,ai,aj⟩).mono ?_
  ·rintro s x s' W hy' hWs ⟨⟨hi,hsz⟩,hl,hk⟩;have hlt:w.heap.size+1<W:=(zw.1 hl).1;have hy:=run_yield (P:=P) (args:=encs x) hl (by rw [hrec];exact hps x);rw [hrec] at hy;refine ⟨fn,_,assign,body,hy,Aq hfn (hassign _ x W _ ⟨_,Ar hl (by rw [hrec]),?_⟩)⟩;have am:(W.putObj (w+1) (.loop { rec .ready none with state:=.busy })).heap[w.heap.size+1]? = some (.loop { rec .ready none with state:=.busy }):=Af hlt;have an:(W.putObj (w+1) (.loop { rec .ready none with state:=.busy })).heap[w.heap.size]? = some (.deferred (some [])):=(zp lg).trans hk;have ao:Kq T lo W1 W (W.putObj (w+1) (.loop { rec .ready none with state:=.busy })):=(Kq.refl _ _ _ _).put lg lg _;refine wpIn_mono (hbody _ s x s' _ (by rw [zn];omega) hy' (hJ _ _ _ hi lg ((ng.refl T _ W).put hl lg rfl _))) ?_;have fin:∀ (jump:Option zt) (W3:zk),Kq T lo w (W.putObj (w+1) (.loop { rec .ready none with state:=.busy })) W3 →
    (Instr.endRound (w+1) jump).run P W3=.ok (.bool jump.isNone) (W3.putObj (w+1) (.loop (rec (if jump.isNone then .ready else .done) jump))) ∧
    W3.heap[w.heap.size+1]? = some (.loop { rec .ready none with state:=.busy }) ∧
    (W3.putObj (w+1) (.loop (rec (if jump.isNone then .ready else .done) jump))).heap[w.heap.size+1]? = some (.loop (rec (if jump.isNone then .ready else .done) jump)) ∧
    (W3.putObj (w+1) (.loop (rec (if jump.isNone then .ready else .done) jump))).heap[w.heap.size]? = some (.deferred (some [])) ∧
    Kq T lo W1 W (W3.putObj (w+1) (.loop (rec (if jump.isNone then .ready else .done) jump)))∧w.heap.size≤W3:=fun jump W3 aa=>by
    have ab:=aa.keeps.same _ _ lg am rfl;have:=Av (P:=P) jump ab;have hz:=aa.size;rw [zn] at hz;rw [hrec] at this ⊢;exact ⟨this,by rw [hrec] at ab;exact ab,Af (zw.1 ab).1,(zp lg).trans (aa.keeps.same _ _ (zm _) an rfl),
     ((ao.trans (aa.later lg)).put lg lg _),lg⟩
   rintro e a3 W3 hp;cases e with
   | normal =>
    obtain ⟨aa,ad⟩:=hp;obtain ⟨hr,ab,ae,af,ag,ac⟩:=fin none W3 aa;exact ⟨_,_,hr,.inl ⟨rfl,⟨⟨hJ _ _ _ ad ac ((ng.refl T _ W3).put ab lg rfl _),by rw [zn];exact ac⟩,ae,af⟩,ag⟩⟩
   | ret =>
    obtain ⟨aa,ad⟩:=hp;obtain ⟨hr,ab,ae,af,ag,ac⟩:=fin (some .ret) W3 aa;exact ⟨_,_,hr,.inr ⟨rfl,⟨.ret,⟨hIx _ _ _ ad ac ((ng.refl T _ W3).put ab lg rfl _),by rw [zn];exact ac⟩,ae,af⟩,ag⟩⟩
   | exit id =>
    obtain ⟨aa,ad⟩:=hp;obtain ⟨hr,ab,ae,af,ag,ac⟩:=fin (some (.exit id)) W3 aa;exact ⟨_,_,hr,.inr ⟨rfl,⟨.exit id,⟨hIx _ _ _ ad ac ((ng.refl T _ W3).put ab lg rfl _),by rw [zn];exact ac⟩,ae,af⟩,ag⟩⟩
   | goto t =>
    obtain ⟨aa,ad⟩:=hp;obtain ⟨hr,ab,ae,af,ag,ac⟩:=fin (some (.goto t)) W3 aa;exact ⟨_,_,hr,.inr ⟨rfl,⟨.goto t,⟨hIx _ _ _ ad ac ((ng.refl T _ W3).put ab lg rfl _),by rw [zn];exact ac⟩,ae,af⟩,ag⟩⟩
   | panic ch=>exact hp.elim
   | outgrown=>exact hp.elim
  ·rintro e W2 ⟨⟨v,rfl⟩,(⟨⟨hi,hz⟩,hl,hk⟩|⟨c,⟨hi,hz⟩,hl,hk⟩)⟩
   ·exact ⟨none,_,by have:=Ag (P:=P) hl (by rw [hrec];simp);rw [hrec] at this;exact this,hdone _ _ (zm _) (by rw [zn];exact hz) (hJ _ _ _ hi hz ((ng.refl T _ W2).put hl lg rfl _)) ((zp lg).trans hk)⟩
   ·exact ⟨some c,_,by have:=Ag (P:=P) hl (by rw [hrec];simp);rw [hrec] at this;exact this,hstop _ c _ (zm _) (by rw [zn];exact hz) (hIx _ _ _ hi hz ((ng.refl T _ W2).put hl lg rfl _)) ((zp lg).trans hk)⟩
theorem qJ {T:zu→Prop} {lo:Nat} {σ X:Type} {g:Operand} {ps:Array Tmp} {assign body:zt} {Q:Exit→zo→zk→Prop} {a:zo} 
 {gf:Nat} {lb:Array zr} (hg:a.eval g=.func (.func gf) #[] lb) (eg:∀ args w,(callFunc gf args).run P w=.ok (.enter gf args) w)
 {encs:X→Array zr} {Y:σ→X→σ→Prop} {s0 s1:σ} {w0:zk} (hseq:Hoes P T lo gf lb encs Y s0 s1 w0)
 (hb0:Below w0 w0 w) (hlo:lo≤w0) (hps:∀ x,(encs x).size=ps.size)
 (J:σ→zk→Prop) (Ix:zt→zk→Prop) (hJ:∀ s A B,J s A→w.heap.size≤A.heap.size→ng T w.heap.size A B→J s B) (hIx:∀ c A B,Ix c A→w.heap.size≤A.heap.size→ng T w A B→Ix c B) (h0:J s0 w)
 (a₁:X→Nat→zo) (ob:X→Obj)
 (hassign:∀ (l:Nat) (x:X) (W:zk) (K:zo→zk→Prop),K (a₁ x W) (W.alloc (ob x)) →
  assign.wpIn (zq.inRound l) (n - 1 - 1) P (Exit.then K (fun _ _ _=>False)) { tmps:=(ps.zip (encs x)).foldl (fun t (p,v)=>t.setIfInBounds p v) a.tmps,defers:=[] } W)
 (hbody:∀ (l:Nat) (s:σ) (x:X) (s':σ) (b:Nat) (W:zk),w≤b→W.heap[b]? = some (ob x)→Y s x s'→J s W→body.wpIn (zq.inRound l) (n - 1 - 1) P (yv T lo w (J s') Ix W) (a₁ x b) W)
 (hdone:∀ (D':Nat) (W:zk),w≤D'→w.heap.size≤W→J s1 W→W.heap[D']? = some (.deferred (some []))→Q .normal { a with defers:={ target:=.collected D',args:=#[] }::a.defers } W)
 (hstop:∀ (D':Nat) (c:zt) (W:zk),w≤D'→w.heap.size≤W→Ix c W→W.heap[D']? = some (.deferred (some []))→c.wpIn zq n P Q { a with defers:={ target:=.collected D',args:=#[] }::a.defers } W) :
 (Code.rangeFunc g ps assign body).wpIn zq n P Q a w:=by
 refine An ?_;intro fn hfn;have aq:=hb0.size;obtain ⟨rec,hrec⟩:∃ rec:LoopState→Option zt→Loop,rec=fun st pe=>{ state:=st,pending:=pe,fn,tmps:=a.tmps,params:=ps,assign,body,defers:=w.heap.size }:=⟨_,rfl⟩;obtain ⟨W1,ah⟩:∃ W1,(w.alloc (.deferred (some []))).alloc (.loop (rec .ready none))=W1:=⟨_,rfl⟩;have ar:W1.heap.size=w+2:=by rw [← ah];simp
 have ai:W1.heap[w.heap.size+1]? = some (.loop (rec .ready none)):=by
  rw [← ah];have:=zz (w.alloc (.deferred (some []))) (.loop (rec .ready none));rwa [Ao] at this
 have aj:W1.heap[w.heap.size]? = some (.deferred (some [])):=by
  rw [← ah];exact (Ae _ _ _ li).trans (zz w _)
 have ak:J s0 W1:=by rw [← ah];exact hJ _ _ _ h0 (zm _) (((ng.refl T _ w).alloc (zm _) _).alloc li _)
 have al:Below w0 w0 W1:=by
  rw [← ah];exact hb0.trans ((((zy _ w).alloc (zm _) _).alloc li _).mono hb0.size)
 refine ⟨w+1,[{ target:=.collected w,args:=#[] }],W1,{ target:=.fn (.func gf) lb,args:=#[.func (.yield (w+1)) #[] #[]] },W1,gf,
  #[.func (.yield (w+1)) #[] #[]]++lb,W1,?_,?_,?_,?_,fun e=>(by cases e),?_⟩
 ·rw [← ah,hrec];exact Ap _ _ _ _ _
 ·simp only [resolve,hg];simp [go_sem]
 ·intro f' _;trivial
 ·simp [invoke,go_sem,eg]
 ·refine (hseq (n - 1) (w+1)
   (fun s W=>(J s W∧w.heap.size≤W)∧W.heap[w.heap.size+1]? = some (.loop (rec .ready none))∧W.heap[w.heap.size]? = some (.deferred (some [])))
   (fun W=>∃ c,(Ix c W∧w.heap.size≤W)∧W.heap[w.heap.size+1]? = some (.loop (rec .done (some c)))∧W.heap[w.heap.size]? = some (.deferred (some [])))
   W1 al lg
   (fun s A B hs hA hT=>⟨⟨hJ s A B hs.1.1 lg (hT.mono lg),zx hs.1.2 hT.bel.size⟩,hT.low hs.2.1 lg,hT.low hs.2.2 lg⟩)
   (fun A B hs hA hT=>by obtain ⟨c,h1,h2,h3⟩:=hs;exact ⟨c,⟨hIx c A B h1.1 lg (hT.mono lg),zx h1.2 hT.bel.size⟩,hT.low h2 lg,hT.low h3 lg⟩)
   ?_ ⟨⟨ak,lg⟩,ai,aj⟩).mono ?_
  ·rintro s x s' W hy' hWs ⟨⟨hi,hsz⟩,hl,hk⟩;have hlt:w.heap.size+1<W:=(zw.1 hl).1;have hy:=run_yield (P:=P) (args:=encs x) hl (by rw [hrec];exact hps x);rw [hrec] at hy;obtain ⟨A,hA⟩:∃ A,W.alloc (ob x)=A:=⟨_,rfl⟩;have hzA:A.heap.size=W+1:=by rw [← hA];simp
   have hlA:A.heap[w.heap.size+1]? = some (.loop (rec .ready none)):=by rw [← hA];exact (Ae _ _ _ hlt).trans hl
   have hkA:A.heap[w.heap.size]? = some (.deferred (some [])):=by rw [← hA];exact (Ae _ _ _ lg).trans hk
   have hoA:A.heap[W.heap.size]? = some (ob x):=by rw [← hA];exact zz W _
   have hjA:J s A:=by rw [← hA];exact hJ _ _ _ hi lg ((ng.refl T _ W).alloc lg _)
   have hqA:Kq T lo W1 W A:=by rw [← hA];exact (Kq.refl _ _ _ _).alloc lg _
   refine ⟨fn,_,assign,body,hy,Aq hfn (hassign _ x W _ ⟨_,Ar (by rw [hA];exact hlA) (by rw [hrec]),?_⟩)⟩;rw [hA];have am:(A.putObj (w+1) (.loop { rec .ready none with state:=.busy })).heap[w.heap.size+1]? = some (.loop { rec .ready none with state:=.busy }):=Af lg;have an:(A.putObj (w+1) (.loop { rec .ready none with state:=.busy })).heap[w.heap.size]? = some (.deferred (some [])):=(zp lg).trans hkA;have ao:Kq T lo W1 W (A.putObj (w+1) (.loop { rec .ready none with state:=.busy })):=hqA.put lg lg _;refine wpIn_mono (hbody _ s x s' W _ lg ((zp lg).trans hoA) hy' (hJ _ _ _ hjA lg ((ng.refl T _ A).put hlA lg rfl _))) ?_;have fin:∀ (jump:Option zt) (W3:zk),Kq T lo w (A.putObj (w+1) (.loop { rec .ready none with state:=.busy })) W3 →
    (Instr.endRound (w+1) jump).run P W3=.ok (.bool jump.isNone) (W3.putObj (w+1) (.loop (rec (if jump.isNone then .ready else .done) jump))) ∧
    W3.heap[w.heap.size+1]? = some (.loop { rec .ready none with state:=.busy }) ∧
    (W3.putObj (w+1) (.loop (rec (if jump.isNone then .ready else .done) jump))).heap[w.heap.size+1]? = some (.loop (rec (if jump.isNone then .ready else .done) jump)) ∧
    (W3.putObj (w+1) (.loop (rec (if jump.isNone then .ready else .done) jump))).heap[w.heap.size]? = some (.deferred (some [])) ∧
    Kq T lo W1 W (W3.putObj (w+1) (.loop (rec (if jump.isNone then .ready else .done) jump)))∧w.heap.size≤W3:=fun jump W3 aa=>by
    have ab:=aa.keeps.same _ _ lg am rfl;have:=Av (P:=P) jump ab;have hz:=aa.size;rw [zn] at hz;rw [hrec] at this ⊢;exact ⟨this,by rw [hrec] at ab;exact ab,Af (zw.1 ab).1,(zp lg).trans (aa.keeps.same _ _ (zm _) an rfl),
     ((ao.trans (aa.later lg)).put lg lg _),lg⟩
   rintro e a3 W3 hp;cases e with
   | normal =>
    obtain ⟨aa,ad⟩:=hp;obtain ⟨hr,ab,ae,af,ag,ac⟩:=fin none W3 aa;exact ⟨_,_,hr,.inl ⟨rfl,⟨⟨hJ _ _ _ ad ac ((ng.refl T _ W3).put ab lg rfl _),by rw [zn];exact ac⟩,ae,af⟩,ag⟩⟩
   | ret =>
    obtain ⟨aa,ad⟩:=hp;obtain ⟨hr,ab,ae,af,ag,ac⟩:=fin (some .ret) W3 aa;exact ⟨_,_,hr,.inr ⟨rfl,⟨.ret,⟨hIx _ _ _ ad ac ((ng.refl T _ W3).put ab lg rfl _),by rw [zn];exact ac⟩,ae,af⟩,ag⟩⟩
   | exit id =>
    obtain ⟨aa,ad⟩:=hp;obtain ⟨hr,ab,ae,af,ag,ac⟩:=fin (some (.exit id)) W3 aa;exact ⟨_,_,hr,.inr ⟨rfl,⟨.exit id,⟨hIx _ _ _ ad ac ((ng.refl T _ W3).put ab lg rfl _),by rw [zn];exact ac⟩,ae,af⟩,ag⟩⟩
   | goto t =>
    obtain ⟨aa,ad⟩:=hp;obtain ⟨hr,ab,ae,af,ag,ac⟩:=fin (some (.goto t)) W3 aa;exact ⟨_,_,hr,.inr ⟨rfl,⟨.goto t,⟨hIx _ _ _ ad ac ((ng.refl T _ W3).put ab lg rfl _),by rw [zn];exact ac⟩,ae,af⟩,ag⟩⟩
   | panic ch=>exact hp.elim
   | outgrown=>exact hp.elim
  ·rintro e W2 ⟨⟨v,rfl⟩,(⟨⟨hi,hz⟩,hl,hk⟩|⟨c,⟨hi,hz⟩,hl,hk⟩)⟩
   ·exact ⟨none,_,by have:=Ag (P:=P) hl (by rw [hrec];simp);rw [hrec] at this;exact this,hdone _ _ (zm _) (by rw [zn];exact hz) (hJ _ _ _ hi hz ((ng.refl T _ W2).put hl lg rfl _)) ((zp lg).trans hk)⟩
   ·exact ⟨some c,_,by have:=Ag (P:=P) hl (by rw [hrec];simp);rw [hrec] at this;exact this,hstop _ c _ (zm _) (by rw [zn];exact hz) (hIx _ _ _ hi hz ((ng.refl T _ W2).put hl lg rfl _)) ((zp lg).trans hk)⟩
end
end Go.Proofs.YtbagenpobcgjnaaGreat
