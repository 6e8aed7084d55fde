/-
  Joined: Round, Goes, Hoes.
-/
import Derived.RangeFuncBox
import Derived.RangeFuncLeaves
import Derived.RangeFuncNested
import Derived.Shelf.Abstract
import Derived.Deep.Quiet
import Derived.StillTail
import Derived.TacticsIn
import Derived.OrdersIn
namespace Go.Proofs.YtbagenpobcgjnaaGreat
open Go.RowKit
section
variable {P : Program} {l n : Nat} {Q : Exit → Act → World → Prop}
end
section
variable {P : Program}
end
set_option linter.unusedVariables false
structure Turns (T:TypeId→Prop) (B:Nat) (W W':World):Prop where
 bel:Below B W W'
 far:∀ (b:Nat) (cs:Array Value) (t:TypeId) (z:Nat×Nat),W.heap[b]? = some (.cells cs t z)→T t→W'.heap[b]? = some (.cells cs t z)
section
variable {T : TypeId → Prop} {B B' lo hi : Nat} {X Y Z W W' : World}
theorem Turns.refl (T:TypeId→Prop) (B:Nat) (W:World):Turns T B W W:=⟨Below.refl _ _,fun _ _ _ _ h _=>h⟩
theorem Turns.trans (h:Turns T B X Y) (k:Turns T B Y Z):Turns T B X Z:=⟨h.bel.trans k.bel,fun b cs t z hb ht=>k.far b cs t z (h.far b cs t z hb ht) ht⟩
theorem Turns.mono (h:Turns T B X Y) (hB:B'≤B):Turns T B' X Y:=⟨h.bel.mono hB,h.far⟩
theorem Turns.of_below (h:Below X.heap.size X Y) (hB:B≤X.heap.size):Turns T B X Y:=⟨h.mono hB,fun b cs t z hb _=>(h.block b (Array.getElem?_eq_some_iff.1 hb).1).trans hb⟩
theorem Turns.alloc (h:Turns T B X Y) (hB:B≤Y.heap.size) (o:Obj):Turns T B X (Y.alloc o):=h.trans (.of_below ((Below.refl _ Y).alloc (Nat.le_refl _) o) hB)
theorem Turns.put (h:Turns T B X Y) {l:Nat} {o:Obj} (hl:Y.heap[l]? = some o) (hB:B≤l) (ho:o.isCells=false) (o':Obj):Turns T B X (Y.putObj l o'):=
 h.trans ⟨⟨rfl,rfl,rfl,by simp,fun k hk=>World.putObj_heap_other (by omega)⟩,fun b cs t z hb _=>by
  by_cases e:b=l
  ·subst e;rw [hl] at hb;cases hb;cases ho
  ·rw [World.putObj_heap_other e];exact hb⟩
theorem Turns.box (h:Turns T B W W') {b:Nat} {t:TypeId} {v:Value} (hb:Boxed W b t v) (hB:b<B):Boxed W' b t v:=(h.bel.block b hB).trans hb
theorem Turns.low (h:Turns T B W W') {b:Nat} {o:Obj} (hb:W.heap[b]? = some o) (hB:b<B):W'.heap[b]? = some o:=(h.bel.block b hB).trans hb
end
section
variable {P : Program}
end
section
variable {P : Program} {r : Option Nat} {n : Nat} {Q : Exit → Act → World → Prop}
abbrev wideAt (r:Option Nat):Fence:={ Fence.wide with round:=r }
end
theorem dD {P:Program} {m l:Nat} {args:Array Value} {W:World} {R:Ending→World→Prop} (h:YieldAt Fence.wide m P l args W R) :
 ∃ fn tmps assign body,(Instr.yield l args).run P W=.ok (.round l fn tmps assign body) W∧∀ (r:Option Nat) (m':Nat),RoundIn (wideAt r) m' P l fn tmps assign body W R:=by
 obtain ⟨fn,tmps,assign,body,h1,h2⟩:=h
 exact ⟨fn,tmps,assign,body,h1,fun r m'=>⟨h2.1,fun c cs _=>h2.2 c cs (by intro d e;cases e)⟩⟩
structure Kq (T:TypeId→Prop) (lo B:Nat) (W W':World):Prop where
 size:W.heap.size≤W'.heap.size
 mid:∀ (b:Nat),b<lo→W'.heap[b]? = W.heap[b]?
 far:∀ (b:Nat) (o:Obj),B≤b→W.heap[b]? = some o→(∀ cs t z,o=.cells cs t z→¬ T t)→W'.heap[b]? = some o
section
variable {T : TypeId → Prop} {B B' lo : Nat} {X Y Z W W' : World}
theorem Kq.refl (T:TypeId→Prop) (lo B:Nat) (W:World):Kq T lo B W W:=⟨Nat.le_refl _,fun _ _=>rfl,fun _ _ _ h _=>h⟩
theorem Kq.trans (h:Kq T lo B X Y) (k:Kq T lo B Y Z):Kq T lo B X Z:=⟨Nat.le_trans h.size k.size,fun b h1=>(k.mid b h1).trans (h.mid b h1),fun b o hb ho ht=>k.far b o hb (h.far b o hb ho ht) ht⟩
theorem Kq.later (h:Kq T lo B X Y) (hB:B≤B'):Kq T lo B' X Y:=⟨h.size,h.mid,fun b o hb=>h.far b o (Nat.le_trans hB hb)⟩
theorem Kq.of_below (h:Below X.heap.size X Y) (hl:lo≤X.heap.size):Kq T lo B X Y:=⟨h.size,fun b hb=>h.block b (by omega),fun b o _ hb _=>(h.block b (Array.getElem?_eq_some_iff.1 hb).1).trans hb⟩
theorem Kq.alloc (h:Kq T lo B X Y) (hl:lo≤Y.heap.size) (o:Obj):Kq T lo B X (Y.alloc o):=h.trans (.of_below ((Below.refl _ Y).alloc (Nat.le_refl _) o) hl)
theorem Kq.put (h:Kq T lo B X Y) {l:Nat} (hl:lo≤l) (hB:l<B) (o':Obj):Kq T lo B X (Y.putObj l o'):=
 h.trans ⟨by simp,fun b hb=>World.putObj_heap_other (by omega),fun b o hb ho _=>by rw [World.putObj_heap_other (by omega)];exact ho⟩
theorem Kq.set (h:Kq T lo B X Y) {b:Nat} (hB:b<B) (hb:lo≤b) (u:Value):Kq T lo B X (Y.setCell ⟨b,0,none⟩ u):=
 h.trans ⟨by rw [World.size_setCell];exact Nat.le_refl _,fun k h1=>Below.heap_setCell _ _ _ k (by show k≠b;omega),fun k o hk ho _=>by rw [Below.heap_setCell _ _ _ k (by show k≠b;omega)];exact ho⟩
theorem Kq.keeps (h:Kq T lo B W W'):KeepsFrom B W W':=⟨h.size,fun k o hk ho hc=>h.far k o hk ho (fun cs t z e=>by subst e;cases hc)⟩
end
section
variable {P : Program}
def Hoes (P:Program) (T:TypeId→Prop) (lo:Nat) (gf:Nat) (lb:Array Value) {σ X:Type} (encs:X→Array Value) (Y:σ→X→σ→Prop) (s0 s1:σ) (w:World):Prop:=
 ∀ (n l:Nat) (J:σ→World→Prop) (Jx:World→Prop) (W:World),Below w.heap.size w W→l<W.heap.size →
  (∀ s A B,J s A→W.heap.size≤A.heap.size→Turns T W.heap.size A B→J s B)→(∀ A B,Jx A→W.heap.size≤A.heap.size→Turns T W.heap.size A B→Jx B) →
  (∀ s x s' A,Y s x s'→W.heap.size≤A.heap.size→J s A→YieldAt Fence.wide (n - 1) P l (encs x) A fun e B=>(e=.returned (.bool true)∧J s' B∧Kq T lo W.heap.size A B)∨(e=.returned (.bool false)∧Jx B∧Kq T lo W.heap.size A B)) →
  J s0 W →
  CallsIn Fence.wide n P gf (#[.func (.yield l) #[] #[]]++lb) W fun e B=>(∃ v,e=.returned v)∧(J s1 B∨Jx B)
def hoesEnd (T:TypeId→Prop) (lo B:Nat) (J:World→Prop) (Ix:Code→World→Prop) (W:World):Exit→Act→World→Prop
 | .normal,_,W'=>Kq T lo B W W'∧J W'
 | .ret,_,W'=>Kq T lo B W W'∧Ix .ret W'
 | .exit id,_,W'=>Kq T lo B W W'∧Ix (.exit id) W'
 | .goto t,_,W'=>Kq T lo B W W'∧Ix (.goto t) W'
 | .panic _,_,_=>False
 | .outgrown,_,_=>False
theorem NZ {n:Nat} {T:TypeId→Prop} {lo:Nat} {σ X:Type} {g:Operand} {ps:Array Tmp} {assign body:Code} {Q:Exit→Act→World→Prop} {a:Act} {w:World}
 {gf:Nat} {lb:Array Value} (hg:a.eval g=.func (.func gf) #[] lb) (eg:∀ args w,(callFunc gf args).run P w=.ok (.enter gf args) w)
 {encs:X→Array Value} {Y:σ→X→σ→Prop} {s0 s1:σ} {w0:World} (hseq:Hoes P T lo gf lb encs Y s0 s1 w0)
 (hb0:Below w0.heap.size w0 w) (hlo:lo≤w0.heap.size) (hps:∀ x,(encs x).size=ps.size)
 (J:σ→World→Prop) (Ix:Code→World→Prop) (hJ:∀ s A B,J s A→w.heap.size≤A.heap.size→Turns T w.heap.size A B→J s B) (hIx:∀ c A B,Ix c A→w.heap.size≤A.heap.size→Turns T w.heap.size A B→Ix c B) (h0:J s0 w)
 (a₁:X→Act)
 (hassign:∀ (l:Nat) (x:X) (W:World) (K:Act→World→Prop),K (a₁ x) W →
  assign.wpIn (Fence.wide.inRound l) (n - 1 - 1) P (Exit.then K (fun _ _ _=>False)) { tmps:=(ps.zip (encs x)).foldl (fun t (p,v)=>t.setIfInBounds p v) a.tmps,defers:=[] } W)
 (hbody:∀ (l:Nat) (s:σ) (x:X) (s':σ) (W:World),w.heap.size≤W.heap.size→Y s x s'→J s W→body.wpIn (Fence.wide.inRound l) (n - 1 - 1) P (hoesEnd T lo w.heap.size (J s') Ix W) (a₁ x) W)
 (hdone:∀ (D':Nat) (W:World),w.heap.size≤D'→w.heap.size≤W.heap.size→J s1 W→W.heap[D']? = some (.deferred (some []))→Q .normal { a with defers:={ target:=.collected D',args:=#[] }::a.defers } W)
 (hstop:∀ (D':Nat) (c:Code) (W:World),w.heap.size≤D'→w.heap.size≤W.heap.size→Ix c W→W.heap[D']? = some (.deferred (some []))→c.wpIn Fence.wide n P Q { a with defers:={ target:=.collected D',args:=#[] }::a.defers } W) :
 (Code.rangeFunc g ps assign body).wpIn Fence.wide n P Q a w:=by
 refine wpIn_rangeFunc ?_
 intro fn hfn
 have aq:=hb0.size
 obtain ⟨rec,hrec⟩:∃ rec:LoopState→Option Code→Loop,rec=fun st pe=>{ state:=st,pending:=pe,fn,tmps:=a.tmps,params:=ps,assign,body,defers:=w.heap.size }:=⟨_,rfl⟩
 obtain ⟨W1,ah⟩:∃ W1,(w.alloc (.deferred (some []))).alloc (.loop (rec .ready none))=W1:=⟨_,rfl⟩
 have ar:W1.heap.size=w.heap.size+2:=by rw [← ah];simp
 have ai:W1.heap[w.heap.size+1]? = some (.loop (rec .ready none)):=by
  rw [← ah];have:=World.alloc_heap_new (w.alloc (.deferred (some []))) (.loop (rec .ready none));rwa [World.size_alloc] at this
 have aj:W1.heap[w.heap.size]? = some (.deferred (some [])):=by
  rw [← ah];exact (Below.heap_alloc _ _ _ (by simp)).trans (World.alloc_heap_new w _)
 have ak:J s0 W1:=by rw [← ah];exact hJ _ _ _ h0 (Nat.le_refl _) (((Turns.refl T _ w).alloc (Nat.le_refl _) _).alloc (by simp) _)
 have al:Below w0.heap.size w0 W1:=by
  rw [← ah];exact hb0.trans ((((Below.refl _ w).alloc (Nat.le_refl _) _).alloc (by simp) _).mono hb0.size)
 refine ⟨w.heap.size+1,[{ target:=.collected w.heap.size,args:=#[] }],W1,{ target:=.fn (.func gf) lb,args:=#[.func (.yield (w.heap.size+1)) #[] #[]] },W1,gf,
  #[.func (.yield (w.heap.size+1)) #[] #[]]++lb,W1,?_,?_,?_,?_,fun e=>(by cases e),?_⟩
 ·rw [← ah,hrec];exact run_enterLoop_outer _ _ _ _ _
 ·simp only [resolve,hg]
  simp [go_sem]
 ·intro f' _;trivial
 ·simp [invoke,go_sem,eg]
 ·refine (hseq (n - 1) (w.heap.size+1)
   (fun s W=>(J s W∧w.heap.size≤W.heap.size)∧W.heap[w.heap.size+1]? = some (.loop (rec .ready none))∧W.heap[w.heap.size]? = some (.deferred (some [])))
   (fun W=>∃ c,(Ix c W∧w.heap.size≤W.heap.size)∧W.heap[w.heap.size+1]? = some (.loop (rec .done (some c)))∧W.heap[w.heap.size]? = some (.deferred (some [])))
   W1 al (by omega)
   (fun s A B hs hA hT=>⟨⟨hJ s A B hs.1.1 (by omega) (hT.mono (by omega)),Nat.le_trans hs.1.2 hT.bel.size⟩,hT.low hs.2.1 (by omega),hT.low hs.2.2 (by omega)⟩)
   (fun A B hs hA hT=>by obtain ⟨c,h1,h2,h3⟩:=hs;exact ⟨c,⟨hIx c A B h1.1 (by omega) (hT.mono (by omega)),Nat.le_trans h1.2 hT.bel.size⟩,hT.low h2 (by omega),hT.low h3 (by omega)⟩)
   ?_ ⟨⟨ak,by omega⟩,ai,aj⟩).mono ?_
  ·rintro s x s' W hy' hWs ⟨⟨hi,hsz⟩,hl,hk⟩
   have hlt:w.heap.size+1<W.heap.size:=(Array.getElem?_eq_some_iff.1 hl).1
   have hy:=run_yield (P:=P) (args:=encs x) hl (by rw [hrec];exact hps x)
   rw [hrec] at hy
   refine ⟨fn,_,assign,body,hy,roundIn_of_wpIn hfn (hassign _ x W _ ⟨_,run_beginRound hl (by rw [hrec]),?_⟩)⟩
   have am:(W.putObj (w.heap.size+1) (.loop { rec .ready none with state:=.busy })).heap[w.heap.size+1]? = some (.loop { rec .ready none with state:=.busy }):=World.putObj_heap_same hlt
   have an:(W.putObj (w.heap.size+1) (.loop { rec .ready none with state:=.busy })).heap[w.heap.size]? = some (.deferred (some [])):=(World.putObj_heap_other (by omega)).trans hk
   have ao:Kq T lo W1.heap.size W (W.putObj (w.heap.size+1) (.loop { rec .ready none with state:=.busy })):=(Kq.refl _ _ _ _).put (by omega) (by omega) _
   refine wpIn_mono (hbody _ s x s' _ (by rw [World.putObj_size];omega) hy' (hJ _ _ _ hi (by omega) ((Turns.refl T _ W).put hl (by omega) rfl _))) ?_
   have fin:∀ (jump:Option Code) (W3:World),Kq T lo w.heap.size (W.putObj (w.heap.size+1) (.loop { rec .ready none with state:=.busy })) W3 →
    (Instr.endRound (w.heap.size+1) jump).run P W3=.ok (.bool jump.isNone) (W3.putObj (w.heap.size+1) (.loop (rec (if jump.isNone then .ready else .done) jump))) ∧
    W3.heap[w.heap.size+1]? = some (.loop { rec .ready none with state:=.busy }) ∧
    (W3.putObj (w.heap.size+1) (.loop (rec (if jump.isNone then .ready else .done) jump))).heap[w.heap.size+1]? = some (.loop (rec (if jump.isNone then .ready else .done) jump)) ∧
    (W3.putObj (w.heap.size+1) (.loop (rec (if jump.isNone then .ready else .done) jump))).heap[w.heap.size]? = some (.deferred (some [])) ∧
    Kq T lo W1.heap.size W (W3.putObj (w.heap.size+1) (.loop (rec (if jump.isNone then .ready else .done) jump)))∧w.heap.size≤W3.heap.size:=fun jump W3 aa=>by
    have ab:=aa.keeps.same _ _ (by omega) am rfl
    have:=run_endRound (P:=P) jump ab
    have hz:=aa.size
    rw [World.putObj_size] at hz
    rw [hrec] at this ⊢
    exact ⟨this,by rw [hrec] at ab;exact ab,World.putObj_heap_same (Array.getElem?_eq_some_iff.1 ab).1,(World.putObj_heap_other (by omega)).trans (aa.keeps.same _ _ (Nat.le_refl _) an rfl),
     ((ao.trans (aa.later (by omega))).put (by omega) (by omega) _),by omega⟩
   rintro e a3 W3 hp
   cases e with
   | normal =>
    obtain ⟨aa,ad⟩:=hp
    obtain ⟨hr,ab,ae,af,ag,ac⟩:=fin none W3 aa
    exact ⟨_,_,hr,.inl ⟨rfl,⟨⟨hJ _ _ _ ad ac ((Turns.refl T _ W3).put ab (by omega) rfl _),by rw [World.putObj_size];exact ac⟩,ae,af⟩,ag⟩⟩
   | ret =>
    obtain ⟨aa,ad⟩:=hp
    obtain ⟨hr,ab,ae,af,ag,ac⟩:=fin (some .ret) W3 aa
    exact ⟨_,_,hr,.inr ⟨rfl,⟨.ret,⟨hIx _ _ _ ad ac ((Turns.refl T _ W3).put ab (by omega) rfl _),by rw [World.putObj_size];exact ac⟩,ae,af⟩,ag⟩⟩
   | exit id =>
    obtain ⟨aa,ad⟩:=hp
    obtain ⟨hr,ab,ae,af,ag,ac⟩:=fin (some (.exit id)) W3 aa
    exact ⟨_,_,hr,.inr ⟨rfl,⟨.exit id,⟨hIx _ _ _ ad ac ((Turns.refl T _ W3).put ab (by omega) rfl _),by rw [World.putObj_size];exact ac⟩,ae,af⟩,ag⟩⟩
   | goto t =>
    obtain ⟨aa,ad⟩:=hp
    obtain ⟨hr,ab,ae,af,ag,ac⟩:=fin (some (.goto t)) W3 aa
    exact ⟨_,_,hr,.inr ⟨rfl,⟨.goto t,⟨hIx _ _ _ ad ac ((Turns.refl T _ W3).put ab (by omega) rfl _),by rw [World.putObj_size];exact ac⟩,ae,af⟩,ag⟩⟩
   | panic ch=>exact hp.elim
   | outgrown=>exact hp.elim
  ·rintro e W2 ⟨⟨v,rfl⟩,(⟨⟨hi,hz⟩,hl,hk⟩|⟨c,⟨hi,hz⟩,hl,hk⟩)⟩
   ·exact ⟨none,_,by have:=run_endLoop (P:=P) hl (by rw [hrec];simp);rw [hrec] at this;exact this,hdone _ _ (Nat.le_refl _) (by rw [World.putObj_size];exact hz) (hJ _ _ _ hi hz ((Turns.refl T _ W2).put hl (by omega) rfl _)) ((World.putObj_heap_other (by omega)).trans hk)⟩
   ·exact ⟨some c,_,by have:=run_endLoop (P:=P) hl (by rw [hrec];simp);rw [hrec] at this;exact this,hstop _ c _ (Nat.le_refl _) (by rw [World.putObj_size];exact hz) (hIx _ _ _ hi hz ((Turns.refl T _ W2).put hl (by omega) rfl _)) ((World.putObj_heap_other (by omega)).trans hk)⟩
theorem oB {n:Nat} {T:TypeId→Prop} {lo:Nat} {σ X:Type} {g:Operand} {ps:Array Tmp} {assign body:Code} {Q:Exit→Act→World→Prop} {a:Act} {w:World}
 {gf:Nat} {lb:Array Value} (hg:a.eval g=.func (.func gf) #[] lb) (eg:∀ args w,(callFunc gf args).run P w=.ok (.enter gf args) w)
 {encs:X→Array Value} {Y:σ→X→σ→Prop} {s0 s1:σ} {w0:World} (hseq:Hoes P T lo gf lb encs Y s0 s1 w0)
 (hb0:Below w0.heap.size w0 w) (hlo:lo≤w0.heap.size) (hps:∀ x,(encs x).size=ps.size)
 (J:σ→World→Prop) (Ix:Code→World→Prop) (hJ:∀ s A B,J s A→w.heap.size≤A.heap.size→Turns T w.heap.size A B→J s B) (hIx:∀ c A B,Ix c A→w.heap.size≤A.heap.size→Turns T w.heap.size A B→Ix c B) (h0:J s0 w)
 (a₁:X→Nat→Act) (ob:X→Obj)
 (hassign:∀ (l:Nat) (x:X) (W:World) (K:Act→World→Prop),K (a₁ x W.heap.size) (W.alloc (ob x)) →
  assign.wpIn (Fence.wide.inRound l) (n - 1 - 1) P (Exit.then K (fun _ _ _=>False)) { tmps:=(ps.zip (encs x)).foldl (fun t (p,v)=>t.setIfInBounds p v) a.tmps,defers:=[] } W)
 (hbody:∀ (l:Nat) (s:σ) (x:X) (s':σ) (b:Nat) (W:World),w.heap.size≤b→W.heap[b]? = some (ob x)→Y s x s'→J s W→body.wpIn (Fence.wide.inRound l) (n - 1 - 1) P (hoesEnd T lo w.heap.size (J s') Ix W) (a₁ x b) W)
 (hdone:∀ (D':Nat) (W:World),w.heap.size≤D'→w.heap.size≤W.heap.size→J s1 W→W.heap[D']? = some (.deferred (some []))→Q .normal { a with defers:={ target:=.collected D',args:=#[] }::a.defers } W)
 (hstop:∀ (D':Nat) (c:Code) (W:World),w.heap.size≤D'→w.heap.size≤W.heap.size→Ix c W→W.heap[D']? = some (.deferred (some []))→c.wpIn Fence.wide n P Q { a with defers:={ target:=.collected D',args:=#[] }::a.defers } W) :
 (Code.rangeFunc g ps assign body).wpIn Fence.wide n P Q a w:=by
 refine wpIn_rangeFunc ?_
 intro fn hfn
 have aq:=hb0.size
 obtain ⟨rec,hrec⟩:∃ rec:LoopState→Option Code→Loop,rec=fun st pe=>{ state:=st,pending:=pe,fn,tmps:=a.tmps,params:=ps,assign,body,defers:=w.heap.size }:=⟨_,rfl⟩
 obtain ⟨W1,ah⟩:∃ W1,(w.alloc (.deferred (some []))).alloc (.loop (rec .ready none))=W1:=⟨_,rfl⟩
 have ar:W1.heap.size=w.heap.size+2:=by rw [← ah];simp
 have ai:W1.heap[w.heap.size+1]? = some (.loop (rec .ready none)):=by
  rw [← ah];have:=World.alloc_heap_new (w.alloc (.deferred (some []))) (.loop (rec .ready none));rwa [World.size_alloc] at this
 have aj:W1.heap[w.heap.size]? = some (.deferred (some [])):=by
  rw [← ah];exact (Below.heap_alloc _ _ _ (by simp)).trans (World.alloc_heap_new w _)
 have ak:J s0 W1:=by rw [← ah];exact hJ _ _ _ h0 (Nat.le_refl _) (((Turns.refl T _ w).alloc (Nat.le_refl _) _).alloc (by simp) _)
 have al:Below w0.heap.size w0 W1:=by
  rw [← ah];exact hb0.trans ((((Below.refl _ w).alloc (Nat.le_refl _) _).alloc (by simp) _).mono hb0.size)
 refine ⟨w.heap.size+1,[{ target:=.collected w.heap.size,args:=#[] }],W1,{ target:=.fn (.func gf) lb,args:=#[.func (.yield (w.heap.size+1)) #[] #[]] },W1,gf,
  #[.func (.yield (w.heap.size+1)) #[] #[]]++lb,W1,?_,?_,?_,?_,fun e=>(by cases e),?_⟩
 ·rw [← ah,hrec];exact run_enterLoop_outer _ _ _ _ _
 ·simp only [resolve,hg]
  simp [go_sem]
 ·intro f' _;trivial
 ·simp [invoke,go_sem,eg]
 ·refine (hseq (n - 1) (w.heap.size+1)
   (fun s W=>(J s W∧w.heap.size≤W.heap.size)∧W.heap[w.heap.size+1]? = some (.loop (rec .ready none))∧W.heap[w.heap.size]? = some (.deferred (some [])))
   (fun W=>∃ c,(Ix c W∧w.heap.size≤W.heap.size)∧W.heap[w.heap.size+1]? = some (.loop (rec .done (some c)))∧W.heap[w.heap.size]? = some (.deferred (some [])))
   W1 al (by omega)
   (fun s A B hs hA hT=>⟨⟨hJ s A B hs.1.1 (by omega) (hT.mono (by omega)),Nat.le_trans hs.1.2 hT.bel.size⟩,hT.low hs.2.1 (by omega),hT.low hs.2.2 (by omega)⟩)
   (fun A B hs hA hT=>by obtain ⟨c,h1,h2,h3⟩:=hs;exact ⟨c,⟨hIx c A B h1.1 (by omega) (hT.mono (by omega)),Nat.le_trans h1.2 hT.bel.size⟩,hT.low h2 (by omega),hT.low h3 (by omega)⟩)
   ?_ ⟨⟨ak,by omega⟩,ai,aj⟩).mono ?_
  ·rintro s x s' W hy' hWs ⟨⟨hi,hsz⟩,hl,hk⟩
   have hlt:w.heap.size+1<W.heap.size:=(Array.getElem?_eq_some_iff.1 hl).1
   have hy:=run_yield (P:=P) (args:=encs x) hl (by rw [hrec];exact hps x)
   rw [hrec] at hy
   obtain ⟨A,hA⟩:∃ A,W.alloc (ob x)=A:=⟨_,rfl⟩
   have hzA:A.heap.size=W.heap.size+1:=by rw [← hA];simp
   have hlA:A.heap[w.heap.size+1]? = some (.loop (rec .ready none)):=by rw [← hA];exact (Below.heap_alloc _ _ _ hlt).trans hl
   have hkA:A.heap[w.heap.size]? = some (.deferred (some [])):=by rw [← hA];exact (Below.heap_alloc _ _ _ (by omega)).trans hk
   have hoA:A.heap[W.heap.size]? = some (ob x):=by rw [← hA];exact World.alloc_heap_new W _
   have hjA:J s A:=by rw [← hA];exact hJ _ _ _ hi (by omega) ((Turns.refl T _ W).alloc (by omega) _)
   have hqA:Kq T lo W1.heap.size W A:=by rw [← hA];exact (Kq.refl _ _ _ _).alloc (by omega) _
   refine ⟨fn,_,assign,body,hy,roundIn_of_wpIn hfn (hassign _ x W _ ⟨_,run_beginRound (by rw [hA];exact hlA) (by rw [hrec]),?_⟩)⟩
   rw [hA]
   have am:(A.putObj (w.heap.size+1) (.loop { rec .ready none with state:=.busy })).heap[w.heap.size+1]? = some (.loop { rec .ready none with state:=.busy }):=World.putObj_heap_same (by omega)
   have an:(A.putObj (w.heap.size+1) (.loop { rec .ready none with state:=.busy })).heap[w.heap.size]? = some (.deferred (some [])):=(World.putObj_heap_other (by omega)).trans hkA
   have ao:Kq T lo W1.heap.size W (A.putObj (w.heap.size+1) (.loop { rec .ready none with state:=.busy })):=hqA.put (by omega) (by omega) _
   refine wpIn_mono (hbody _ s x s' W.heap.size _ (by omega) ((World.putObj_heap_other (by omega)).trans hoA) hy' (hJ _ _ _ hjA (by omega) ((Turns.refl T _ A).put hlA (by omega) rfl _))) ?_
   have fin:∀ (jump:Option Code) (W3:World),Kq T lo w.heap.size (A.putObj (w.heap.size+1) (.loop { rec .ready none with state:=.busy })) W3 →
    (Instr.endRound (w.heap.size+1) jump).run P W3=.ok (.bool jump.isNone) (W3.putObj (w.heap.size+1) (.loop (rec (if jump.isNone then .ready else .done) jump))) ∧
    W3.heap[w.heap.size+1]? = some (.loop { rec .ready none with state:=.busy }) ∧
    (W3.putObj (w.heap.size+1) (.loop (rec (if jump.isNone then .ready else .done) jump))).heap[w.heap.size+1]? = some (.loop (rec (if jump.isNone then .ready else .done) jump)) ∧
    (W3.putObj (w.heap.size+1) (.loop (rec (if jump.isNone then .ready else .done) jump))).heap[w.heap.size]? = some (.deferred (some [])) ∧
    Kq T lo W1.heap.size W (W3.putObj (w.heap.size+1) (.loop (rec (if jump.isNone then .ready else .done) jump)))∧w.heap.size≤W3.heap.size:=fun jump W3 aa=>by
    have ab:=aa.keeps.same _ _ (by omega) am rfl
    have:=run_endRound (P:=P) jump ab
    have hz:=aa.size
    rw [World.putObj_size] at hz
    rw [hrec] at this ⊢
    exact ⟨this,by rw [hrec] at ab;exact ab,World.putObj_heap_same (Array.getElem?_eq_some_iff.1 ab).1,(World.putObj_heap_other (by omega)).trans (aa.keeps.same _ _ (Nat.le_refl _) an rfl),
     ((ao.trans (aa.later (by omega))).put (by omega) (by omega) _),by omega⟩
   rintro e a3 W3 hp
   cases e with
   | normal =>
    obtain ⟨aa,ad⟩:=hp
    obtain ⟨hr,ab,ae,af,ag,ac⟩:=fin none W3 aa
    exact ⟨_,_,hr,.inl ⟨rfl,⟨⟨hJ _ _ _ ad ac ((Turns.refl T _ W3).put ab (by omega) rfl _),by rw [World.putObj_size];exact ac⟩,ae,af⟩,ag⟩⟩
   | ret =>
    obtain ⟨aa,ad⟩:=hp
    obtain ⟨hr,ab,ae,af,ag,ac⟩:=fin (some .ret) W3 aa
    exact ⟨_,_,hr,.inr ⟨rfl,⟨.ret,⟨hIx _ _ _ ad ac ((Turns.refl T _ W3).put ab (by omega) rfl _),by rw [World.putObj_size];exact ac⟩,ae,af⟩,ag⟩⟩
   | exit id =>
    obtain ⟨aa,ad⟩:=hp
    obtain ⟨hr,ab,ae,af,ag,ac⟩:=fin (some (.exit id)) W3 aa
    exact ⟨_,_,hr,.inr ⟨rfl,⟨.exit id,⟨hIx _ _ _ ad ac ((Turns.refl T _ W3).put ab (by omega) rfl _),by rw [World.putObj_size];exact ac⟩,ae,af⟩,ag⟩⟩
   | goto t =>
    obtain ⟨aa,ad⟩:=hp
    obtain ⟨hr,ab,ae,af,ag,ac⟩:=fin (some (.goto t)) W3 aa
    exact ⟨_,_,hr,.inr ⟨rfl,⟨.goto t,⟨hIx _ _ _ ad ac ((Turns.refl T _ W3).put ab (by omega) rfl _),by rw [World.putObj_size];exact ac⟩,ae,af⟩,ag⟩⟩
   | panic ch=>exact hp.elim
   | outgrown=>exact hp.elim
  ·rintro e W2 ⟨⟨v,rfl⟩,(⟨⟨hi,hz⟩,hl,hk⟩|⟨c,⟨hi,hz⟩,hl,hk⟩)⟩
   ·exact ⟨none,_,by have:=run_endLoop (P:=P) hl (by rw [hrec];simp);rw [hrec] at this;exact this,hdone _ _ (Nat.le_refl _) (by rw [World.putObj_size];exact hz) (hJ _ _ _ hi hz ((Turns.refl T _ W2).put hl (by omega) rfl _)) ((World.putObj_heap_other (by omega)).trans hk)⟩
   ·exact ⟨some c,_,by have:=run_endLoop (P:=P) hl (by rw [hrec];simp);rw [hrec] at this;exact this,hstop _ c _ (Nat.le_refl _) (by rw [World.putObj_size];exact hz) (hIx _ _ _ hi hz ((Turns.refl T _ W2).put hl (by omega) rfl _)) ((World.putObj_heap_other (by omega)).trans hk)⟩
end
end Go.Proofs.YtbagenpobcgjnaaGreat
