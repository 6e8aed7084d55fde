/-
  Iter
-/
import Derived.Test.YtbagenpobcgjnaaGreatJRound
import Derived.Test.YtbagenpobcgjnaaGreatJCommon
import Derived.Test.YtbagenpobcgjnaaGreatJKnotMem
variable {x:Nat}
namespace Go.Proofs.YtbagenpobcgjnaaGreat
open Go.RowKit
set_option linter.unusedVariables false
def Plain (w:World) (x:Nat):Prop:=∀ cs t z,w.heap[x]? = some (.cells cs t z)→t≠212∧∀ p,cs[0]? ≠ some (.pointer p)
structure Mild (S:List Nat) (A B:World):Prop where
 apart:Apart S A B
 plain:∀ x∈S,Plain A x
section
variable {S : List Nat} {A A1 B C : World} {l : Nat} {r r1 r2 : Loop}
theorem Plain.of {cs:Array Value} {t:TypeId} {z:Nat×Nat} (h:A.heap[x]? = some (.cells cs t z)) (ht:t≠212) (hc:∀ p,cs[0]? ≠ some (.pointer p)):Plain A x:=fun cs' t' z' h'=>by
 rw [h] at h';cases h';exact ⟨ht,hc⟩
theorem Plain.loop (h:A.heap[l]? = some (.loop r)):Plain A l:=fun cs t z h'=>by rw [h] at h';cases h'
theorem Plain.back (h:Plain B x) (hb:∀ cs t z,A.heap[x]? = some (.cells cs t z)→B.heap[x]? = some (.cells cs t z)):Plain A x:=fun cs t z h'=>h cs t z (hb cs t z h')
theorem Mild.less {S':List Nat} (h:Mild S A B) (hs:∀ x∈S,x∈S'∨A.heap.size≤x) (hp:∀ x∈S',Plain A x):Mild S' A B:=⟨⟨h.apart.os,h.apart.tape,h.apart.output,h.apart.size,fun k hk hn=>h.apart.block k hk fun g=>by
 rcases hs k g with g|g
 ·exact hn g
 ·omega⟩,hp⟩
theorem jN {cs:Array Value} {t:TypeId} {z:Nat×Nat} (hl:A.heap[l]? = some (.loop r)) (o:Obj) (h:A.heap[x]? = some (.cells cs t z)):(A.putObj l o).heap[x]? = some (.cells cs t z):=by
 rw [World.putObj_heap_other (fun e=>by subst e;rw [hl] at h;cases h)];exact h
theorem GX {cs:Array Value} {t:TypeId} {z:Nat×Nat} (hb:Below A.heap.size A B) (h:A.heap[x]? = some (.cells cs t z)):B.heap[x]? = some (.cells cs t z):=(hb.block x (Array.getElem?_eq_some_iff.1 h).1).trans h
theorem Apart.put (hl:A.heap[l]? = some (.loop r)) (o:Obj):Apart [l] A (A.putObj l o):=⟨rfl,rfl,rfl,by simp,fun k _ hn=>World.putObj_heap_other (by simpa using hn)⟩
theorem Mild.round (hl:A.heap[l]? = some (.loop r)) (hb:Below A.heap.size A A1) (h:Mild S (A1.putObj l (.loop r1)) B) (hB:∀ x∈S,x≠l):Mild (l::S) A (B.putObj l (.loop r2)):=by
 have hlt:=(Array.getElem?_eq_some_iff.1 hl).1
 have aa:A1.heap[l]? = some (.loop r):=(hb.block l hlt).trans hl
 have ab:(A1.putObj l (.loop r1)).heap[l]? = some (.loop r1):=World.putObj_heap_same (Array.getElem?_eq_some_iff.1 aa).1
 have ac:B.heap[l]? = some (.loop r1):=(h.apart.block l (Array.getElem?_eq_some_iff.1 ab).1 (fun g=>hB l g rfl)).trans ab
 refine ⟨(((Apart.of_below (S:=l::S) hb).trans (Apart.put aa (.loop r1)) (by simp)).trans h.apart (by simp_all)).trans (Apart.put ac (.loop r2)) (by simp),fun x hx=>?_⟩
 rcases List.mem_cons.1 hx with rfl|hx
 ·exact .loop hl
 ·exact (h.plain x hx).back fun cs t z hc=>jN aa _ (GX hb hc)
end
structure Firm (l:Nat) (K:World→Prop):Prop where
 below:∀ A B,K A→Below A.heap.size A B→K B
 put:∀ A r r',K A→A.heap[l]? = some (.loop r)→K (A.putObj l (.loop r'))
theorem Firm.triv (l:Nat):Firm l (fun _=>True):=⟨fun _ _ _ _=>trivial,fun _ _ _ _ _=>trivial⟩
theorem Firm.const (l:Nat) (p:Prop):Firm l (fun _=>p):=⟨fun _ _ h _=>h,fun _ _ _ h _=>h⟩
theorem Firm.both {l:Nat} {K M:World→Prop} (h:Firm l K) (k:Firm l M):Firm l (fun w=>K w∧M w):=⟨fun A B p b=>⟨h.below A B p.1 b,k.below A B p.2 b⟩,fun A r r' p q=>⟨h.put A r r' p.1 q,k.put A r r' p.2 q⟩⟩
section
variable {P : Program}
def Iter (P:Program) (m l gf:Nat) (lb:Array Value) {σ X:Type} (encs:X→Array Value) (Y:σ→X→σ→World→Prop) (E:World→Prop) (R:World→World→Prop) (S:List Nat) (s0 s1:σ) (W:World):Prop:=
 ∀ (J:σ→World→Prop) (Jx:World→Prop),(∀ s A B,J s A→R A B→J s B)→(∀ A B,Jx A→R A B→Jx B) →
  (∀ s x s' A,Y s x s' A→J s A→YieldAt Fence.wide (m - 1) P l (encs x) A fun e B=>(e=.returned (.bool true)∧J s' B∧Mild S A B)∨(e=.returned (.bool false)∧Jx B∧Mild S A B)) →
  J s0 W→CallsIn Fence.wide m P gf (#[.func (.yield l) #[] #[]]++lb) W fun e B=>(∃ v,e=.returned v)∧((J s1 B∧E B)∨Jx B)
def endS (S:List Nat) (J:World→Prop) (Ix:Code→World→Prop) (W:World):Exit→Act→World→Prop
 | .normal,_,W'=>Mild S W W'∧J W'
 | .ret,_,W'=>Mild S W W'∧Ix .ret W'
 | .exit id,_,W'=>Mild S W W'∧Ix (.exit id) W'
 | .goto t,_,W'=>Mild S W W'∧Ix (.goto t) W'
 | .panic _,_,_=>False
 | .outgrown,_,_=>False
theorem jM {n:Nat} {σ X:Type} {g:Operand} {ps:Array Tmp} {assign body:Code} {Q:Exit→Act→World→Prop} {a:Act} {w:World}
 {gf:Nat} {lb:Array Value} (hg:a.eval g=.func (.func gf) #[] lb) (eg:∀ args w,(callFunc gf args).run P w=.ok (.enter gf args) w)
 {encs:X→Array Value} {Y:σ→X→σ→World→Prop} {E:World→Prop} {R:World→World→Prop} {S:List Nat} {s0 s1:σ} (hS:∀ x∈S,x<w.heap.size)
 (hit:∀ W1,Below w.heap.size w W1→W1.heap.size=w.heap.size+2→Iter P (n - 1) (w.heap.size+1) gf lb encs Y E R ((w.heap.size+1)::S) s0 s1 W1)
 (hR:∀ A B,R A B→w.heap.size+2≤A.heap.size→A.heap.size≤B.heap.size∧∀ k,w.heap.size≤k→k<w.heap.size+2→B.heap[k]? = A.heap[k]?) (hps:∀ x,(encs x).size=ps.size)
 (J:σ→World→Prop) (Ix:Code→World→Prop) (hJ:∀ s A B,J s A→w.heap.size+2≤A.heap.size→R A B→J s B) (hIx:∀ c A B,Ix c A→w.heap.size+2≤A.heap.size→R A B→Ix c B)
 (fJ:∀ s,Firm (w.heap.size+1) (J s)) (fI:∀ c,Firm (w.heap.size+1) (Ix c)) (fY:∀ s x s',Firm (w.heap.size+1) (Y s x s')) (fE:Firm (w.heap.size+1) E) (h0:J s0 w)
 (Fa:X→Act→World→Prop) (fF:∀ x a,Firm (w.heap.size+1) (Fa x a))
 (hassign:∀ (l:Nat) (x:X) (W:World) (K:Act→World→Prop),(∀ a1 W1,Below W.heap.size W W1→Fa x a1 W1→K a1 W1) →
  assign.wpIn (Fence.wide.inRound l) (n - 1 - 1) P (Exit.then K (fun _ _ _=>False)) { tmps:=(ps.zip (encs x)).foldl (fun t (p,v)=>t.setIfInBounds p v) a.tmps,defers:=[] } W)
 (hbody:∀ (l:Nat) (s:σ) (x:X) (s':σ) (W:World) (a1:Act),w.heap.size+2≤W.heap.size→Y s x s' W→J s W→Fa x a1 W→body.wpIn (Fence.wide.inRound l) (n - 1 - 1) P (endS S (J s') Ix W) a1 W)
 (hdone:∀ (D':Nat) (W:World),w.heap.size≤D'→w.heap.size≤W.heap.size→J s1 W→E W→W.heap[D']? = some (.deferred (some []))→Q .normal { a with defers:={ target:=.collected D',args:=#[] }::a.defers } W)
 (hstop:∀ (D':Nat) (c:Code) (W:World),w.heap.size≤D'→w.heap.size≤W.heap.size→Ix c W→W.heap[D']? = some (.deferred (some []))→c.wpIn Fence.wide n P Q { a with defers:={ target:=.collected D',args:=#[] }::a.defers } W) :
 (Code.rangeFunc g ps assign body).wpIn Fence.wide n P Q a w:=by
 refine wpIn_rangeFunc ?_
 intro fn hfn
 obtain ⟨rec,hrec⟩:∃ rec:LoopState→Option Code→Loop,rec=fun st pe=>{ state:=st,pending:=pe,fn,tmps:=a.tmps,params:=ps,assign,body,defers:=w.heap.size }:=⟨_,rfl⟩
 obtain ⟨W1,ai⟩:∃ W1,(w.alloc (.deferred (some []))).alloc (.loop (rec .ready none))=W1:=⟨_,rfl⟩
 have ak:W1.heap.size=w.heap.size+2:=by rw [← ai];simp
 have al:W1.heap[w.heap.size+1]? = some (.loop (rec .ready none)):=by
  rw [← ai];have:=World.alloc_heap_new (w.alloc (.deferred (some []))) (.loop (rec .ready none));rwa [World.size_alloc] at this
 have am:W1.heap[w.heap.size]? = some (.deferred (some [])):=by
  rw [← ai];exact (Below.heap_alloc _ _ _ (by simp)).trans (World.alloc_heap_new w _)
 have aj:Below w.heap.size w W1:=by
  rw [← ai];exact ((Below.refl _ w).alloc (Nat.le_refl _) _).alloc (by simp) _
 refine ⟨w.heap.size+1,[{ target:=.collected w.heap.size,args:=#[] }],W1,{ target:=.fn (.func gf) lb,args:=#[.func (.yield (w.heap.size+1)) #[] #[]] },W1,gf,
  #[.func (.yield (w.heap.size+1)) #[] #[]]++lb,W1,?_,?_,?_,?_,fun e=>(by cases e),?_⟩
 ·rw [← ai,hrec];exact run_enterLoop_outer _ _ _ _ _
 ·simp only [resolve,hg]
  simp [go_sem]
 ·intro f' _;trivial
 ·simp [invoke,go_sem,eg]
 ·refine (hit W1 aj ak
   (fun s W=>(J s W∧w.heap.size+2≤W.heap.size)∧W.heap[w.heap.size+1]? = some (.loop (rec .ready none))∧W.heap[w.heap.size]? = some (.deferred (some [])))
   (fun W=>∃ c,(Ix c W∧w.heap.size+2≤W.heap.size)∧W.heap[w.heap.size+1]? = some (.loop (rec .done (some c)))∧W.heap[w.heap.size]? = some (.deferred (some [])))
   (fun s A B hs hA=>by
    obtain ⟨g1,g2⟩:=hR A B hA hs.1.2
    exact ⟨⟨hJ s A B hs.1.1 hs.1.2 hA,Nat.le_trans hs.1.2 g1⟩,(g2 _ (by omega) (by omega)).trans hs.2.1,(g2 _ (by omega) (by omega)).trans hs.2.2⟩)
   (fun A B hs hA=>by
    obtain ⟨c,h1,h2,h3⟩:=hs
    obtain ⟨g1,g2⟩:=hR A B hA h1.2
    exact ⟨c,⟨hIx c A B h1.1 h1.2 hA,Nat.le_trans h1.2 g1⟩,(g2 _ (by omega) (by omega)).trans h2,(g2 _ (by omega) (by omega)).trans h3⟩)
   ?_ ⟨⟨(fJ s0).below _ _ h0 aj,by omega⟩,al,am⟩).mono ?_
  ·rintro s x s' W hy' ⟨⟨hi,hsz⟩,hl,hk⟩
   have hy:=run_yield (P:=P) (args:=encs x) hl (by rw [hrec];exact hps x)
   rw [hrec] at hy
   refine ⟨fn,_,assign,body,hy,roundIn_of_wpIn hfn (hassign _ x W _ fun a1 W1' ah hFa=>?_)⟩
   have hlW:W1'.heap[w.heap.size+1]? = some (.loop (rec .ready none)):=(ah.block _ (by omega)).trans hl
   have hkW:W1'.heap[w.heap.size]? = some (.deferred (some [])):=(ah.block _ (by omega)).trans hk
   refine ⟨_,run_beginRound hlW (by rw [hrec]),?_⟩
   have an:(W1'.putObj (w.heap.size+1) (.loop { rec .ready none with state:=.busy })).heap[w.heap.size+1]? = some (.loop { rec .ready none with state:=.busy }):=World.putObj_heap_same (Array.getElem?_eq_some_iff.1 hlW).1
   have ao:(W1'.putObj (w.heap.size+1) (.loop { rec .ready none with state:=.busy })).heap[w.heap.size]? = some (.deferred (some [])):=(World.putObj_heap_other (by omega)).trans hkW
   have aq:w.heap.size+2≤(W1'.putObj (w.heap.size+1) (.loop { rec .ready none with state:=.busy })).heap.size:=by rw [World.putObj_size];exact Nat.le_trans hsz ah.size
   have fin:∀ (jump:Option Code) (W3:World),Mild S (W1'.putObj (w.heap.size+1) (.loop { rec .ready none with state:=.busy })) W3 →
    (Instr.endRound (w.heap.size+1) jump).run P W3=.ok (.bool jump.isNone) (W3.putObj (w.heap.size+1) (.loop (rec (if jump.isNone then .ready else .done) jump))) ∧
    W3.heap[w.heap.size+1]? = some (.loop { rec .ready none with state:=.busy }) ∧
    (W3.putObj (w.heap.size+1) (.loop (rec (if jump.isNone then .ready else .done) jump))).heap[w.heap.size+1]? = some (.loop (rec (if jump.isNone then .ready else .done) jump)) ∧
    (W3.putObj (w.heap.size+1) (.loop (rec (if jump.isNone then .ready else .done) jump))).heap[w.heap.size]? = some (.deferred (some [])) ∧
    Mild ((w.heap.size+1)::S) W (W3.putObj (w.heap.size+1) (.loop (rec (if jump.isNone then .ready else .done) jump)))∧w.heap.size+2≤W3.heap.size:=fun jump W3 aa=>by
    have ab:=(aa.apart.block (w.heap.size+1) (by omega) (fun g=>by have:=hS _ g;omega)).trans an
    have ar:=(aa.apart.block w.heap.size (by omega) (fun g=>by have:=hS _ g;omega)).trans ao
    have hz:=aa.apart.size
    have:=run_endRound (P:=P) jump ab
    have hm:=aa.round (r2:=rec (if jump.isNone then .ready else .done) jump) hl ah (fun x hx=>by have:=hS x hx;omega)
    rw [hrec] at this hm ⊢
    exact ⟨this,by rw [hrec] at ab;exact ab,World.putObj_heap_same (Array.getElem?_eq_some_iff.1 ab).1,(World.putObj_heap_other (by omega)).trans ar,hm,by omega⟩
   refine wpIn_mono (hbody _ s x s' _ a1 aq ((fY s x s').put _ _ _ ((fY s x s').below _ _ hy' ah) hlW) ((fJ s).put _ _ _ ((fJ s).below _ _ hi ah) hlW) ((fF x a1).put _ _ _ hFa hlW)) ?_
   rintro e a3 W3 hp
   cases e with
   | normal =>
    obtain ⟨aa,ac⟩:=hp
    obtain ⟨hr,ab,ad,ae,af,ag⟩:=fin none W3 aa
    exact ⟨_,_,hr,.inl ⟨rfl,⟨⟨(fJ s').put _ _ _ ac ab,by rw [World.putObj_size];exact ag⟩,ad,ae⟩,af⟩⟩
   | ret =>
    obtain ⟨aa,ac⟩:=hp
    obtain ⟨hr,ab,ad,ae,af,ag⟩:=fin (some .ret) W3 aa
    exact ⟨_,_,hr,.inr ⟨rfl,⟨.ret,⟨(fI _).put _ _ _ ac ab,by rw [World.putObj_size];exact ag⟩,ad,ae⟩,af⟩⟩
   | exit id =>
    obtain ⟨aa,ac⟩:=hp
    obtain ⟨hr,ab,ad,ae,af,ag⟩:=fin (some (.exit id)) W3 aa
    exact ⟨_,_,hr,.inr ⟨rfl,⟨.exit id,⟨(fI _).put _ _ _ ac ab,by rw [World.putObj_size];exact ag⟩,ad,ae⟩,af⟩⟩
   | goto t =>
    obtain ⟨aa,ac⟩:=hp
    obtain ⟨hr,ab,ad,ae,af,ag⟩:=fin (some (.goto t)) W3 aa
    exact ⟨_,_,hr,.inr ⟨rfl,⟨.goto t,⟨(fI _).put _ _ _ ac ab,by rw [World.putObj_size];exact ag⟩,ad,ae⟩,af⟩⟩
   | panic ch=>exact hp.elim
   | outgrown=>exact hp.elim
  ·rintro e W2 ⟨⟨v,rfl⟩,(⟨⟨⟨hi,hz⟩,hl,hk⟩,hE⟩|⟨c,⟨hi,hz⟩,hl,hk⟩)⟩
   ·exact ⟨none,_,by have:=run_endLoop (P:=P) hl (by rw [hrec];simp);rw [hrec] at this;exact this,hdone _ _ (Nat.le_refl _) (by rw [World.putObj_size];omega) ((fJ s1).put _ _ _ hi hl) (fE.put _ _ _ hE hl) ((World.putObj_heap_other (by omega)).trans hk)⟩
   ·exact ⟨some c,_,by have:=run_endLoop (P:=P) hl (by rw [hrec];simp);rw [hrec] at this;exact this,hstop _ c _ (Nat.le_refl _) (by rw [World.putObj_size];omega) ((fI c).put _ _ _ hi hl) ((World.putObj_heap_other (by omega)).trans hk)⟩
end
end Go.Proofs.YtbagenpobcgjnaaGreat
