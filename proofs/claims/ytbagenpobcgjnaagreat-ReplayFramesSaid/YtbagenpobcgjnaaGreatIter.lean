/-
  Iter
-/
import Derived.Test.YtbagenpobcgjnaaGreatJSq
import Derived.Test.YtbagenpobcgjnaaGreatJUtfMath
import Derived.Test.YtbagenpobcgjnaaGreatJKnotMem
open Array renaming getElem?_eq_some_iff->zt
open Go renaming Code->zr,Value->zn,World->zk
open Go.Fence renaming wide->zq
open Go.World renaming alloc_heap_new->zz,putObj_heap_other->zp,putObj_heap_same->zv,putObj_size->zm
open Nat renaming le_refl->zx,le_trans->zy
variable {x:Nat}
namespace Go.Proofs.YtbagenpobcgjnaaGreat
open Go.RowKit
set_option linter.unusedVariables false
def qz (w:zk) (x:Nat):Prop:=∀ cs t z,w.heap[x]? = some (.cells cs t z)→t≠212∧∀ p,cs[0]? ≠ some (.pointer p)
structure o9 (S:List Nat) (A B:zk):Prop where
 apart:lx S A B
 plain:∀ x∈S,qz A x∨B.heap[x]? = A.heap[x]?
section
variable {S : List Nat} {A A1 B C : World} {l : Nat} {r r1 r2 : Loop}
theorem qz.of {cs:Array zn} {t:TypeId} {z:Nat×Nat} (h:A.heap[x]? = some (.cells cs t z)) (ht:t≠212) (hc:∀ p,cs[0]? ≠ some (.pointer p)):qz A x:=fun cs' t' z' h'=>by
 rw [h] at h';cases h';exact ⟨ht,hc⟩
theorem qz.loop (h:A.heap[l]? = some (.loop r)):qz A l:=fun cs t z h'=>by rw [h] at h';cases h'
theorem qz.eq (h:qz B x) (e:B.heap[x]? = A.heap[x]?):qz A x:=fun cs t z h'=>h cs t z (e.trans h')
theorem qz.new (h:A≤x):qz A x:=fun cs t z h'=>by rw [Array.getElem?_eq_none h] at h';cases h'
theorem o9.join {S':List Nat} (h:o9 S A B) (k:o9 S' B C):o9 (S++S') A C:=by
 refine ⟨(h.apart.more (S':=S++S') (fun x hx=>List.mem_append_left _ hx)).trans k.apart (fun x hx=>.inl (List.mem_append_right _ hx)),fun x hx=>?_⟩;by_cases hz:A≤x
 ·exact .inl (.new hz)
 have hz:x<A:=lg;have h1:qz A x∨B.heap[x]? = A.heap[x]? :=by
  by_cases hs:x∈S
  ·exact h.plain x hs
  ·exact .inr (h.apart.block x hz hs)
 have h2:qz B x∨C.heap[x]? = B.heap[x]? :=by
  by_cases hs:x∈S'
  ·exact k.plain x hs
  ·exact .inr (k.apart.block x (Nat.lt_of_lt_of_le hz h.apart.size) hs)
 rcases h1 with h1|e1
 ·exact .inl h1
 ·rcases h2 with h2|e2
  ·exact .inl (h2.eq e1)
  ·exact .inr (e2.trans e1)
theorem o9.less {S':List Nat} (h:o9 S A B) (hs:∀ x∈S,x∈S'∨A.heap.size≤x):o9 S' A B:=by
 have hn:∀ x,x ∉ S'→x<A.heap.size→x ∉ S:=fun x hx hz g=>by rcases hs x g with g|g;exact hx g;omega
 refine ⟨⟨h.apart.os,h.apart.tape,h.apart.output,h.apart.size,fun k hk hn'=>h.apart.block k hk (hn k hn' hk)⟩,fun x hx=>?_⟩;by_cases hz:A.heap.size≤x
 ·exact .inl (.new hz)
 by_cases hx2:x∈S
 ·exact h.plain x hx2
 ·exact .inr (h.apart.block x lg hx2)
theorem o9.of_below (h:Below A A B):o9 [] A B:=⟨.of_below h,fun x hx=>absurd hx li⟩
theorem tS {cs:Array zn} {t:TypeId} {z:Nat×Nat} (hl:A.heap[l]? = some (.loop r)) (o:Obj) (h:A.heap[x]? = some (.cells cs t z)):(A.putObj l o).heap[x]? = some (.cells cs t z):=by
 rw [zp (fun e=>by subst e;rw [hl] at h;cases h)];exact h
theorem o9.put (hl:A.heap[l]? = some (.loop r)) (o:Obj):o9 [l] A (A.putObj l o):=⟨⟨rfl,rfl,rfl,li,fun k _ hn=>zp (by simpa using hn)⟩,fun x hx=>by rw [List.mem_singleton.1 hx];exact .inl (.loop hl)⟩
theorem o9.round (hl:A.heap[l]? = some (.loop r)) (hb:Below A A A1) (h:o9 S (A1.putObj l (.loop r1)) B) (hB:∀ x∈S,x≠l):o9 (l::S) A (B.putObj l (.loop r2)):=by
 have aa:A1.heap[l]? = some (.loop r):=(hb.block l (zt.1 hl).1).trans hl;have ab:(A1.putObj l (.loop r1)).heap[l]? = some (.loop r1):=zv (zt.1 aa).1;have ac:B.heap[l]? = some (.loop r1):=(h.apart.block l (zt.1 ab).1 (fun g=>hB l g rfl)).trans ab;exact ((((o9.of_below hb).join (.put aa _)).join h).join (.put ac _)).less fun x hx=>.inl (by simp at hx ⊢;rcases hx with h|h|h;exact .inl h;exact .inr h;exact .inl h)
end
structure Firm (l:Nat) (K:zk→Prop):Prop where
 below:∀ A B,K A→Below A.heap.size A B→K B
 put:∀ A r r',K A→A.heap[l]? = some (.loop r)→K (A.putObj l (.loop r'))
theorem Firm.triv (l:Nat):Firm l (fun _=>True):=⟨fun _ _ _ _=>trivial,fun _ _ _ _ _=>trivial⟩
theorem Firm.const (l:Nat) (p:Prop):Firm l (fun _=>p):=⟨fun _ _ h _=>h,fun _ _ _ h _=>h⟩
theorem Firm.both {l:Nat} {K M:zk→Prop} (h:Firm l K) (k:Firm l M):Firm l (fun w=>K w∧M w):=⟨fun A B p b=>⟨h.below A B p.1 b,k.below A B p.2 b⟩,fun A r r' p q=>⟨h.put A r r' p.1 q,k.put A r r' p.2 q⟩⟩
section
variable {P : Program}
def Iter (P:Program) (m l gf:Nat) (lb:Array zn) {σ X:Type} (encs:X→Array zn) (Y:σ→X→σ→zk→Prop) (E:zk→Prop) (R:zk→zk→Prop) (S:List Nat) (s0 s1:σ) (W:zk):Prop:=
 ∀ (J:σ→zk→Prop) (Jx:zk→Prop),(∀ s A B,J s A→R A B→J s B)→(∀ A B,Jx A→R A B→Jx B) →
  (∀ s x s' A,Y s x s' A→J s A→YieldAt zq (m - 1) P l (encs x) A fun e B=>(e=.returned (.bool true)∧J s' B∧o9 S A B)∨(e=.returned (.bool false)∧Jx B∧o9 S A B)) →
  J s0 W→CallsIn zq m P gf (#[.func (.yield l) #[] #[]]++lb) W fun e B=>(∃ v,e=.returned v)∧((J s1 B∧E B)∨Jx B)
def endS (S:List Nat) (J:zk→Prop) (Ix:zr→zk→Prop) (W:zk):Exit→Act→zk→Prop
 | .normal,_,W'=>o9 S W W'∧J W'
 | .ret,_,W'=>o9 S W W'∧Ix .ret W'
 | .exit id,_,W'=>o9 S W W'∧Ix (.exit id) W'
 | .goto t,_,W'=>o9 S W W'∧Ix (.goto t) W'
 | .panic _,_,_=>False
 | .outgrown,_,_=>False
theorem lP {n:Nat} {σ X:Type} {g:Operand} {ps:Array Tmp} {assign body:zr} {Q:Exit→Act→zk→Prop} {a:Act} {w:zk}
 {gf:Nat} {lb:Array zn} (hg:a.eval g=.func (.func gf) #[] lb) (eg:∀ args w,(callFunc gf args).run P w=.ok (.enter gf args) w)
 {encs:X→Array zn} {Y:σ→X→σ→zk→Prop} {E:zk→Prop} {R:zk→zk→Prop} {S:List Nat} {s0 s1:σ} (hS:∀ x∈S,x<w.heap.size)
 (hit:∀ W1,Below w.heap.size w W1→W1.heap.size=w.heap.size+2→Iter P (n - 1) (w.heap.size+1) gf lb encs Y E R ((w.heap.size+1)::S) s0 s1 W1)
 (hR:∀ A B,R A B→w.heap.size+2≤A.heap.size→A.heap.size≤B.heap.size∧∀ k,w.heap.size≤k→k<w.heap.size+2→B.heap[k]? = A.heap[k]?) (hps:∀ x,(encs x).size=ps.size)
 (J:σ→zk→Prop) (Ix:zr→zk→Prop) (hJ:∀ s A B,J s A→w.heap.size+2≤A.heap.size→R A B→J s B) (hIx:∀ c A B,Ix c A→w.heap.size+2≤A.heap.size→R A B→Ix c B)
 (fJ:∀ s,Firm (w+1) (J s)) (fI:∀ c,Firm (w+1) (Ix c)) (fY:∀ s x s',Firm (w+1) (Y s x s')) (fE:Firm (w+1) E) (h0:J s0 w)
 (Fa:X→Act→zk→Prop) (fF:∀ x a,Firm (w+1) (Fa x a))
 (hassign:∀ (l:Nat) (x:X) (W:zk) (K:Act→zk→Prop),(∀ a1 W1,Below W W W1→Fa x a1 W1→K a1 W1) →
  assign.wpIn (zq.inRound l) (n - 1 - 1) P (Exit.then K (fun _ _ _=>False)) { tmps:=(ps.zip (encs x)).foldl (fun t (p,v)=>t.setIfInBounds p v) a.tmps,defers:=[] } W)
 (hbody:∀ (l:Nat) (s:σ) (x:X) (s':σ) (W:zk) (a1:Act),w.heap.size+2≤W→Y s x s' W→J s W→Fa x a1 W→body.wpIn (zq.inRound l) (n - 1 - 1) P (endS S (J s') Ix W) a1 W)
 (hdone:∀ (D':Nat) (W:zk),w≤D'→w.heap.size≤W→J s1 W→E W→W.heap[D']? = some (.deferred (some []))→Q .normal { a with defers:={ target:=.collected D',args:=#[] }::a.defers } W)
 (hstop:∀ (D':Nat) (c:zr) (W:zk),w≤D'→w.heap.size≤W→Ix c W→W.heap[D']? = some (.deferred (some []))→c.wpIn zq n P Q { a with defers:={ target:=.collected D',args:=#[] }::a.defers } W) :
 (Code.rangeFunc g ps assign body).wpIn zq n P Q a w:=by
 refine wpIn_rangeFunc ?_;intro fn hfn;obtain ⟨rec,hrec⟩:∃ rec:LoopState→Option zr→Loop,rec=fun st pe=>{ state:=st,pending:=pe,fn,tmps:=a.tmps,params:=ps,assign,body,defers:=w.heap.size }:=⟨_,rfl⟩;obtain ⟨W1,ai⟩:∃ W1,(w.alloc (.deferred (some []))).alloc (.loop (rec .ready none))=W1:=⟨_,rfl⟩;have ak:W1.heap.size=w+2:=by rw [← ai];simp
 have al:W1.heap[w.heap.size+1]? = some (.loop (rec .ready none)):=by
  rw [← ai];have:=zz (w.alloc (.deferred (some []))) (.loop (rec .ready none));rwa [World.size_alloc] at this
 have am:W1.heap[w.heap.size]? = some (.deferred (some [])):=by
  rw [← ai];exact (Below.heap_alloc _ _ _ li).trans (zz w _)
 have aj:Below w w W1:=by
  rw [← ai];exact ((Below.refl _ w).alloc (zx _) _).alloc li _
 refine ⟨w+1,[{ target:=.collected w,args:=#[] }],W1,{ target:=.fn (.func gf) lb,args:=#[.func (.yield (w+1)) #[] #[]] },W1,gf,
  #[.func (.yield (w+1)) #[] #[]]++lb,W1,?_,?_,?_,?_,fun e=>(by cases e),?_⟩
 ·rw [← ai,hrec];exact run_enterLoop_outer _ _ _ _ _
 ·simp only [resolve,hg];simp [go_sem]
 ·intro f' _;trivial
 ·simp [invoke,go_sem,eg]
 ·refine (hit W1 aj ak
   (fun s W=>(J s W∧w.heap.size+2≤W)∧W.heap[w.heap.size+1]? = some (.loop (rec .ready none))∧W.heap[w.heap.size]? = some (.deferred (some [])))
   (fun W=>∃ c,(Ix c W∧w.heap.size+2≤W)∧W.heap[w.heap.size+1]? = some (.loop (rec .done (some c)))∧W.heap[w.heap.size]? = some (.deferred (some [])))
   (fun s A B hs hA=>by
    obtain ⟨g1,g2⟩:=hR A B hA hs.1.2;exact ⟨⟨hJ s A B hs.1.1 hs.1.2 hA,zy hs.1.2 g1⟩,(g2 _ lg lg).trans hs.2.1,(g2 _ lg lg).trans hs.2.2⟩)
   (fun A B hs hA=>by
    obtain ⟨c,h1,h2,h3⟩:=hs;obtain ⟨g1,g2⟩:=hR A B hA h1.2;exact ⟨c,⟨hIx c A B h1.1 h1.2 hA,zy h1.2 g1⟩,(g2 _ lg lg).trans h2,(g2 _ lg lg).trans h3⟩)
   ?_ ⟨⟨(fJ s0).below _ _ h0 aj,lg⟩,al,am⟩).mono ?_
  ·rintro s x s' W hy' ⟨⟨hi,hsz⟩,hl,hk⟩;have hy:=run_yield (P:=P) (args:=encs x) hl (by rw [hrec];exact hps x);rw [hrec] at hy;refine ⟨fn,_,assign,body,hy,roundIn_of_wpIn hfn (hassign _ x W _ fun a1 W1' ah hFa=>?_)⟩;have hlW:W1'.heap[w.heap.size+1]? = some (.loop (rec .ready none)):=(ah.block _ lg).trans hl;have hkW:W1'.heap[w.heap.size]? = some (.deferred (some [])):=(ah.block _ lg).trans hk;refine ⟨_,run_beginRound hlW (by rw [hrec]),?_⟩;have an:(W1'.putObj (w+1) (.loop { rec .ready none with state:=.busy })).heap[w.heap.size+1]? = some (.loop { rec .ready none with state:=.busy }):=zv (zt.1 hlW).1;have ao:(W1'.putObj (w+1) (.loop { rec .ready none with state:=.busy })).heap[w.heap.size]? = some (.deferred (some [])):=(zp lg).trans hkW;have aq:w.heap.size+2≤(W1'.putObj (w+1) (.loop { rec .ready none with state:=.busy })):=by rw [zm];exact zy hsz ah.size
   have fin:∀ (jump:Option zr) (W3:zk),o9 S (W1'.putObj (w+1) (.loop { rec .ready none with state:=.busy })) W3 →
    (Instr.endRound (w+1) jump).run P W3=.ok (.bool jump.isNone) (W3.putObj (w+1) (.loop (rec (if jump.isNone then .ready else .done) jump))) ∧
    W3.heap[w.heap.size+1]? = some (.loop { rec .ready none with state:=.busy }) ∧
    (W3.putObj (w+1) (.loop (rec (if jump.isNone then .ready else .done) jump))).heap[w.heap.size+1]? = some (.loop (rec (if jump.isNone then .ready else .done) jump)) ∧
    (W3.putObj (w+1) (.loop (rec (if jump.isNone then .ready else .done) jump))).heap[w.heap.size]? = some (.deferred (some [])) ∧
    o9 ((w.heap.size+1)::S) W (W3.putObj (w+1) (.loop (rec (if jump.isNone then .ready else .done) jump)))∧w.heap.size+2≤W3:=fun jump W3 aa=>by
    have ab:=(aa.apart.block (w+1) lg (fun g=>by have:=hS _ g;omega)).trans an;have ar:=(aa.apart.block w lg (fun g=>by have:=hS _ g;omega)).trans ao;have hz:=aa.apart.size;have:=run_endRound (P:=P) jump ab;have hm:=aa.round (r2:=rec (if jump.isNone then .ready else .done) jump) hl ah (fun x hx=>by have:=hS x hx;omega);rw [hrec] at this hm ⊢;exact ⟨this,by rw [hrec] at ab;exact ab,zv (zt.1 ab).1,(zp lg).trans ar,hm,lg⟩
   refine wpIn_mono (hbody _ s x s' _ a1 aq ((fY s x s').put _ _ _ ((fY s x s').below _ _ hy' ah) hlW) ((fJ s).put _ _ _ ((fJ s).below _ _ hi ah) hlW) ((fF x a1).put _ _ _ hFa hlW)) ?_;rintro e a3 W3 hp;cases e with
   | normal =>
    obtain ⟨aa,ac⟩:=hp;obtain ⟨hr,ab,ad,ae,af,ag⟩:=fin none W3 aa;exact ⟨_,_,hr,.inl ⟨rfl,⟨⟨(fJ s').put _ _ _ ac ab,by rw [zm];exact ag⟩,ad,ae⟩,af⟩⟩
   | ret =>
    obtain ⟨aa,ac⟩:=hp;obtain ⟨hr,ab,ad,ae,af,ag⟩:=fin (some .ret) W3 aa;exact ⟨_,_,hr,.inr ⟨rfl,⟨.ret,⟨(fI _).put _ _ _ ac ab,by rw [zm];exact ag⟩,ad,ae⟩,af⟩⟩
   | exit id =>
    obtain ⟨aa,ac⟩:=hp;obtain ⟨hr,ab,ad,ae,af,ag⟩:=fin (some (.exit id)) W3 aa;exact ⟨_,_,hr,.inr ⟨rfl,⟨.exit id,⟨(fI _).put _ _ _ ac ab,by rw [zm];exact ag⟩,ad,ae⟩,af⟩⟩
   | goto t =>
    obtain ⟨aa,ac⟩:=hp;obtain ⟨hr,ab,ad,ae,af,ag⟩:=fin (some (.goto t)) W3 aa;exact ⟨_,_,hr,.inr ⟨rfl,⟨.goto t,⟨(fI _).put _ _ _ ac ab,by rw [zm];exact ag⟩,ad,ae⟩,af⟩⟩
   | panic ch=>exact hp.elim
   | outgrown=>exact hp.elim
  ·rintro e W2 ⟨⟨v,rfl⟩,(⟨⟨⟨hi,hz⟩,hl,hk⟩,hE⟩|⟨c,⟨hi,hz⟩,hl,hk⟩)⟩
   ·exact ⟨none,_,by have:=run_endLoop (P:=P) hl (by rw [hrec];simp);rw [hrec] at this;exact this,hdone _ _ (zx _) (by rw [zm];omega) ((fJ s1).put _ _ _ hi hl) (fE.put _ _ _ hE hl) ((zp lg).trans hk)⟩
   ·exact ⟨some c,_,by have:=run_endLoop (P:=P) hl (by rw [hrec];simp);rw [hrec] at this;exact this,hstop _ c _ (zx _) (by rw [zm];omega) ((fI c).put _ _ _ hi hl) ((zp lg).trans hk)⟩
end
end Go.Proofs.YtbagenpobcgjnaaGreat
