/-
  Joined: Round, Goes, Hoes.
-/
import Derived.RangeFuncBox
import Derived.RangeFuncLeaves
import Derived.RangeFuncNested
import Derived.Shelf.Abstract
import Derived.Deep.Quiet
import Derived.StillTail
import Derived.TacticsIn
import Derived.OrdersIn
namespace Go.Proofs.YtbdfglalohgahaaDoor
open Go.RowKit

section
variable {P : Program} {l n : Nat} {Q : Exit → Act → World → Prop}

theorem rows_round {row : String} {args : Array Value} {w : World} {R : Value → World → Prop} (h : Rows P row args w R) : RowsIn (Fence.wide.inRound l) n P row args w R :=
  fun c cs _ => let ⟨v, w', r, s⟩ := h c cs; ⟨v, w', r, stepsIn_wide.2 s⟩
theorem oper_round {o : Oper} {a : Act} {w : World} {K : Act → World → Prop} (hd : ∀ c, o.op ≠ .defer c) (h : o.wp P a w K Q) : o.wpIn (Fence.wide.inRound l) n P a w K Q := by
  unfold Oper.wpIn
  refine ⟨fun _ _ => trivial, ?_⟩
  rw [show (Fence.wide.inRound l).round = some l from rfl, Oper.semAt_some l _ _ hd]
  unfold Oper.wp at h
  generalize (execOp a.eval o).run P w = r at *
  cases r with
  | ok x w' =>
    cases x <;> simp only [Oper.upon, Oper.uponIn] at h ⊢ <;>
      first
        | exact h
        | exact ⟨fun e => (by cases e), CallsIn.inRound l (callsIn_wide.2 h)⟩
        | exact ⟨fun e => (by cases e), (CallsIn.inRound l (callsIn_wide.2 h)).mono fun e w'' he => by cases e <;> exact he⟩
        | exact ⟨fun e => (by cases e), rows_round h⟩
        | exact h.elim
  | halt x w' => cases x <;> simp only [Oper.upon, Oper.uponIn] at h ⊢ <;> exact h
theorem wpOp_round {ops : Array Oper} (hd : ∀ o ∈ ops, ∀ c, o.op ≠ .defer c) (no : ¬ LetsOut Q) {i : Nat} {a : Act} {w : World} {K K' : Act → World → Prop} (hK : ∀ a w, K a w → K' a w) (h : wpOp P ops Q i K a w) :
    wpOpIn (Fence.wide.inRound l) n P ops Q i K' a w := by
  unfold wpOp at h
  unfold wpOpIn
  cases ho : ops[i]? with
  | none => simp only [ho] at h; exact hK _ _ h
  | some o =>
    simp only [ho] at h ⊢
    by_cases hw : Region.wanted o (yielded ops a.tmps) = true
    · rw [if_pos hw] at h ⊢
      rcases h with h | ⟨_, h⟩
      · exact oper_round (hd o (Array.mem_of_getElem? ho)) (Oper.wp_mono hK h)
      · exact (no h).elim
    · rw [if_neg hw] at h ⊢
      exact ⟨fun _ _ => trivial, hK _ _ h⟩
theorem any_round {ops : Array Oper} {md : Region.Mode} (hd : ∀ o ∈ ops, ∀ c, o.op ≠ .defer c) (no : ¬ LetsOut Q) : ∀ (fuel : Nat) (listed : Array Bool) (a : Act) (w : World),
    wpAny P md ops Q fuel listed a w → wpAnyIn (Fence.wide.inRound l) n P md ops Q fuel listed a w
  | 0, _, _, _, h => h
  | fuel + 1, _, _, _, h => ⟨h.1, fun i hi => wpOp_round hd no (fun a w h => any_round hd no fuel _ a w h) (h.2 i hi)⟩
/-- No operation of a region is a 'defer'. -/
def noDefer (ops : List Oper) : Bool := ops.all fun o => match o.op with | .defer _ => false | _ => true
theorem noDefer_spec {ops : List Oper} (h : noDefer ops = true) : ∀ o ∈ ops.toArray, ∀ c, o.op ≠ .defer c := by
  intro o ho c e
  have := List.all_eq_true.1 h o (by simpa using ho)
  rw [e] at this
  exact absurd this (by simp)
/-- A region of a round that draws its order and only reads: one walk. -/
theorem region_round_quiet {id : Nat} {a : Act} {w : World} {ops : List Oper} (hm : P.follows .mixedOrders = true) (no : ¬ LetsOut Q) (hd : noDefer ops = true) (hB : Region.lexB .any ops.toArray = true)
    (h : wpQuiet P ops.toArray (fun w' => ∃ n, w' = w.drewN n) (fun a' => ∀ w', (∃ n, w' = w.drewN n) → Q .normal a' w') ops a) : (Code.region id ops.toArray true).wpIn (Fence.wide.inRound l) n P Q a w := by
  simp only [Region.lexB, Bool.and_eq_true] at hB
  refine wpIn_region_any hm (any_round (noDefer_spec hd) no _ _ _ _ (wpAny_of_quiet (C := fun w' => ∃ n, w' = w.drewN n) (Q := fun a' => ∀ w', (∃ n, w' = w.drewN n) → Q .normal a' w') (fun _ w' hw' h => h w' hw') _ _ _ _ ⟨1, rfl⟩ ?_))
  have := wpAnyQ_lex (C := fun w' => ∃ n, w' = w.drewN n) (md := .any) hB.1 ops.toArray.toList 0 (Array.replicate ops.toArray.size false) a (by simp) (by simpa using hB.2) (by simpa using h)
  simpa using this
/-- A region of a round that draws its order, reads first, and ends in a forced row of operations. -/
theorem region_round_tail {id : Nat} {a : Act} {w : World} {ops : List Oper} (k : Nat) (hm : P.follows .mixedOrders = true) (no : ¬ LetsOut Q) (hd : noDefer ops = true) (hB : Region.lexTailB .any ops.toArray k = true)
    (h : wpStill P ops.toArray w.drew (fun a' => wpList P ops.toArray Q (ops.drop k) a' w.drew) (ops.take k) a) : (Code.region id ops.toArray true).wpIn (Fence.wide.inRound l) n P Q a w := by
  simp only [Region.lexTailB, Bool.and_eq_true, decide_eq_true_eq] at hB
  obtain ⟨⟨⟨⟨hsel, hn⟩, hs⟩, hc⟩, hlex⟩ := hB
  have hn' : k < ops.length := by simpa using hn
  have htl : (ops.take k).length = k := by simp; omega
  have hdl : (ops.drop k).length = ops.toArray.size - k := by simp
  have inv0 : HeadInv .any ops.toArray k (Array.replicate ops.toArray.size false) :=
    ⟨by simp, fun j oj _ hl => (by rw [getD_replicate_false] at hl; cases hl), fun t _ ht => getD_in (by simpa using ht) (getD_replicate_false _ _)⟩
  have H := wpAnyL_lex (md := .any) (g := ops.toArray.size - k) hsel hs hc hn (ops.take k) 0 _ a (fun j hj => by
    have hj' : j < k := by rw [htl] at hj; exact hj
    simp [hj']) (by simpa using htl) inv0 (by rw [htl]; exact hlex) h
  refine wpIn_region_any hm (any_round (noDefer_spec hd) no _ _ _ _ ?_)
  have := wpAny_of_head (Q' := Q) (g := ops.toArray.size - k) (fun listed a' hL => by
    have := wpAny_of_seq (md := .any) (Q' := Q) (ops.drop k) k listed a' { w with drawn := w.drawn + 1 } (fun j => by simp [List.getElem?_drop]) (by rw [hdl]; exact hL.1) hL.2
    rwa [hdl] at this) _ _ _ H
  rw [htl, show k + (ops.toArray.size - k) = ops.toArray.size by omega] at this
  exact this
end

section
variable {P : Program}
/-- An iterator that goes from one state to the next, and knows, where it yields, what of its memory the round may read: J ahead of a round at a state, D behind it, Jx where a round has said 'no more'. -/
def Gives (P : Program) (gf : Nat) (lb : Array Value) {σ X : Type} (encs : X → Array Value) (nx : σ → Option σ) (Y : σ → X → World → Prop) (Kp : World → World → Prop) (s0 : σ) (w : World) : Prop :=
  ∀ (n l : Nat) (J D : σ → World → Prop) (Jx : World → Prop) (W : World), Below w.heap.size w W →
    (∀ s A B, J s A → Below A.heap.size A B → J s B) → (∀ s A B, D s A → Below A.heap.size A B → D s B) →
    (∀ s x A, J s A → Y s x A → YieldAt Fence.wide (n - 1) P l (encs x) A fun e B => (e = .returned (.bool true) ∧ D s B ∧ Kp A B) ∨ (e = .returned (.bool false) ∧ Jx B)) →
    (∀ s s' A, D s A → nx s = some s' → J s' A) → J s0 W →
    CallsIn Fence.wide n P gf (#[.func (.yield l) #[] #[]] ++ lb) W fun e B => (∃ v, e = .returned v) ∧ ((∃ s, nx s = none ∧ D s B) ∨ Jx B)

/-- How a round's body may be left. -/
def roundEnd (B : Nat) (Kp : World → World → Prop) (D : World → Prop) (Ix : Code → World → Prop) (W : World) : Exit → Act → World → Prop
  | .normal, _, W' => KeepsFrom B W W' ∧ Kp W W' ∧ D W'
  | .ret, _, W' => KeepsFrom B W W' ∧ Ix .ret W'
  | .exit id, _, W' => KeepsFrom B W W' ∧ Ix (.exit id) W'
  | .goto t, _, W' => KeepsFrom B W W' ∧ Ix (.goto t) W'
  | .panic _, _, _ => False
  | .outgrown, _, _ => False

theorem ownFrom_below_one {β : Type} {B : Nat} {I : β → World → Prop} (h : OwnFrom B I) {s : β} {X Y : World} (hs : I s X) (hb : Below X.heap.size X Y) : I s Y :=
  h s X Y none hs ⟨hb.os, hb.tape, hb.output, hb.size, fun k hk _ => hb.block k hk⟩ (fun r e => by cases e)

/-- The statement: what the caller owes is an invariant on its own cells and a walk of its own body. -/
theorem rangeFunc_gives {n : Nat} {σ X : Type} {g : Operand} {ps : Array Tmp} {assign body : Code} {Q : Exit → Act → World → Prop} {a : Act} {w : World}
    {gf : Nat} {lb : Array Value} (hg : a.eval g = .func (.func gf) #[] lb) (eg : ∀ args w, (callFunc gf args).run P w = .ok (.enter gf args) w)
    {encs : X → Array Value} {nx : σ → Option σ} {Y : σ → X → World → Prop} {Kp : World → World → Prop} {s0 : σ} {w0 : World} (hseq : Gives P gf lb encs nx Y Kp s0 w0)
    (hYo : ∀ x, OwnFrom w.heap.size (fun s W => Y s x W)) (hKt : ∀ {A B C : World}, Kp A B → Kp B C → Kp A C) (hKb : ∀ (W : World) (l : Nat) (o' : Obj), w.heap.size ≤ l → Kp W (W.putObj l o'))
    (hb0 : Below w0.heap.size w0 w) (hps : ∀ x, (encs x).size = ps.size)
    (J D : σ → World → Prop) (Ix : Code → World → Prop) (hJ : OwnFrom w.heap.size J) (hD : OwnFrom w.heap.size D) (hIx : OwnFrom w.heap.size Ix) (h0 : J s0 w)
    (hnx : ∀ s s' W, D s W → nx s = some s' → J s' W) (a₁ : X → Act)
    (hassign : ∀ (l : Nat) (x : X) (W : World) (K : Act → World → Prop), K (a₁ x) W →
      assign.wpIn (Fence.wide.inRound l) (n - 1 - 1) P (Exit.then K (fun _ _ _ => False)) { tmps := (ps.zip (encs x)).foldl (fun t (p, v) => t.setIfInBounds p v) a.tmps, defers := [] } W)
    (hbody : ∀ (l : Nat) (s : σ) (x : X) (W : World), w.heap.size ≤ W.heap.size → J s W → Y s x W → body.wpIn (Fence.wide.inRound l) (n - 1 - 1) P (roundEnd w.heap.size Kp (D s) Ix W) (a₁ x) W)
    (hdone : ∀ (D' : Nat) (s : σ) (W : World), w.heap.size ≤ D' → nx s = none → D s W → W.heap[D']? = some (.deferred (some [])) → Q .normal { a with defers := { target := .collected D', args := #[] } :: a.defers } W)
    (hstop : ∀ (D' : Nat) (c : Code) (W : World), w.heap.size ≤ D' → Ix c W → W.heap[D']? = some (.deferred (some [])) → c.wpIn Fence.wide n P Q { a with defers := { target := .collected D', args := #[] } :: a.defers } W) :
    (Code.rangeFunc g ps assign body).wpIn Fence.wide n P Q a w := by
  refine wpIn_rangeFunc ?_
  intro fn hfn
  obtain ⟨rec, hrec⟩ : ∃ rec : LoopState → Option Code → Loop, rec = fun st pe => { state := st, pending := pe, fn, tmps := a.tmps, params := ps, assign, body, defers := w.heap.size } := ⟨_, rfl⟩
  obtain ⟨W1, hW1⟩ : ∃ W1, (w.alloc (.deferred (some []))).alloc (.loop (rec .ready none)) = W1 := ⟨_, rfl⟩
  have hL1 : W1.heap[w.heap.size + 1]? = some (.loop (rec .ready none)) := by
    rw [← hW1]; have := World.alloc_heap_new (w.alloc (.deferred (some []))) (.loop (rec .ready none)); rwa [World.size_alloc] at this
  have hK1 : W1.heap[w.heap.size]? = some (.deferred (some [])) := by
    rw [← hW1]; exact (Below.heap_alloc _ _ _ (by simp)).trans (World.alloc_heap_new w _)
  have hI1 : J s0 W1 := by rw [← hW1]; exact hJ.alloc _ (hJ.alloc _ h0)
  have hb1 : Below w0.heap.size w0 W1 := by
    rw [← hW1]; exact hb0.trans ((((Below.refl _ w).alloc (Nat.le_refl _) _).alloc (by simp) _).mono hb0.size)
  refine ⟨w.heap.size + 1, [{ target := .collected w.heap.size, args := #[] }], W1, { target := .fn (.func gf) lb, args := #[.func (.yield (w.heap.size + 1)) #[] #[]] }, W1, gf,
    #[.func (.yield (w.heap.size + 1)) #[] #[]] ++ lb, W1, ?_, ?_, ?_, ?_, fun e => (by cases e), ?_⟩
  · rw [← hW1, hrec]; exact run_enterLoop_outer _ _ _ _ _
  · simp only [resolve, hg]
    simp [go_sem]
  · intro f' _; trivial
  · simp [invoke, go_sem, eg]
  · have at_ : ∀ {A B : World} {k : Nat} {o : Obj}, A.heap[k]? = some o → Below A.heap.size A B → B.heap[k]? = some o :=
      fun h hb => (hb.block _ (Array.getElem?_eq_some_iff.1 h).1).trans h
    refine (hseq (n - 1) (w.heap.size + 1)
      (fun s W => J s W ∧ W.heap[w.heap.size + 1]? = some (.loop (rec .ready none)) ∧ W.heap[w.heap.size]? = some (.deferred (some [])))
      (fun s W => D s W ∧ W.heap[w.heap.size + 1]? = some (.loop (rec .ready none)) ∧ W.heap[w.heap.size]? = some (.deferred (some [])))
      (fun W => ∃ c, Ix c W ∧ W.heap[w.heap.size + 1]? = some (.loop (rec .done (some c))) ∧ W.heap[w.heap.size]? = some (.deferred (some [])))
      W1 hb1
      (fun s A B hs hb => ⟨ownFrom_below_one hJ hs.1 hb, at_ hs.2.1 hb, at_ hs.2.2 hb⟩)
      (fun s A B hs hb => ⟨ownFrom_below_one hD hs.1 hb, at_ hs.2.1 hb, at_ hs.2.2 hb⟩)
      ?_ (fun s s' W hs hn => ⟨hnx s s' W hs.1 hn, hs.2⟩) ⟨hI1, hL1, hK1⟩).mono ?_
    · rintro s x W ⟨hi, hl, hk⟩ hY
      have hlt : w.heap.size + 1 < W.heap.size := (Array.getElem?_eq_some_iff.1 hl).1
      have hy := run_yield (P := P) (args := encs x) hl (by rw [hrec]; exact hps x)
      rw [hrec] at hy
      refine ⟨fn, _, assign, body, hy, roundIn_of_wpIn hfn (hassign _ x W _ ⟨_, run_beginRound hl (by rw [hrec]), ?_⟩)⟩
      have hl2 : (W.putObj (w.heap.size + 1) (.loop { rec .ready none with state := .busy })).heap[w.heap.size + 1]? = some (.loop { rec .ready none with state := .busy }) := World.putObj_heap_same hlt
      have hk2 : (W.putObj (w.heap.size + 1) (.loop { rec .ready none with state := .busy })).heap[w.heap.size]? = some (.deferred (some [])) := (World.putObj_heap_other (by omega)).trans hk
      have hw2 : Kp W (W.putObj (w.heap.size + 1) (.loop { rec .ready none with state := .busy })) := hKb _ _ _ (by omega)
      refine wpIn_mono (hbody _ s x _ (by rw [World.putObj_size]; omega) (hJ.putObj _ hi (by omega) hl rfl) ((hYo x).putObj _ hY (by omega) hl rfl)) ?_
      have fin : ∀ (jump : Option Code) (W3 : World), KeepsFrom w.heap.size (W.putObj (w.heap.size + 1) (.loop { rec .ready none with state := .busy })) W3 →
          (Instr.endRound (w.heap.size + 1) jump).run P W3 = .ok (.bool jump.isNone) (W3.putObj (w.heap.size + 1) (.loop (rec (if jump.isNone then .ready else .done) jump))) ∧
          W3.heap[w.heap.size + 1]? = some (.loop { rec .ready none with state := .busy }) ∧
          (W3.putObj (w.heap.size + 1) (.loop (rec (if jump.isNone then .ready else .done) jump))).heap[w.heap.size + 1]? = some (.loop (rec (if jump.isNone then .ready else .done) jump)) ∧
          (W3.putObj (w.heap.size + 1) (.loop (rec (if jump.isNone then .ready else .done) jump))).heap[w.heap.size]? = some (.deferred (some [])) := fun jump W3 hk3 => by
        have hl3 := hk3.same _ _ (by omega) hl2 rfl
        have := run_endRound (P := P) jump hl3
        rw [hrec] at this ⊢
        exact ⟨this, by rw [hrec] at hl3; exact hl3, World.putObj_heap_same (Array.getElem?_eq_some_iff.1 hl3).1, (World.putObj_heap_other (by omega)).trans (hk3.same _ _ (Nat.le_refl _) hk2 rfl)⟩
      rintro e a3 W3 hp
      cases e with
      | normal =>
        obtain ⟨hk3, hkp3, hi3⟩ := hp
        obtain ⟨hr, hl3, hl4, hk4⟩ := fin none W3 hk3
        exact ⟨_, _, hr, .inl ⟨rfl, ⟨hD.putObj _ hi3 (by omega) hl3 rfl, hl4, hk4⟩, hKt (hKt hw2 hkp3) (hKb _ _ _ (by omega))⟩⟩
      | ret =>
        obtain ⟨hk3, hi3⟩ := hp
        obtain ⟨hr, hl3, hl4, hk4⟩ := fin (some .ret) W3 hk3
        exact ⟨_, _, hr, .inr ⟨rfl, .ret, hIx.putObj _ hi3 (by omega) hl3 rfl, hl4, hk4⟩⟩
      | exit id =>
        obtain ⟨hk3, hi3⟩ := hp
        obtain ⟨hr, hl3, hl4, hk4⟩ := fin (some (.exit id)) W3 hk3
        exact ⟨_, _, hr, .inr ⟨rfl, .exit id, hIx.putObj _ hi3 (by omega) hl3 rfl, hl4, hk4⟩⟩
      | goto t =>
        obtain ⟨hk3, hi3⟩ := hp
        obtain ⟨hr, hl3, hl4, hk4⟩ := fin (some (.goto t)) W3 hk3
        exact ⟨_, _, hr, .inr ⟨rfl, .goto t, hIx.putObj _ hi3 (by omega) hl3 rfl, hl4, hk4⟩⟩
      | panic ch => exact hp.elim
      | outgrown => exact hp.elim
    · rintro e W2 ⟨⟨v, rfl⟩, (⟨s, hn, hi, hl, hk⟩ | ⟨c, hi, hl, hk⟩)⟩
      · exact ⟨none, _, by have := run_endLoop (P := P) hl (by rw [hrec]; simp); rw [hrec] at this; exact this, hdone _ s _ (Nat.le_refl _) hn (hD.putObj _ hi (by omega) hl rfl) ((World.putObj_heap_other (by omega)).trans hk)⟩
      · exact ⟨some c, _, by have := run_endLoop (P := P) hl (by rw [hrec]; simp); rw [hrec] at this; exact this, hstop _ c _ (Nat.le_refl _) (hIx.putObj _ hi (by omega) hl rfl) ((World.putObj_heap_other (by omega)).trans hk)⟩
end
end Go.Proofs.YtbdfglalohgahaaDoor
namespace Go.Proofs.YtbdfglalohgahaaDoor
open Go.RowKit
set_option linter.unusedVariables false

/-- What an iterator may turn: nothing below block B, and no cells of the types T. -/
structure Turns (T : TypeId → Prop) (B : Nat) (W W' : World) : Prop where
  bel : Below B W W'
  far : ∀ (b : Nat) (cs : Array Value) (t : TypeId) (z : Nat × Nat), W.heap[b]? = some (.cells cs t z) → T t → W'.heap[b]? = some (.cells cs t z)
/-- What a round may turn: nothing from block lo up to hi; from block B on cells of the types T alone. -/
structure Kp (T : TypeId → Prop) (lo hi B : Nat) (W W' : World) : Prop where
  size : W.heap.size ≤ W'.heap.size
  mid : ∀ b, lo ≤ b → b < hi → W'.heap[b]? = W.heap[b]?
  far : ∀ (b : Nat) (o : Obj), B ≤ b → W.heap[b]? = some o → (∀ cs t z, o = .cells cs t z → ¬ T t) → W'.heap[b]? = some o

section
variable {T : TypeId → Prop} {B B' lo hi : Nat} {X Y Z W W' : World}
theorem Turns.refl (T : TypeId → Prop) (B : Nat) (W : World) : Turns T B W W := ⟨Below.refl _ _, fun _ _ _ _ h _ => h⟩
theorem Turns.trans (h : Turns T B X Y) (k : Turns T B Y Z) : Turns T B X Z := ⟨h.bel.trans k.bel, fun b cs t z hb ht => k.far b cs t z (h.far b cs t z hb ht) ht⟩
theorem Turns.mono (h : Turns T B X Y) (hB : B' ≤ B) : Turns T B' X Y := ⟨h.bel.mono hB, h.far⟩
theorem Turns.of_below (h : Below X.heap.size X Y) (hB : B ≤ X.heap.size) : Turns T B X Y := ⟨h.mono hB, fun b cs t z hb _ => (h.block b (Array.getElem?_eq_some_iff.1 hb).1).trans hb⟩
theorem Turns.alloc (h : Turns T B X Y) (hB : B ≤ Y.heap.size) (o : Obj) : Turns T B X (Y.alloc o) := h.trans (.of_below ((Below.refl _ Y).alloc (Nat.le_refl _) o) hB)
theorem Turns.put (h : Turns T B X Y) {l : Nat} {o : Obj} (hl : Y.heap[l]? = some o) (hB : B ≤ l) (ho : o.isCells = false) (o' : Obj) : Turns T B X (Y.putObj l o') :=
  h.trans ⟨⟨rfl, rfl, rfl, by simp, fun k hk => World.putObj_heap_other (by omega)⟩, fun b cs t z hb _ => by
    by_cases e : b = l
    · subst e; rw [hl] at hb; cases hb; cases ho
    · rw [World.putObj_heap_other e]; exact hb⟩
theorem Turns.set (h : Turns T B X Y) {b : Nat} {t : TypeId} {v : Value} (hb : Boxed Y b t v) (hB : B ≤ b) (ht : ¬ T t) (u : Value) : Turns T B X (Y.setCell ⟨b, 0, none⟩ u) :=
  h.trans ⟨(Below.refl _ _).setCell (p := ⟨b, 0, none⟩) hB u, fun k cs t' z hk hT => by
    by_cases e : k = b
    · subst e; rw [show Y.heap[k]? = _ from hb] at hk; cases hk; exact absurd hT ht
    · rw [Below.heap_setCell _ _ _ k e]; exact hk⟩
theorem Turns.box (h : Turns T B W W') {b : Nat} {t : TypeId} {v : Value} (hb : Boxed W b t v) (hB : b < B) : Boxed W' b t v := (h.bel.block b hB).trans hb
theorem Turns.low (h : Turns T B W W') {b : Nat} {o : Obj} (hb : W.heap[b]? = some o) (hB : b < B) : W'.heap[b]? = some o := (h.bel.block b hB).trans hb

theorem Kp.refl (T : TypeId → Prop) (lo hi B : Nat) (W : World) : Kp T lo hi B W W := ⟨Nat.le_refl _, fun _ _ _ => rfl, fun _ _ _ h _ => h⟩
theorem Kp.trans (h : Kp T lo hi B X Y) (k : Kp T lo hi B Y Z) : Kp T lo hi B X Z := ⟨Nat.le_trans h.size k.size, fun b h1 h2 => (k.mid b h1 h2).trans (h.mid b h1 h2), fun b o hb ho ht => k.far b o hb (h.far b o hb ho ht) ht⟩
theorem Kp.later (h : Kp T lo hi B X Y) (hB : B ≤ B') : Kp T lo hi B' X Y := ⟨h.size, h.mid, fun b o hb => h.far b o (Nat.le_trans hB hb)⟩
theorem Kp.part {lo' hi' : Nat} (h : Kp T lo hi B X Y) (h1 : lo ≤ lo') (h2 : hi' ≤ hi) : Kp T lo' hi' B X Y := ⟨h.size, fun b a c => h.mid b (Nat.le_trans h1 a) (Nat.lt_of_lt_of_le c h2), h.far⟩
theorem Kp.of_below (h : Below X.heap.size X Y) (hhi : hi ≤ X.heap.size) : Kp T lo hi B X Y := ⟨h.size, fun b _ hb => h.block b (by omega), fun b o _ hb _ => (h.block b (Array.getElem?_eq_some_iff.1 hb).1).trans hb⟩
theorem Kp.alloc (h : Kp T lo hi B X Y) (hhi : hi ≤ Y.heap.size) (o : Obj) : Kp T lo hi B X (Y.alloc o) := h.trans (.of_below ((Below.refl _ Y).alloc (Nat.le_refl _) o) hhi)
theorem Kp.put (h : Kp T lo hi B X Y) {l : Nat} (hl : hi ≤ l) (hB : l < B) (o' : Obj) : Kp T lo hi B X (Y.putObj l o') :=
  h.trans ⟨by simp, fun b _ hb => World.putObj_heap_other (by omega), fun b o hb ho _ => by rw [World.putObj_heap_other (by omega)]; exact ho⟩
theorem Kp.set (h : Kp T lo hi B X Y) {b : Nat} (hB : b < B) (hb : b < lo ∨ hi ≤ b) (u : Value) : Kp T lo hi B X (Y.setCell ⟨b, 0, none⟩ u) :=
  h.trans ⟨by rw [World.size_setCell]; exact Nat.le_refl _, fun k h1 h2 => Below.heap_setCell _ _ _ k (by show k ≠ b; omega), fun k o hk ho _ => by rw [Below.heap_setCell _ _ _ k (by show k ≠ b; omega)]; exact ho⟩
theorem Kp.drew (h : Kp T lo hi B X Y) : Kp T lo hi B X Y.drew := ⟨h.size, h.mid, h.far⟩
theorem Turns.drew (h : Turns T B X Y) : Turns T B X Y.drew := ⟨h.bel.drew, h.far⟩
theorem boxed_drew {b : Nat} {t : TypeId} {v : Value} (h : Boxed W b t v) : Boxed W.drew b t v := h
theorem Kp.keeps (h : Kp T lo hi B W W') : KeepsFrom B W W' := ⟨h.size, fun k o hk ho hc => h.far k o hk ho (fun cs t z e => by subst e; cases hc)⟩
theorem Kp.box (h : Kp T lo hi B W W') {b : Nat} {t : TypeId} {v : Value} (hb : Boxed W b t v) (hB : B ≤ b) (ht : ¬ T t) : Boxed W' b t v := h.far b _ hB hb (fun cs t' z e => by cases e; exact ht)
theorem Kp.boxMid (h : Kp T lo hi B W W') {b : Nat} {t : TypeId} {v : Value} (hb : Boxed W b t v) (h1 : lo ≤ b) (h2 : b < hi) : Boxed W' b t v := (h.mid b h1 h2).trans hb
end

section
variable {P : Program}
/-- An iterator that goes from s0 to s1: at the state s it yields an x that leads on to the state s' (Y s x s'). What it reads lies from block lo up to where w ends. -/
def Goes (P : Program) (T : TypeId → Prop) (lo : Nat) (gf : Nat) (lb : Array Value) {σ X : Type} (encs : X → Array Value) (Y : σ → X → σ → Prop) (s0 s1 : σ) (w : World) : Prop :=
  ∀ (n l : Nat) (J : σ → World → Prop) (Jx : World → Prop) (W : World), Below w.heap.size w W → l < W.heap.size →
    (∀ s A B, J s A → W.heap.size ≤ A.heap.size → Turns T W.heap.size A B → J s B) → (∀ A B, Jx A → W.heap.size ≤ A.heap.size → Turns T W.heap.size A B → Jx B) →
    (∀ s x s' A, Y s x s' → W.heap.size ≤ A.heap.size → J s A → YieldAt Fence.wide (n - 1) P l (encs x) A fun e B => (e = .returned (.bool true) ∧ J s' B ∧ Kp T lo w.heap.size W.heap.size A B) ∨ (e = .returned (.bool false) ∧ Jx B ∧ Kp T lo w.heap.size W.heap.size A B)) →
    J s0 W →
    CallsIn Fence.wide n P gf (#[.func (.yield l) #[] #[]] ++ lb) W fun e B => (∃ v, e = .returned v) ∧ (J s1 B ∨ Jx B)
theorem yield_mono {m : Nat} {l : Nat} {args : Array Value} {W : World} {R R' : Ending → World → Prop} (h : YieldAt Fence.wide m P l args W R) (hr : ∀ e w, R e w → R' e w) : YieldAt Fence.wide m P l args W R' := by
  obtain ⟨fn, tmps, assign, body, h1, h2⟩ := h
  exact ⟨fn, tmps, assign, body, h1, h2.mono hr⟩
theorem Goes.later {T : TypeId → Prop} {lo gf : Nat} {lb : Array Value} {σ X : Type} {encs : X → Array Value} {Y : σ → X → σ → Prop} {s0 s1 : σ} {w w' : World} (h : Goes P T lo gf lb encs Y s0 s1 w) (hb : Below w.heap.size w w') : Goes P T lo gf lb encs Y s0 s1 w' :=
  fun n l J Jx W hW hl hJ hJx hY h0 => h n l J Jx W (hb.trans (hW.mono hb.size)) hl hJ hJx (fun s x s' A y hA j => yield_mono (hY s x s' A y hA j) fun e B hp => by
    rcases hp with ⟨a, b, c⟩ | ⟨a, b, c⟩
    · exact .inl ⟨a, b, c.part (Nat.le_refl _) hb.size⟩
    · exact .inr ⟨a, b, c.part (Nat.le_refl _) hb.size⟩) h0

/-- How a round's body may be left. -/
def goesEnd (T : TypeId → Prop) (lo hi B : Nat) (J : World → Prop) (Ix : Code → World → Prop) (W : World) : Exit → Act → World → Prop
  | .normal, _, W' => Kp T lo hi B W W' ∧ J W'
  | .ret, _, W' => Kp T lo hi B W W' ∧ Ix .ret W'
  | .exit id, _, W' => Kp T lo hi B W W' ∧ Ix (.exit id) W'
  | .goto t, _, W' => Kp T lo hi B W W' ∧ Ix (.goto t) W'
  | .panic _, _, _ => False
  | .outgrown, _, _ => False

/-- The statement: what the caller owes is an invariant that bears what the iterator turns, and a walk of its own body. -/
theorem rangeFunc_goes {n : Nat} {T : TypeId → Prop} {lo : Nat} {σ X : Type} {g : Operand} {ps : Array Tmp} {assign body : Code} {Q : Exit → Act → World → Prop} {a : Act} {w : World}
    {gf : Nat} {lb : Array Value} (hg : a.eval g = .func (.func gf) #[] lb) (eg : ∀ args w, (callFunc gf args).run P w = .ok (.enter gf args) w)
    {encs : X → Array Value} {Y : σ → X → σ → Prop} {s0 s1 : σ} {w0 : World} (hseq : Goes P T lo gf lb encs Y s0 s1 w0)
    (hb0 : Below w0.heap.size w0 w) (hps : ∀ x, (encs x).size = ps.size)
    (J : σ → World → Prop) (Ix : Code → World → Prop) (hJ : ∀ s A B, J s A → w.heap.size ≤ A.heap.size → Turns T w.heap.size A B → J s B) (hIx : ∀ c A B, Ix c A → w.heap.size ≤ A.heap.size → Turns T w.heap.size A B → Ix c B) (h0 : J s0 w)
    (a₁ : X → Act)
    (hassign : ∀ (l : Nat) (x : X) (W : World) (K : Act → World → Prop), K (a₁ x) W →
      assign.wpIn (Fence.wide.inRound l) (n - 1 - 1) P (Exit.then K (fun _ _ _ => False)) { tmps := (ps.zip (encs x)).foldl (fun t (p, v) => t.setIfInBounds p v) a.tmps, defers := [] } W)
    (hbody : ∀ (l : Nat) (s : σ) (x : X) (s' : σ) (W : World), w.heap.size ≤ W.heap.size → Y s x s' → J s W → body.wpIn (Fence.wide.inRound l) (n - 1 - 1) P (goesEnd T lo w0.heap.size w.heap.size (J s') Ix W) (a₁ x) W)
    (hdone : ∀ (D' : Nat) (W : World), w.heap.size ≤ D' → w.heap.size ≤ W.heap.size → J s1 W → W.heap[D']? = some (.deferred (some [])) → Q .normal { a with defers := { target := .collected D', args := #[] } :: a.defers } W)
    (hstop : ∀ (D' : Nat) (c : Code) (W : World), w.heap.size ≤ D' → w.heap.size ≤ W.heap.size → Ix c W → W.heap[D']? = some (.deferred (some [])) → c.wpIn Fence.wide n P Q { a with defers := { target := .collected D', args := #[] } :: a.defers } W) :
    (Code.rangeFunc g ps assign body).wpIn Fence.wide n P Q a w := by
  refine wpIn_rangeFunc ?_
  intro fn hfn
  have hw0 := hb0.size
  obtain ⟨rec, hrec⟩ : ∃ rec : LoopState → Option Code → Loop, rec = fun st pe => { state := st, pending := pe, fn, tmps := a.tmps, params := ps, assign, body, defers := w.heap.size } := ⟨_, rfl⟩
  obtain ⟨W1, hW1⟩ : ∃ W1, (w.alloc (.deferred (some []))).alloc (.loop (rec .ready none)) = W1 := ⟨_, rfl⟩
  have hz1 : W1.heap.size = w.heap.size + 2 := by rw [← hW1]; simp
  have hL1 : W1.heap[w.heap.size + 1]? = some (.loop (rec .ready none)) := by
    rw [← hW1]; have := World.alloc_heap_new (w.alloc (.deferred (some []))) (.loop (rec .ready none)); rwa [World.size_alloc] at this
  have hK1 : W1.heap[w.heap.size]? = some (.deferred (some [])) := by
    rw [← hW1]; exact (Below.heap_alloc _ _ _ (by simp)).trans (World.alloc_heap_new w _)
  have hI1 : J s0 W1 := by rw [← hW1]; exact hJ _ _ _ h0 (Nat.le_refl _) (((Turns.refl T _ w).alloc (Nat.le_refl _) _).alloc (by simp) _)
  have hb1 : Below w0.heap.size w0 W1 := by
    rw [← hW1]; exact hb0.trans ((((Below.refl _ w).alloc (Nat.le_refl _) _).alloc (by simp) _).mono hb0.size)
  refine ⟨w.heap.size + 1, [{ target := .collected w.heap.size, args := #[] }], W1, { target := .fn (.func gf) lb, args := #[.func (.yield (w.heap.size + 1)) #[] #[]] }, W1, gf,
    #[.func (.yield (w.heap.size + 1)) #[] #[]] ++ lb, W1, ?_, ?_, ?_, ?_, fun e => (by cases e), ?_⟩
  · rw [← hW1, hrec]; exact run_enterLoop_outer _ _ _ _ _
  · simp only [resolve, hg]
    simp [go_sem]
  · intro f' _; trivial
  · simp [invoke, go_sem, eg]
  · refine (hseq (n - 1) (w.heap.size + 1)
      (fun s W => (J s W ∧ w.heap.size ≤ W.heap.size) ∧ W.heap[w.heap.size + 1]? = some (.loop (rec .ready none)) ∧ W.heap[w.heap.size]? = some (.deferred (some [])))
      (fun W => ∃ c, (Ix c W ∧ w.heap.size ≤ W.heap.size) ∧ W.heap[w.heap.size + 1]? = some (.loop (rec .done (some c))) ∧ W.heap[w.heap.size]? = some (.deferred (some [])))
      W1 hb1 (by omega)
      (fun s A B hs hA hT => ⟨⟨hJ s A B hs.1.1 (by omega) (hT.mono (by omega)), Nat.le_trans hs.1.2 hT.bel.size⟩, hT.low hs.2.1 (by omega), hT.low hs.2.2 (by omega)⟩)
      (fun A B hs hA hT => by obtain ⟨c, h1, h2, h3⟩ := hs; exact ⟨c, ⟨hIx c A B h1.1 (by omega) (hT.mono (by omega)), Nat.le_trans h1.2 hT.bel.size⟩, hT.low h2 (by omega), hT.low h3 (by omega)⟩)
      ?_ ⟨⟨hI1, by omega⟩, hL1, hK1⟩).mono ?_
    · rintro s x s' W hy' hWs ⟨⟨hi, hsz⟩, hl, hk⟩
      have hlt : w.heap.size + 1 < W.heap.size := (Array.getElem?_eq_some_iff.1 hl).1
      have hy := run_yield (P := P) (args := encs x) hl (by rw [hrec]; exact hps x)
      rw [hrec] at hy
      refine ⟨fn, _, assign, body, hy, roundIn_of_wpIn hfn (hassign _ x W _ ⟨_, run_beginRound hl (by rw [hrec]), ?_⟩)⟩
      have hl2 : (W.putObj (w.heap.size + 1) (.loop { rec .ready none with state := .busy })).heap[w.heap.size + 1]? = some (.loop { rec .ready none with state := .busy }) := World.putObj_heap_same hlt
      have hk2 : (W.putObj (w.heap.size + 1) (.loop { rec .ready none with state := .busy })).heap[w.heap.size]? = some (.deferred (some [])) := (World.putObj_heap_other (by omega)).trans hk
      have hw2 : Kp T lo w0.heap.size W1.heap.size W (W.putObj (w.heap.size + 1) (.loop { rec .ready none with state := .busy })) := (Kp.refl _ _ _ _ _).put (by omega) (by omega) _
      refine wpIn_mono (hbody _ s x s' _ (by rw [World.putObj_size]; omega) hy' (hJ _ _ _ hi (by omega) ((Turns.refl T _ W).put hl (by omega) rfl _))) ?_
      have fin : ∀ (jump : Option Code) (W3 : World), Kp T lo w0.heap.size w.heap.size (W.putObj (w.heap.size + 1) (.loop { rec .ready none with state := .busy })) W3 →
          (Instr.endRound (w.heap.size + 1) jump).run P W3 = .ok (.bool jump.isNone) (W3.putObj (w.heap.size + 1) (.loop (rec (if jump.isNone then .ready else .done) jump))) ∧
          W3.heap[w.heap.size + 1]? = some (.loop { rec .ready none with state := .busy }) ∧
          (W3.putObj (w.heap.size + 1) (.loop (rec (if jump.isNone then .ready else .done) jump))).heap[w.heap.size + 1]? = some (.loop (rec (if jump.isNone then .ready else .done) jump)) ∧
          (W3.putObj (w.heap.size + 1) (.loop (rec (if jump.isNone then .ready else .done) jump))).heap[w.heap.size]? = some (.deferred (some [])) ∧
          Kp T lo w0.heap.size W1.heap.size W (W3.putObj (w.heap.size + 1) (.loop (rec (if jump.isNone then .ready else .done) jump))) ∧ w.heap.size ≤ W3.heap.size := fun jump W3 hk3 => by
        have hl3 := hk3.keeps.same _ _ (by omega) hl2 rfl
        have := run_endRound (P := P) jump hl3
        have hz := hk3.size
        rw [World.putObj_size] at hz
        rw [hrec] at this ⊢
        exact ⟨this, by rw [hrec] at hl3; exact hl3, World.putObj_heap_same (Array.getElem?_eq_some_iff.1 hl3).1, (World.putObj_heap_other (by omega)).trans (hk3.keeps.same _ _ (Nat.le_refl _) hk2 rfl),
          ((hw2.trans (hk3.later (by omega))).put (by omega) (by omega) _), by omega⟩
      rintro e a3 W3 hp
      cases e with
      | normal =>
        obtain ⟨hk3, hi3⟩ := hp
        obtain ⟨hr, hl3, hl4, hk4, hk5, hz3⟩ := fin none W3 hk3
        exact ⟨_, _, hr, .inl ⟨rfl, ⟨⟨hJ _ _ _ hi3 hz3 ((Turns.refl T _ W3).put hl3 (by omega) rfl _), by rw [World.putObj_size]; exact hz3⟩, hl4, hk4⟩, hk5⟩⟩
      | ret =>
        obtain ⟨hk3, hi3⟩ := hp
        obtain ⟨hr, hl3, hl4, hk4, hk5, hz3⟩ := fin (some .ret) W3 hk3
        exact ⟨_, _, hr, .inr ⟨rfl, ⟨.ret, ⟨hIx _ _ _ hi3 hz3 ((Turns.refl T _ W3).put hl3 (by omega) rfl _), by rw [World.putObj_size]; exact hz3⟩, hl4, hk4⟩, hk5⟩⟩
      | exit id =>
        obtain ⟨hk3, hi3⟩ := hp
        obtain ⟨hr, hl3, hl4, hk4, hk5, hz3⟩ := fin (some (.exit id)) W3 hk3
        exact ⟨_, _, hr, .inr ⟨rfl, ⟨.exit id, ⟨hIx _ _ _ hi3 hz3 ((Turns.refl T _ W3).put hl3 (by omega) rfl _), by rw [World.putObj_size]; exact hz3⟩, hl4, hk4⟩, hk5⟩⟩
      | goto t =>
        obtain ⟨hk3, hi3⟩ := hp
        obtain ⟨hr, hl3, hl4, hk4, hk5, hz3⟩ := fin (some (.goto t)) W3 hk3
        exact ⟨_, _, hr, .inr ⟨rfl, ⟨.goto t, ⟨hIx _ _ _ hi3 hz3 ((Turns.refl T _ W3).put hl3 (by omega) rfl _), by rw [World.putObj_size]; exact hz3⟩, hl4, hk4⟩, hk5⟩⟩
      | panic ch => exact hp.elim
      | outgrown => exact hp.elim
    · rintro e W2 ⟨⟨v, rfl⟩, (⟨⟨hi, hz⟩, hl, hk⟩ | ⟨c, ⟨hi, hz⟩, hl, hk⟩)⟩
      · exact ⟨none, _, by have := run_endLoop (P := P) hl (by rw [hrec]; simp); rw [hrec] at this; exact this, hdone _ _ (Nat.le_refl _) (by rw [World.putObj_size]; exact hz) (hJ _ _ _ hi hz ((Turns.refl T _ W2).put hl (by omega) rfl _)) ((World.putObj_heap_other (by omega)).trans hk)⟩
      · exact ⟨some c, _, by have := run_endLoop (P := P) hl (by rw [hrec]; simp); rw [hrec] at this; exact this, hstop _ c _ (Nat.le_refl _) (by rw [World.putObj_size]; exact hz) (hIx _ _ _ hi hz ((Turns.refl T _ W2).put hl (by omega) rfl _)) ((World.putObj_heap_other (by omega)).trans hk)⟩
end

section
variable {P : Program} {r : Option Nat} {n : Nat} {Q : Exit → Act → World → Prop}
/-- The wide fence, in a round or in none. -/
abbrev wideAt (r : Option Nat) : Fence := { Fence.wide with round := r }
theorem wpOpIn_of_stOp {ops : Array Oper} (hn : ∀ o ∈ ops, ∀ c, o.op ≠ .defer c) {w : World} {i : Nat} {a : Act} {K : Act → Prop} {K' : Act → World → Prop} (h : ∀ a, K a → K' a w) (hh : stOp P ops w i K a) : wpOpIn (wideAt r) n P ops Q i K' a w := by
  unfold stOp at hh
  unfold wpOpIn
  cases ho : ops[i]? with
  | none => simp only [ho] at hh; exact h _ hh
  | some o =>
    simp only [ho] at hh ⊢
    by_cases hw : Region.wanted o (yielded ops a.tmps) = true
    · rw [if_pos hw] at hh ⊢
      unfold Oper.wpIn
      refine ⟨fun f _ => trivial, ?_⟩
      have hs : o.semAt (wideAt r).round a.eval = execOp a.eval o := by
        cases r with
        | none => exact Oper.semAt_none _ _
        | some l => exact Oper.semAt_some l _ _ (hn o (Array.mem_of_getElem? ho))
      rw [hs]
      unfold Oper.still at hh
      generalize (execOp a.eval o).run P w = z at *
      cases z with
      | ok x w' =>
        cases x <;> simp only [Oper.stillUpon, Oper.uponIn] at hh ⊢
        case value u => obtain ⟨rfl, h2⟩ := hh; exact h _ h2
        case skip => obtain ⟨rfl, h2⟩ := hh; exact h _ h2
        case enter f args =>
          obtain ⟨rfl, v, hc, h2⟩ := hh
          have h3 : CallsIn (wideAt r) (n - 1) P f args w' (fun e w'' => e = .returned v ∧ w'' = w') := callsIn_wide (n := n - 1) |>.2 hc
          refine ⟨fun e => (by cases e), h3.mono ?_⟩
          rintro e w'' ⟨rfl, rfl⟩
          exact h _ h2
      | halt x w' => simp only [Oper.stillUpon] at hh
    · rw [if_neg hw] at hh ⊢
      exact ⟨fun f _ => trivial, h _ hh⟩
theorem wpAnyIn_of_head {ops : Array Oper} {md : Region.Mode} (hd : ∀ o ∈ ops, ∀ c, o.op ≠ .defer c) {w : World} {k g : Nat} {L : Array Bool → Act → Prop} (hL : ∀ listed a, L listed a → wpAnyIn (wideAt r) n P md ops Q g listed a w) :
    ∀ (f : Nat) (listed : Array Bool) (a : Act), wpAnyL P md ops w k L f listed a → wpAnyIn (wideAt r) n P md ops Q (f + g) listed a w
  | 0, listed, a, h => by rw [Nat.zero_add]; exact hL _ _ h
  | f + 1, listed, a, h => by
    rw [show f + 1 + g = (f + g) + 1 by omega]
    exact ⟨fun h0 => absurd h0 h.1, fun i hi => wpOpIn_of_stOp hd (fun a' h' => wpAnyIn_of_head hd hL f _ a' h') (h.2 i hi).2⟩
theorem wpAnyIn_of_seq {ops : Array Oper} {md : Region.Mode} : ∀ (l : List Oper) (k : Nat) (listed : Array Bool) (a : Act) (w : World), (∀ j, l[j]? = ops[k + j]?) →
    Region.seqB md ops l.length k listed = true → wpListIn (wideAt r) n P ops Q l a w → wpAnyIn (wideAt r) n P md ops Q l.length listed a w
  | [], _, _, _, _, _, hB, h => ⟨by simpa [Region.seqB] using hB, h⟩
  | o :: l, k, listed, a, w, hl, hB, h => by
    have h0 : ops[k]? = some o := by simpa using (hl 0).symm
    simp only [List.length_cons, Region.seqB, Bool.and_eq_true, decide_eq_true_eq] at hB
    refine ⟨fun h1 => (by rw [hB.1] at h1; cases h1), fun i hi => ?_⟩
    rw [hB.1] at hi
    have hik : i = k := by simpa using hi
    subst hik
    have hw : wpOpIn (wideAt r) n P ops Q i (wpListIn (wideAt r) n P ops Q l) a w := by unfold wpOpIn; simp only [h0]; exact h
    exact wpOpIn_mono (fun a' w' h' => wpAnyIn_of_seq l (i + 1) _ a' w' (fun j => by have := hl (j + 1); simpa [Nat.add_assoc, Nat.add_comm 1 j] using this) hB.2 h') hw
/-- A region that draws its order, reads first, and ends in a forced row of operations, a call of yield among them. -/
theorem region_goes_tail {id : Nat} {a : Act} {w : World} {ops : List Oper} (k : Nat) (hm : P.follows .mixedOrders = true) (hd : noDefer ops = true) (hB : Region.lexTailB .any ops.toArray k = true)
    (h : wpStill P ops.toArray w.drew (fun a' => wpListIn (wideAt r) n P ops.toArray Q (ops.drop k) a' w.drew) (ops.take k) a) : (Code.region id ops.toArray true).wpIn (wideAt r) n P Q a w := by
  simp only [Region.lexTailB, Bool.and_eq_true, decide_eq_true_eq] at hB
  obtain ⟨⟨⟨⟨hsel, hn⟩, hs⟩, hc⟩, hlex⟩ := hB
  have hn' : k < ops.length := by simpa using hn
  have htl : (ops.take k).length = k := by simp; omega
  have hdl : (ops.drop k).length = ops.toArray.size - k := by simp
  have inv0 : HeadInv .any ops.toArray k (Array.replicate ops.toArray.size false) :=
    ⟨by simp, fun j oj _ hl => (by rw [getD_replicate_false] at hl; cases hl), fun t _ ht => getD_in (by simpa using ht) (getD_replicate_false _ _)⟩
  have H := wpAnyL_lex (md := .any) (g := ops.toArray.size - k) hsel hs hc hn (ops.take k) 0 _ a (fun j hj => by
    have hj' : j < k := by rw [htl] at hj; exact hj
    simp [hj']) (by simpa using htl) inv0 (by rw [htl]; exact hlex) h
  refine wpIn_region_any hm ?_
  have := wpAnyIn_of_head (r := r) (n := n) (Q := Q) (noDefer_spec hd) (g := ops.toArray.size - k) (fun listed a' hL => by
    have := wpAnyIn_of_seq (md := .any) (r := r) (n := n) (Q := Q) (ops.drop k) k listed a' { w with drawn := w.drawn + 1 } (fun j => by simp [List.getElem?_drop]) (by rw [hdl]; exact hL.1) hL.2
    rwa [hdl] at this) _ _ _ H
  rw [htl, show k + (ops.toArray.size - k) = ops.toArray.size by omega] at this
  exact this
theorem region_round_goes {l : Nat} {id : Nat} {a : Act} {w : World} {ops : List Oper} (k : Nat) (hm : P.follows .mixedOrders = true) (hd : noDefer ops = true) (hB : Region.lexTailB .any ops.toArray k = true)
    (h : wpStill P ops.toArray w.drew (fun a' => wpListIn (Fence.wide.inRound l) n P ops.toArray Q (ops.drop k) a' w.drew) (ops.take k) a) : (Code.region id ops.toArray true).wpIn (Fence.wide.inRound l) n P Q a w := region_goes_tail (r := some l) k hm hd hB h
theorem region_wide_goes {id : Nat} {a : Act} {w : World} {ops : List Oper} (k : Nat) (hm : P.follows .mixedOrders = true) (hd : noDefer ops = true) (hB : Region.lexTailB .any ops.toArray k = true)
    (h : wpStill P ops.toArray w.drew (fun a' => wpListIn Fence.wide n P ops.toArray Q (ops.drop k) a' w.drew) (ops.take k) a) : (Code.region id ops.toArray true).wpIn Fence.wide n P Q a w := region_goes_tail (r := none) k hm hd hB h
end
/-- A call of yield, at any depth, in a round or in none. -/
theorem yield_any {P : Program} {m l : Nat} {args : Array Value} {W : World} {R : Ending → World → Prop} (h : YieldAt Fence.wide m P l args W R) :
    ∃ fn tmps assign body, (Instr.yield l args).run P W = .ok (.round l fn tmps assign body) W ∧ ∀ (r : Option Nat) (m' : Nat), RoundIn (wideAt r) m' P l fn tmps assign body W R := by
  obtain ⟨fn, tmps, assign, body, h1, h2⟩ := h
  exact ⟨fn, tmps, assign, body, h1, fun r m' => ⟨h2.1, fun c cs _ => h2.2 c cs (by intro d e; cases e)⟩⟩
end Go.Proofs.YtbdfglalohgahaaDoor
namespace Go.Proofs.YtbdfglalohgahaaDoor
open Go.RowKit
set_option linter.unusedVariables false

/-- What a round may turn: nothing below block lo; from block B on cells of the types T alone. -/
structure Kq (T : TypeId → Prop) (lo B : Nat) (W W' : World) : Prop where
  size : W.heap.size ≤ W'.heap.size
  mid : ∀ (b : Nat), b < lo → W'.heap[b]? = W.heap[b]?
  far : ∀ (b : Nat) (o : Obj), B ≤ b → W.heap[b]? = some o → (∀ cs t z, o = .cells cs t z → ¬ T t) → W'.heap[b]? = some o

section
variable {T : TypeId → Prop} {B B' lo : Nat} {X Y Z W W' : World}
theorem Kq.refl (T : TypeId → Prop) (lo B : Nat) (W : World) : Kq T lo B W W := ⟨Nat.le_refl _, fun _ _ => rfl, fun _ _ _ h _ => h⟩
theorem Kq.trans (h : Kq T lo B X Y) (k : Kq T lo B Y Z) : Kq T lo B X Z := ⟨Nat.le_trans h.size k.size, fun b h1 => (k.mid b h1).trans (h.mid b h1), fun b o hb ho ht => k.far b o hb (h.far b o hb ho ht) ht⟩
theorem Kq.later (h : Kq T lo B X Y) (hB : B ≤ B') : Kq T lo B' X Y := ⟨h.size, h.mid, fun b o hb => h.far b o (Nat.le_trans hB hb)⟩
theorem Kq.of_below (h : Below X.heap.size X Y) (hl : lo ≤ X.heap.size) : Kq T lo B X Y := ⟨h.size, fun b hb => h.block b (by omega), fun b o _ hb _ => (h.block b (Array.getElem?_eq_some_iff.1 hb).1).trans hb⟩
theorem Kq.alloc (h : Kq T lo B X Y) (hl : lo ≤ Y.heap.size) (o : Obj) : Kq T lo B X (Y.alloc o) := h.trans (.of_below ((Below.refl _ Y).alloc (Nat.le_refl _) o) hl)
theorem Kq.put (h : Kq T lo B X Y) {l : Nat} (hl : lo ≤ l) (hB : l < B) (o' : Obj) : Kq T lo B X (Y.putObj l o') :=
  h.trans ⟨by simp, fun b hb => World.putObj_heap_other (by omega), fun b o hb ho _ => by rw [World.putObj_heap_other (by omega)]; exact ho⟩
theorem Kq.set (h : Kq T lo B X Y) {b : Nat} (hB : b < B) (hb : lo ≤ b) (u : Value) : Kq T lo B X (Y.setCell ⟨b, 0, none⟩ u) :=
  h.trans ⟨by rw [World.size_setCell]; exact Nat.le_refl _, fun k h1 => Below.heap_setCell _ _ _ k (by show k ≠ b; omega), fun k o hk ho _ => by rw [Below.heap_setCell _ _ _ k (by show k ≠ b; omega)]; exact ho⟩
theorem Kq.drew (h : Kq T lo B X Y) : Kq T lo B X Y.drew := ⟨h.size, h.mid, h.far⟩
theorem Kq.keeps (h : Kq T lo B W W') : KeepsFrom B W W' := ⟨h.size, fun k o hk ho hc => h.far k o hk ho (fun cs t z e => by subst e; cases hc)⟩
end

section
variable {P : Program}
/-- An iterator that goes from s0 to s1: at the state s it yields an x that leads on to the state s' (Y s x s'). What it reads, once it has yielded, lies below block lo. -/
def Hoes (P : Program) (T : TypeId → Prop) (lo : Nat) (gf : Nat) (lb : Array Value) {σ X : Type} (encs : X → Array Value) (Y : σ → X → σ → Prop) (s0 s1 : σ) (w : World) : Prop :=
  ∀ (n l : Nat) (J : σ → World → Prop) (Jx : World → Prop) (W : World), Below w.heap.size w W → l < W.heap.size →
    (∀ s A B, J s A → W.heap.size ≤ A.heap.size → Turns T W.heap.size A B → J s B) → (∀ A B, Jx A → W.heap.size ≤ A.heap.size → Turns T W.heap.size A B → Jx B) →
    (∀ s x s' A, Y s x s' → W.heap.size ≤ A.heap.size → J s A → YieldAt Fence.wide (n - 1) P l (encs x) A fun e B => (e = .returned (.bool true) ∧ J s' B ∧ Kq T lo W.heap.size A B) ∨ (e = .returned (.bool false) ∧ Jx B ∧ Kq T lo W.heap.size A B)) →
    J s0 W →
    CallsIn Fence.wide n P gf (#[.func (.yield l) #[] #[]] ++ lb) W fun e B => (∃ v, e = .returned v) ∧ (J s1 B ∨ Jx B)
theorem Hoes.later {T : TypeId → Prop} {lo gf : Nat} {lb : Array Value} {σ X : Type} {encs : X → Array Value} {Y : σ → X → σ → Prop} {s0 s1 : σ} {w w' : World} (h : Hoes P T lo gf lb encs Y s0 s1 w) (hb : Below w.heap.size w w') : Hoes P T lo gf lb encs Y s0 s1 w' :=
  fun n l J Jx W hW hl hJ hJx hY h0 => h n l J Jx W (hb.trans (hW.mono hb.size)) hl hJ hJx hY h0

/-- How a round's body may be left. -/
def hoesEnd (T : TypeId → Prop) (lo B : Nat) (J : World → Prop) (Ix : Code → World → Prop) (W : World) : Exit → Act → World → Prop
  | .normal, _, W' => Kq T lo B W W' ∧ J W'
  | .ret, _, W' => Kq T lo B W W' ∧ Ix .ret W'
  | .exit id, _, W' => Kq T lo B W W' ∧ Ix (.exit id) W'
  | .goto t, _, W' => Kq T lo B W W' ∧ Ix (.goto t) W'
  | .panic _, _, _ => False
  | .outgrown, _, _ => False

/-- The statement: what the caller owes is an invariant that bears what the iterator turns, and a walk of its own body. -/
theorem rangeFunc_hoes {n : Nat} {T : TypeId → Prop} {lo : Nat} {σ X : Type} {g : Operand} {ps : Array Tmp} {assign body : Code} {Q : Exit → Act → World → Prop} {a : Act} {w : World}
    {gf : Nat} {lb : Array Value} (hg : a.eval g = .func (.func gf) #[] lb) (eg : ∀ args w, (callFunc gf args).run P w = .ok (.enter gf args) w)
    {encs : X → Array Value} {Y : σ → X → σ → Prop} {s0 s1 : σ} {w0 : World} (hseq : Hoes P T lo gf lb encs Y s0 s1 w0)
    (hb0 : Below w0.heap.size w0 w) (hlo : lo ≤ w0.heap.size) (hps : ∀ x, (encs x).size = ps.size)
    (J : σ → World → Prop) (Ix : Code → World → Prop) (hJ : ∀ s A B, J s A → w.heap.size ≤ A.heap.size → Turns T w.heap.size A B → J s B) (hIx : ∀ c A B, Ix c A → w.heap.size ≤ A.heap.size → Turns T w.heap.size A B → Ix c B) (h0 : J s0 w)
    (a₁ : X → Act)
    (hassign : ∀ (l : Nat) (x : X) (W : World) (K : Act → World → Prop), K (a₁ x) W →
      assign.wpIn (Fence.wide.inRound l) (n - 1 - 1) P (Exit.then K (fun _ _ _ => False)) { tmps := (ps.zip (encs x)).foldl (fun t (p, v) => t.setIfInBounds p v) a.tmps, defers := [] } W)
    (hbody : ∀ (l : Nat) (s : σ) (x : X) (s' : σ) (W : World), w.heap.size ≤ W.heap.size → Y s x s' → J s W → body.wpIn (Fence.wide.inRound l) (n - 1 - 1) P (hoesEnd T lo w.heap.size (J s') Ix W) (a₁ x) W)
    (hdone : ∀ (D' : Nat) (W : World), w.heap.size ≤ D' → w.heap.size ≤ W.heap.size → J s1 W → W.heap[D']? = some (.deferred (some [])) → Q .normal { a with defers := { target := .collected D', args := #[] } :: a.defers } W)
    (hstop : ∀ (D' : Nat) (c : Code) (W : World), w.heap.size ≤ D' → w.heap.size ≤ W.heap.size → Ix c W → W.heap[D']? = some (.deferred (some [])) → c.wpIn Fence.wide n P Q { a with defers := { target := .collected D', args := #[] } :: a.defers } W) :
    (Code.rangeFunc g ps assign body).wpIn Fence.wide n P Q a w := by
  refine wpIn_rangeFunc ?_
  intro fn hfn
  have hw0 := hb0.size
  obtain ⟨rec, hrec⟩ : ∃ rec : LoopState → Option Code → Loop, rec = fun st pe => { state := st, pending := pe, fn, tmps := a.tmps, params := ps, assign, body, defers := w.heap.size } := ⟨_, rfl⟩
  obtain ⟨W1, hW1⟩ : ∃ W1, (w.alloc (.deferred (some []))).alloc (.loop (rec .ready none)) = W1 := ⟨_, rfl⟩
  have hz1 : W1.heap.size = w.heap.size + 2 := by rw [← hW1]; simp
  have hL1 : W1.heap[w.heap.size + 1]? = some (.loop (rec .ready none)) := by
    rw [← hW1]; have := World.alloc_heap_new (w.alloc (.deferred (some []))) (.loop (rec .ready none)); rwa [World.size_alloc] at this
  have hK1 : W1.heap[w.heap.size]? = some (.deferred (some [])) := by
    rw [← hW1]; exact (Below.heap_alloc _ _ _ (by simp)).trans (World.alloc_heap_new w _)
  have hI1 : J s0 W1 := by rw [← hW1]; exact hJ _ _ _ h0 (Nat.le_refl _) (((Turns.refl T _ w).alloc (Nat.le_refl _) _).alloc (by simp) _)
  have hb1 : Below w0.heap.size w0 W1 := by
    rw [← hW1]; exact hb0.trans ((((Below.refl _ w).alloc (Nat.le_refl _) _).alloc (by simp) _).mono hb0.size)
  refine ⟨w.heap.size + 1, [{ target := .collected w.heap.size, args := #[] }], W1, { target := .fn (.func gf) lb, args := #[.func (.yield (w.heap.size + 1)) #[] #[]] }, W1, gf,
    #[.func (.yield (w.heap.size + 1)) #[] #[]] ++ lb, W1, ?_, ?_, ?_, ?_, fun e => (by cases e), ?_⟩
  · rw [← hW1, hrec]; exact run_enterLoop_outer _ _ _ _ _
  · simp only [resolve, hg]
    simp [go_sem]
  · intro f' _; trivial
  · simp [invoke, go_sem, eg]
  · refine (hseq (n - 1) (w.heap.size + 1)
      (fun s W => (J s W ∧ w.heap.size ≤ W.heap.size) ∧ W.heap[w.heap.size + 1]? = some (.loop (rec .ready none)) ∧ W.heap[w.heap.size]? = some (.deferred (some [])))
      (fun W => ∃ c, (Ix c W ∧ w.heap.size ≤ W.heap.size) ∧ W.heap[w.heap.size + 1]? = some (.loop (rec .done (some c))) ∧ W.heap[w.heap.size]? = some (.deferred (some [])))
      W1 hb1 (by omega)
      (fun s A B hs hA hT => ⟨⟨hJ s A B hs.1.1 (by omega) (hT.mono (by omega)), Nat.le_trans hs.1.2 hT.bel.size⟩, hT.low hs.2.1 (by omega), hT.low hs.2.2 (by omega)⟩)
      (fun A B hs hA hT => by obtain ⟨c, h1, h2, h3⟩ := hs; exact ⟨c, ⟨hIx c A B h1.1 (by omega) (hT.mono (by omega)), Nat.le_trans h1.2 hT.bel.size⟩, hT.low h2 (by omega), hT.low h3 (by omega)⟩)
      ?_ ⟨⟨hI1, by omega⟩, hL1, hK1⟩).mono ?_
    · rintro s x s' W hy' hWs ⟨⟨hi, hsz⟩, hl, hk⟩
      have hlt : w.heap.size + 1 < W.heap.size := (Array.getElem?_eq_some_iff.1 hl).1
      have hy := run_yield (P := P) (args := encs x) hl (by rw [hrec]; exact hps x)
      rw [hrec] at hy
      refine ⟨fn, _, assign, body, hy, roundIn_of_wpIn hfn (hassign _ x W _ ⟨_, run_beginRound hl (by rw [hrec]), ?_⟩)⟩
      have hl2 : (W.putObj (w.heap.size + 1) (.loop { rec .ready none with state := .busy })).heap[w.heap.size + 1]? = some (.loop { rec .ready none with state := .busy }) := World.putObj_heap_same hlt
      have hk2 : (W.putObj (w.heap.size + 1) (.loop { rec .ready none with state := .busy })).heap[w.heap.size]? = some (.deferred (some [])) := (World.putObj_heap_other (by omega)).trans hk
      have hw2 : Kq T lo W1.heap.size W (W.putObj (w.heap.size + 1) (.loop { rec .ready none with state := .busy })) := (Kq.refl _ _ _ _).put (by omega) (by omega) _
      refine wpIn_mono (hbody _ s x s' _ (by rw [World.putObj_size]; omega) hy' (hJ _ _ _ hi (by omega) ((Turns.refl T _ W).put hl (by omega) rfl _))) ?_
      have fin : ∀ (jump : Option Code) (W3 : World), Kq T lo w.heap.size (W.putObj (w.heap.size + 1) (.loop { rec .ready none with state := .busy })) W3 →
          (Instr.endRound (w.heap.size + 1) jump).run P W3 = .ok (.bool jump.isNone) (W3.putObj (w.heap.size + 1) (.loop (rec (if jump.isNone then .ready else .done) jump))) ∧
          W3.heap[w.heap.size + 1]? = some (.loop { rec .ready none with state := .busy }) ∧
          (W3.putObj (w.heap.size + 1) (.loop (rec (if jump.isNone then .ready else .done) jump))).heap[w.heap.size + 1]? = some (.loop (rec (if jump.isNone then .ready else .done) jump)) ∧
          (W3.putObj (w.heap.size + 1) (.loop (rec (if jump.isNone then .ready else .done) jump))).heap[w.heap.size]? = some (.deferred (some [])) ∧
          Kq T lo W1.heap.size W (W3.putObj (w.heap.size + 1) (.loop (rec (if jump.isNone then .ready else .done) jump))) ∧ w.heap.size ≤ W3.heap.size := fun jump W3 hk3 => by
        have hl3 := hk3.keeps.same _ _ (by omega) hl2 rfl
        have := run_endRound (P := P) jump hl3
        have hz := hk3.size
        rw [World.putObj_size] at hz
        rw [hrec] at this ⊢
        exact ⟨this, by rw [hrec] at hl3; exact hl3, World.putObj_heap_same (Array.getElem?_eq_some_iff.1 hl3).1, (World.putObj_heap_other (by omega)).trans (hk3.keeps.same _ _ (Nat.le_refl _) hk2 rfl),
          ((hw2.trans (hk3.later (by omega))).put (by omega) (by omega) _), by omega⟩
      rintro e a3 W3 hp
      cases e with
      | normal =>
        obtain ⟨hk3, hi3⟩ := hp
        obtain ⟨hr, hl3, hl4, hk4, hk5, hz3⟩ := fin none W3 hk3
        exact ⟨_, _, hr, .inl ⟨rfl, ⟨⟨hJ _ _ _ hi3 hz3 ((Turns.refl T _ W3).put hl3 (by omega) rfl _), by rw [World.putObj_size]; exact hz3⟩, hl4, hk4⟩, hk5⟩⟩
      | ret =>
        obtain ⟨hk3, hi3⟩ := hp
        obtain ⟨hr, hl3, hl4, hk4, hk5, hz3⟩ := fin (some .ret) W3 hk3
        exact ⟨_, _, hr, .inr ⟨rfl, ⟨.ret, ⟨hIx _ _ _ hi3 hz3 ((Turns.refl T _ W3).put hl3 (by omega) rfl _), by rw [World.putObj_size]; exact hz3⟩, hl4, hk4⟩, hk5⟩⟩
      | exit id =>
        obtain ⟨hk3, hi3⟩ := hp
        obtain ⟨hr, hl3, hl4, hk4, hk5, hz3⟩ := fin (some (.exit id)) W3 hk3
        exact ⟨_, _, hr, .inr ⟨rfl, ⟨.exit id, ⟨hIx _ _ _ hi3 hz3 ((Turns.refl T _ W3).put hl3 (by omega) rfl _), by rw [World.putObj_size]; exact hz3⟩, hl4, hk4⟩, hk5⟩⟩
      | goto t =>
        obtain ⟨hk3, hi3⟩ := hp
        obtain ⟨hr, hl3, hl4, hk4, hk5, hz3⟩ := fin (some (.goto t)) W3 hk3
        exact ⟨_, _, hr, .inr ⟨rfl, ⟨.goto t, ⟨hIx _ _ _ hi3 hz3 ((Turns.refl T _ W3).put hl3 (by omega) rfl _), by rw [World.putObj_size]; exact hz3⟩, hl4, hk4⟩, hk5⟩⟩
      | panic ch => exact hp.elim
      | outgrown => exact hp.elim
    · rintro e W2 ⟨⟨v, rfl⟩, (⟨⟨hi, hz⟩, hl, hk⟩ | ⟨c, ⟨hi, hz⟩, hl, hk⟩)⟩
      · exact ⟨none, _, by have := run_endLoop (P := P) hl (by rw [hrec]; simp); rw [hrec] at this; exact this, hdone _ _ (Nat.le_refl _) (by rw [World.putObj_size]; exact hz) (hJ _ _ _ hi hz ((Turns.refl T _ W2).put hl (by omega) rfl _)) ((World.putObj_heap_other (by omega)).trans hk)⟩
      · exact ⟨some c, _, by have := run_endLoop (P := P) hl (by rw [hrec]; simp); rw [hrec] at this; exact this, hstop _ c _ (Nat.le_refl _) (by rw [World.putObj_size]; exact hz) (hIx _ _ _ hi hz ((Turns.refl T _ W2).put hl (by omega) rfl _)) ((World.putObj_heap_other (by omega)).trans hk)⟩
/-- The same, where the range's variable has a box of its own. The statement: what the caller owes is an invariant that bears what the iterator turns, and a walk of its own body. -/
theorem rangeFunc_hoes2 {n : Nat} {T : TypeId → Prop} {lo : Nat} {σ X : Type} {g : Operand} {ps : Array Tmp} {assign body : Code} {Q : Exit → Act → World → Prop} {a : Act} {w : World}
    {gf : Nat} {lb : Array Value} (hg : a.eval g = .func (.func gf) #[] lb) (eg : ∀ args w, (callFunc gf args).run P w = .ok (.enter gf args) w)
    {encs : X → Array Value} {Y : σ → X → σ → Prop} {s0 s1 : σ} {w0 : World} (hseq : Hoes P T lo gf lb encs Y s0 s1 w0)
    (hb0 : Below w0.heap.size w0 w) (hlo : lo ≤ w0.heap.size) (hps : ∀ x, (encs x).size = ps.size)
    (J : σ → World → Prop) (Ix : Code → World → Prop) (hJ : ∀ s A B, J s A → w.heap.size ≤ A.heap.size → Turns T w.heap.size A B → J s B) (hIx : ∀ c A B, Ix c A → w.heap.size ≤ A.heap.size → Turns T w.heap.size A B → Ix c B) (h0 : J s0 w)
    (a₁ : X → Nat → Act) (ob : X → Obj)
    (hassign : ∀ (l : Nat) (x : X) (W : World) (K : Act → World → Prop), K (a₁ x W.heap.size) (W.alloc (ob x)) →
      assign.wpIn (Fence.wide.inRound l) (n - 1 - 1) P (Exit.then K (fun _ _ _ => False)) { tmps := (ps.zip (encs x)).foldl (fun t (p, v) => t.setIfInBounds p v) a.tmps, defers := [] } W)
    (hbody : ∀ (l : Nat) (s : σ) (x : X) (s' : σ) (b : Nat) (W : World), w.heap.size ≤ b → W.heap[b]? = some (ob x) → Y s x s' → J s W → body.wpIn (Fence.wide.inRound l) (n - 1 - 1) P (hoesEnd T lo w.heap.size (J s') Ix W) (a₁ x b) W)
    (hdone : ∀ (D' : Nat) (W : World), w.heap.size ≤ D' → w.heap.size ≤ W.heap.size → J s1 W → W.heap[D']? = some (.deferred (some [])) → Q .normal { a with defers := { target := .collected D', args := #[] } :: a.defers } W)
    (hstop : ∀ (D' : Nat) (c : Code) (W : World), w.heap.size ≤ D' → w.heap.size ≤ W.heap.size → Ix c W → W.heap[D']? = some (.deferred (some [])) → c.wpIn Fence.wide n P Q { a with defers := { target := .collected D', args := #[] } :: a.defers } W) :
    (Code.rangeFunc g ps assign body).wpIn Fence.wide n P Q a w := by
  refine wpIn_rangeFunc ?_
  intro fn hfn
  have hw0 := hb0.size
  obtain ⟨rec, hrec⟩ : ∃ rec : LoopState → Option Code → Loop, rec = fun st pe => { state := st, pending := pe, fn, tmps := a.tmps, params := ps, assign, body, defers := w.heap.size } := ⟨_, rfl⟩
  obtain ⟨W1, hW1⟩ : ∃ W1, (w.alloc (.deferred (some []))).alloc (.loop (rec .ready none)) = W1 := ⟨_, rfl⟩
  have hz1 : W1.heap.size = w.heap.size + 2 := by rw [← hW1]; simp
  have hL1 : W1.heap[w.heap.size + 1]? = some (.loop (rec .ready none)) := by
    rw [← hW1]; have := World.alloc_heap_new (w.alloc (.deferred (some []))) (.loop (rec .ready none)); rwa [World.size_alloc] at this
  have hK1 : W1.heap[w.heap.size]? = some (.deferred (some [])) := by
    rw [← hW1]; exact (Below.heap_alloc _ _ _ (by simp)).trans (World.alloc_heap_new w _)
  have hI1 : J s0 W1 := by rw [← hW1]; exact hJ _ _ _ h0 (Nat.le_refl _) (((Turns.refl T _ w).alloc (Nat.le_refl _) _).alloc (by simp) _)
  have hb1 : Below w0.heap.size w0 W1 := by
    rw [← hW1]; exact hb0.trans ((((Below.refl _ w).alloc (Nat.le_refl _) _).alloc (by simp) _).mono hb0.size)
  refine ⟨w.heap.size + 1, [{ target := .collected w.heap.size, args := #[] }], W1, { target := .fn (.func gf) lb, args := #[.func (.yield (w.heap.size + 1)) #[] #[]] }, W1, gf,
    #[.func (.yield (w.heap.size + 1)) #[] #[]] ++ lb, W1, ?_, ?_, ?_, ?_, fun e => (by cases e), ?_⟩
  · rw [← hW1, hrec]; exact run_enterLoop_outer _ _ _ _ _
  · simp only [resolve, hg]
    simp [go_sem]
  · intro f' _; trivial
  · simp [invoke, go_sem, eg]
  · refine (hseq (n - 1) (w.heap.size + 1)
      (fun s W => (J s W ∧ w.heap.size ≤ W.heap.size) ∧ W.heap[w.heap.size + 1]? = some (.loop (rec .ready none)) ∧ W.heap[w.heap.size]? = some (.deferred (some [])))
      (fun W => ∃ c, (Ix c W ∧ w.heap.size ≤ W.heap.size) ∧ W.heap[w.heap.size + 1]? = some (.loop (rec .done (some c))) ∧ W.heap[w.heap.size]? = some (.deferred (some [])))
      W1 hb1 (by omega)
      (fun s A B hs hA hT => ⟨⟨hJ s A B hs.1.1 (by omega) (hT.mono (by omega)), Nat.le_trans hs.1.2 hT.bel.size⟩, hT.low hs.2.1 (by omega), hT.low hs.2.2 (by omega)⟩)
      (fun A B hs hA hT => by obtain ⟨c, h1, h2, h3⟩ := hs; exact ⟨c, ⟨hIx c A B h1.1 (by omega) (hT.mono (by omega)), Nat.le_trans h1.2 hT.bel.size⟩, hT.low h2 (by omega), hT.low h3 (by omega)⟩)
      ?_ ⟨⟨hI1, by omega⟩, hL1, hK1⟩).mono ?_
    · rintro s x s' W hy' hWs ⟨⟨hi, hsz⟩, hl, hk⟩
      have hlt : w.heap.size + 1 < W.heap.size := (Array.getElem?_eq_some_iff.1 hl).1
      have hy := run_yield (P := P) (args := encs x) hl (by rw [hrec]; exact hps x)
      rw [hrec] at hy
      obtain ⟨A, hA⟩ : ∃ A, W.alloc (ob x) = A := ⟨_, rfl⟩
      have hzA : A.heap.size = W.heap.size + 1 := by rw [← hA]; simp
      have hlA : A.heap[w.heap.size + 1]? = some (.loop (rec .ready none)) := by rw [← hA]; exact (Below.heap_alloc _ _ _ hlt).trans hl
      have hkA : A.heap[w.heap.size]? = some (.deferred (some [])) := by rw [← hA]; exact (Below.heap_alloc _ _ _ (by omega)).trans hk
      have hoA : A.heap[W.heap.size]? = some (ob x) := by rw [← hA]; exact World.alloc_heap_new W _
      have hjA : J s A := by rw [← hA]; exact hJ _ _ _ hi (by omega) ((Turns.refl T _ W).alloc (by omega) _)
      have hqA : Kq T lo W1.heap.size W A := by rw [← hA]; exact (Kq.refl _ _ _ _).alloc (by omega) _
      refine ⟨fn, _, assign, body, hy, roundIn_of_wpIn hfn (hassign _ x W _ ⟨_, run_beginRound (by rw [hA]; exact hlA) (by rw [hrec]), ?_⟩)⟩
      rw [hA]
      have hl2 : (A.putObj (w.heap.size + 1) (.loop { rec .ready none with state := .busy })).heap[w.heap.size + 1]? = some (.loop { rec .ready none with state := .busy }) := World.putObj_heap_same (by omega)
      have hk2 : (A.putObj (w.heap.size + 1) (.loop { rec .ready none with state := .busy })).heap[w.heap.size]? = some (.deferred (some [])) := (World.putObj_heap_other (by omega)).trans hkA
      have hw2 : Kq T lo W1.heap.size W (A.putObj (w.heap.size + 1) (.loop { rec .ready none with state := .busy })) := hqA.put (by omega) (by omega) _
      refine wpIn_mono (hbody _ s x s' W.heap.size _ (by omega) ((World.putObj_heap_other (by omega)).trans hoA) hy' (hJ _ _ _ hjA (by omega) ((Turns.refl T _ A).put hlA (by omega) rfl _))) ?_
      have fin : ∀ (jump : Option Code) (W3 : World), Kq T lo w.heap.size (A.putObj (w.heap.size + 1) (.loop { rec .ready none with state := .busy })) W3 →
          (Instr.endRound (w.heap.size + 1) jump).run P W3 = .ok (.bool jump.isNone) (W3.putObj (w.heap.size + 1) (.loop (rec (if jump.isNone then .ready else .done) jump))) ∧
          W3.heap[w.heap.size + 1]? = some (.loop { rec .ready none with state := .busy }) ∧
          (W3.putObj (w.heap.size + 1) (.loop (rec (if jump.isNone then .ready else .done) jump))).heap[w.heap.size + 1]? = some (.loop (rec (if jump.isNone then .ready else .done) jump)) ∧
          (W3.putObj (w.heap.size + 1) (.loop (rec (if jump.isNone then .ready else .done) jump))).heap[w.heap.size]? = some (.deferred (some [])) ∧
          Kq T lo W1.heap.size W (W3.putObj (w.heap.size + 1) (.loop (rec (if jump.isNone then .ready else .done) jump))) ∧ w.heap.size ≤ W3.heap.size := fun jump W3 hk3 => by
        have hl3 := hk3.keeps.same _ _ (by omega) hl2 rfl
        have := run_endRound (P := P) jump hl3
        have hz := hk3.size
        rw [World.putObj_size] at hz
        rw [hrec] at this ⊢
        exact ⟨this, by rw [hrec] at hl3; exact hl3, World.putObj_heap_same (Array.getElem?_eq_some_iff.1 hl3).1, (World.putObj_heap_other (by omega)).trans (hk3.keeps.same _ _ (Nat.le_refl _) hk2 rfl),
          ((hw2.trans (hk3.later (by omega))).put (by omega) (by omega) _), by omega⟩
      rintro e a3 W3 hp
      cases e with
      | normal =>
        obtain ⟨hk3, hi3⟩ := hp
        obtain ⟨hr, hl3, hl4, hk4, hk5, hz3⟩ := fin none W3 hk3
        exact ⟨_, _, hr, .inl ⟨rfl, ⟨⟨hJ _ _ _ hi3 hz3 ((Turns.refl T _ W3).put hl3 (by omega) rfl _), by rw [World.putObj_size]; exact hz3⟩, hl4, hk4⟩, hk5⟩⟩
      | ret =>
        obtain ⟨hk3, hi3⟩ := hp
        obtain ⟨hr, hl3, hl4, hk4, hk5, hz3⟩ := fin (some .ret) W3 hk3
        exact ⟨_, _, hr, .inr ⟨rfl, ⟨.ret, ⟨hIx _ _ _ hi3 hz3 ((Turns.refl T _ W3).put hl3 (by omega) rfl _), by rw [World.putObj_size]; exact hz3⟩, hl4, hk4⟩, hk5⟩⟩
      | exit id =>
        obtain ⟨hk3, hi3⟩ := hp
        obtain ⟨hr, hl3, hl4, hk4, hk5, hz3⟩ := fin (some (.exit id)) W3 hk3
        exact ⟨_, _, hr, .inr ⟨rfl, ⟨.exit id, ⟨hIx _ _ _ hi3 hz3 ((Turns.refl T _ W3).put hl3 (by omega) rfl _), by rw [World.putObj_size]; exact hz3⟩, hl4, hk4⟩, hk5⟩⟩
      | goto t =>
        obtain ⟨hk3, hi3⟩ := hp
        obtain ⟨hr, hl3, hl4, hk4, hk5, hz3⟩ := fin (some (.goto t)) W3 hk3
        exact ⟨_, _, hr, .inr ⟨rfl, ⟨.goto t, ⟨hIx _ _ _ hi3 hz3 ((Turns.refl T _ W3).put hl3 (by omega) rfl _), by rw [World.putObj_size]; exact hz3⟩, hl4, hk4⟩, hk5⟩⟩
      | panic ch => exact hp.elim
      | outgrown => exact hp.elim
    · rintro e W2 ⟨⟨v, rfl⟩, (⟨⟨hi, hz⟩, hl, hk⟩ | ⟨c, ⟨hi, hz⟩, hl, hk⟩)⟩
      · exact ⟨none, _, by have := run_endLoop (P := P) hl (by rw [hrec]; simp); rw [hrec] at this; exact this, hdone _ _ (Nat.le_refl _) (by rw [World.putObj_size]; exact hz) (hJ _ _ _ hi hz ((Turns.refl T _ W2).put hl (by omega) rfl _)) ((World.putObj_heap_other (by omega)).trans hk)⟩
      · exact ⟨some c, _, by have := run_endLoop (P := P) hl (by rw [hrec]; simp); rw [hrec] at this; exact this, hstop _ c _ (Nat.le_refl _) (by rw [World.putObj_size]; exact hz) (hIx _ _ _ hi hz ((Turns.refl T _ W2).put hl (by omega) rfl _)) ((World.putObj_heap_other (by omega)).trans hk)⟩
end

end Go.Proofs.YtbdfglalohgahaaDoor
