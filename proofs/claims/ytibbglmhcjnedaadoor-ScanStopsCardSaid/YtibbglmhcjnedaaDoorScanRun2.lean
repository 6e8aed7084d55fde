/-
  Contracts of the program's Run: the walk.
-/
import Derived.Test.YtibbglmhcjnedaaDoorScanRun
namespace Go.Proofs.YtibbglmhcjnedaaDoor
open Go.RowKit Go.Shelf
set_option linter.unusedVariables false
attribute [local go_sem] Oper.semAt_some

/-- Between two rounds, at the place k next. -/
def RunJ (w : World) (s : ByteArray) (ep sq0 : Int) (k : Nat) (W : World) : Prop :=
  ∃ L sq v en, RunI w s w.heap.size ep L sq v en W ∧ k ≤ s.size ∧ 16 * L.length ≤ k ∧ ∀ L' e', Ran s.data.toList ep sq k L' e' → Ran s.data.toList ep sq0 0 (L ++ L') e'
/-- Behind the round at the place k. -/
def RunD (w : World) (s : ByteArray) (ep sq0 : Int) (k : Nat) (W : World) : Prop :=
  ∃ L sq v, RunI w s w.heap.size ep L sq v k W ∧ (nxtK (stepF s.data.toList) s.data.toList k = none → Ran s.data.toList ep sq0 0 L k) ∧
    ∀ k', nxtK (stepF s.data.toList) s.data.toList k = some k' → k' ≤ s.size ∧ 16 * L.length ≤ k' ∧ ∀ L' e', Ran s.data.toList ep sq k' L' e' → Ran s.data.toList ep sq0 0 (L ++ L') e'
/-- Where a round has ended it. -/
def RunX (w : World) (s : ByteArray) (ep sq0 : Int) (c : Code) (W : World) : Prop :=
  c = .exit 0 ∧ ∃ L sq v k, RunI w s w.heap.size ep L sq v k W ∧ Ran s.data.toList ep sq0 0 L k
theorem runJ_own (w : World) (s : ByteArray) (ep sq0 : Int) {B : Nat} (hB : w.heap.size + 6 ≤ B) : OwnFrom B (RunJ w s ep sq0) := fun k X Y row ⟨L, sq, v, en, h, r⟩ hg hr => ⟨L, sq, v, en, h.kept hB hg hr, r⟩
theorem runD_own (w : World) (s : ByteArray) (ep sq0 : Int) {B : Nat} (hB : w.heap.size + 6 ≤ B) : OwnFrom B (RunD w s ep sq0) := fun k X Y row ⟨L, sq, v, h, r⟩ hg hr => ⟨L, sq, v, h.kept hB hg hr, r⟩
theorem runX_own (w : World) (s : ByteArray) (ep sq0 : Int) {B : Nat} (hB : w.heap.size + 6 ≤ B) : OwnFrom B (RunX w s ep sq0) := fun k X Y row ⟨e, L, sq, v, en, h, r⟩ hg hr => ⟨e, L, sq, v, en, h.kept hB hg hr, r⟩
theorem frp_own (s : ByteArray) (x : Nat × Option Addr) (B : Nat) : OwnFrom B (fun (k : Nat) W => x.1 = k ∧ k ≤ s.size ∧ FrP s.data.toList k x.2 W) := by
  rintro k X Y row ⟨e, hk, hp⟩ hg hr
  refine ⟨e, hk, ?_⟩
  unfold FrP at hp ⊢
  split at hp
  · rename_i ho
    rw [if_pos ho]
    obtain ⟨b, e', hb⟩ := hp
    refine ⟨b, e', (hg.block b hb.lt (fun e => ?_)).trans hb⟩
    obtain ⟨_, o, h1, h2⟩ := hr b e.symm
    rw [show X.heap[b]? = _ from hb] at h1; cases h1; cases h2
  · rename_i ho; rw [if_neg ho]; exact hp
theorem kpb_put {n0 b1 b2 : Nat} {w : World} (W : World) (l : Nat) (o' : Obj) (h0 : n0 ≤ l) (h1 : b1 < l) (h2 : b2 < l) : KpB n0 b1 b2 W (W.putObj l o') :=
  ⟨⟨rfl, rfl, rfl, by simp, fun k hk => World.putObj_heap_other (by omega)⟩, World.putObj_heap_other (by omega), World.putObj_heap_other (by omega)⟩
theorem kpb_trans {n0 b1 b2 : Nat} {A B C : World} (h : KpB n0 b1 b2 A B) (k : KpB n0 b1 b2 B C) : KpB n0 b1 b2 A C := ⟨h.1.trans k.1, k.2.1.trans h.2.1, k.2.2.trans h.2.2⟩

theorem nxt_none {l : List UInt8} {k : Nat} (h : nxtK (stepF l) l k = none) : ¬ okL l k ∧ fillL l k = false := by
  unfold nxtK at h
  split at h
  · cases h
  · rename_i ho
    refine ⟨ho, ?_⟩
    split at h
    · rename_i h0
      cases hf : fillL l k with
      | false => rfl
      | true =>
        unfold stepF at h0
        rw [if_pos hf] at h0
        have := upT_more (fillL_yes.1 hf).1
        omega
    · cases h
theorem nxt_no {l : List UInt8} {k k' : Nat} (ho : ¬ okL l k) (h : nxtK (stepF l) l k = some k') : fillL l k = true ∧ k' = upT k := by
  unfold nxtK at h
  rw [if_neg ho] at h
  split at h
  · cases h
  · rename_i h0
    unfold stepF at h0 h
    split at h0
    · rename_i hf
      refine ⟨hf, ?_⟩
      rw [if_pos hf] at h
      have := upT_ge k
      cases h
      omega
    · exact absurd rfl h0
theorem nxt_ok {l : List UInt8} {k : Nat} {f : Nat → Nat} (ho : okL l k) : nxtK f l k = some (k + lnL l k) := if_pos ho
theorem RunI.drewN {w : World} {s : ByteArray} {n0 : Nat} {ep : Int} {L : List Frm} {sq : Int} {v : Value} {en : Nat} {W : World} (h : RunI w s n0 ep L sq v en W) (n : Nat) : RunI w s n0 ep L sq v en (W.drewN n) :=
  ⟨h.b0, h.b1, h.b2, h.b3, h.b4, h.b5, h.row, drewN_below h.bel n, h.size⟩
theorem RunI.drew {w : World} {s : ByteArray} {n0 : Nat} {ep : Int} {L : List Frm} {sq : Int} {v : Value} {en : Nat} {W : World} (h : RunI w s n0 ep L sq v en W) : RunI w s n0 ep L sq v en W.drew :=
  ⟨h.b0, h.b1, h.b2, h.b3, h.b4, h.b5, h.row, h.bel.drew, h.size⟩
theorem keeps_drewN (W : World) (n : Nat) : KeepsOthers W (W.drewN n) := ⟨Nat.le_refl _, fun _ _ h _ => h⟩
theorem keeps_drew (W : World) : KeepsOthers W W.drew := ⟨Nat.le_refl _, fun _ _ h _ => h⟩
theorem blk_ne {W : World} {b b' : Nat} {cs : Array Value} {t t' : TypeId} {v : Value} (hB : Blk W b cs t) (h : Boxed W b' t' v) (ht : t' ≠ t) : b' ≠ b := by
  intro e
  subst e
  have := (show W.heap[b']? = _ from h).symm.trans hB
  simp at this
  exact ht this.2

set_option maxRecDepth 100000 in
set_option maxHeartbeats 1000000 in
theorem srun_any (s : ByteArray) (hs : s.size ≤ 4294967296) (ep sq : Int) (w : World) (hF : First w) :
    Calls Tryd.prog 9 #[.string s, .int .i64 ep, .int .i64 sq] w fun e w' => ∃ L en a c, Ran s.data.toList ep sq 0 L en ∧ e = .returned (.tuple #[.slice a L.length c, .int .i64 (en : Nat)]) ∧ Frms w' (fun b => w.heap.size ≤ b ∧ b < w'.heap.size) a L ∧ Below w.heap.size w w' := by
  have hmix : Tryd.prog.follows .mixedOrders = true := by kernel_rfl
  obtain ⟨i0, hi, hz0, hz1, hz2⟩ := info_parts frm_info
  refine (callsIn_wide (n := 5)).1 ?_
  refine callsIn_of_wp_marks Tryd.func9 rfl trivial ?_ rfl
  simp only [Tryd.ntmps9, List.size_toArray, List.length_cons, List.length_nil, Nat.reduceAdd, Nat.reduceSub, Array.replicate_succ, Array.replicate_zero, List.push_toArray, List.append_toArray, List.nil_append, List.cons_append]
  gi_wp2
  refine wpIn_wide.2 (wp_scope_straight ((wpIn_wide (n := 5)).1 ?_))
  gi_wp2
  refine wpIn_label ?_
  gi_wp2_with fail
  refine ⟨trivial, (callsIn_wide.2 (splaces_any s _ _)).mono ?_⟩
  rintro e w' ⟨rfl, rfl⟩
  gi_wp2
  have HI : RunI w s w.heap.size ep [] sq (.slice none 0 0) 0 ((((((w.alloc (Obj.cells #[Value.int IntKind.i64 ep] 3)).alloc (Obj.cells #[Value.int IntKind.i64 sq] 3)).alloc (Obj.cells #[Value.slice none 0 0] 23)).alloc (Obj.cells #[Value.int IntKind.i64 0] 3)).alloc (Obj.cells #[Value.string s] 9)).alloc (Obj.cells #[Value.func (Fn.func 24) #[] #[]] 55)) := by
    refine ⟨?_, ?_, ?_, ?_, ?_, ?_, World.ownsRow_nil _ _ _ _, ?_, rfl⟩
    · exact (((((Boxed.new w _ _).alloc _).alloc _).alloc _).alloc _).alloc _
    · have := Boxed.new (w.alloc (Obj.cells #[Value.int IntKind.i64 ep] 3)) 3 (.int .i64 sq)
      rw [World.size_alloc] at this
      exact (((this.alloc _).alloc _).alloc _).alloc _
    · have := Boxed.new ((w.alloc (Obj.cells #[Value.int IntKind.i64 ep] 3)).alloc (Obj.cells #[Value.int IntKind.i64 sq] 3)) 23 (.slice none 0 0)
      rw [World.size_alloc, World.size_alloc] at this
      exact ((this.alloc _).alloc _).alloc _
    · have := Boxed.new (((w.alloc (Obj.cells #[Value.int IntKind.i64 ep] 3)).alloc (Obj.cells #[Value.int IntKind.i64 sq] 3)).alloc (Obj.cells #[Value.slice none 0 0] 23)) 3 (.int .i64 0)
      rw [World.size_alloc, World.size_alloc, World.size_alloc] at this
      exact (this.alloc _).alloc _
    · have := Boxed.new ((((w.alloc (Obj.cells #[Value.int IntKind.i64 ep] 3)).alloc (Obj.cells #[Value.int IntKind.i64 sq] 3)).alloc (Obj.cells #[Value.slice none 0 0] 23)).alloc (Obj.cells #[Value.int IntKind.i64 0] 3)) 9 (.string s)
      rw [World.size_alloc, World.size_alloc, World.size_alloc, World.size_alloc] at this
      exact this.alloc _
    · have := Boxed.new (((((w.alloc (Obj.cells #[Value.int IntKind.i64 ep] 3)).alloc (Obj.cells #[Value.int IntKind.i64 sq] 3)).alloc (Obj.cells #[Value.slice none 0 0] 23)).alloc (Obj.cells #[Value.int IntKind.i64 0] 3)).alloc (Obj.cells #[Value.string s] 9)) 55 (.func (.func 24) #[] #[])
      rw [World.size_alloc, World.size_alloc, World.size_alloc, World.size_alloc, World.size_alloc] at this
      exact this
    · exact ((((((Below.refl _ w).alloc (Nat.le_refl _) _).alloc (by simp) _).alloc (by simp; omega) _).alloc (by simp; omega) _).alloc (by simp; omega) _).alloc (by simp; omega) _
  obtain ⟨W0, hW0⟩ : ∃ W0, ((((((w.alloc (Obj.cells #[Value.int IntKind.i64 ep] 3)).alloc (Obj.cells #[Value.int IntKind.i64 sq] 3)).alloc (Obj.cells #[Value.slice none 0 0] 23)).alloc (Obj.cells #[Value.int IntKind.i64 0] 3)).alloc (Obj.cells #[Value.string s] 9)).alloc (Obj.cells #[Value.func (Fn.func 24) #[] #[]] 55)) = W0 := ⟨_, rfl⟩
  have hsz : W0.heap.size = w.heap.size + 6 := by rw [← hW0]; simp
  rw [hW0] at HI ⊢
  have hF0 : First W0 := hF.onto HI.bel
  have hn0 := hF.2.2
  have hlen : s.data.toList.length = s.size := by simp
  refine rangeFunc_gives (gf := 32) (lb := #[.pointer (some ⟨w.heap.size + 1 + 1 + 1 + 1, 0, none⟩), .pointer (some ⟨w.heap.size + 1 + 1 + 1 + 1 + 1, 0, none⟩)]) rfl (enters_of Tryd.func32 (by kernel_rfl) rfl)
    (siter_filled s (by unfold maxLen; omega) w.heap.size _ _ hn0 W0 HI.b4 HI.b5 hF0) (fun x => frp_own s x _) kpb_trans (fun W l o' hl => kpb_put (w := w) W l o' (by omega) (by omega) (by omega))
    (Below.refl _ _) (fun _ => rfl) (RunJ w s ep sq) (RunD w s ep sq) (RunX w s ep sq) (runJ_own w s ep sq (by omega)) (runD_own w s ep sq (by omega)) (runX_own w s ep sq (by omega))
    ⟨[], sq, _, 0, HI, Nat.zero_le _, Nat.zero_le _, fun L' e' h => h⟩ ?next
    (fun x => { tmps := #[.string s, .int .i64 ep, .int .i64 sq, undef, .pointer (some ⟨w.heap.size, 0, none⟩), .pointer (some ⟨w.heap.size + 1, 0, none⟩), .slice none 0 0, .int .i64 0, .pointer (some ⟨w.heap.size + 1 + 1, 0, none⟩), .pointer (some ⟨w.heap.size + 1 + 1 + 1, 0, none⟩), .int .i64 x.1, .pointer x.2, .string s,
      .func (.func 32) #[] #[.pointer (some ⟨w.heap.size + 1 + 1 + 1 + 1, 0, none⟩), .pointer (some ⟨w.heap.size + 1 + 1 + 1 + 1 + 1, 0, none⟩)], .int .i64 x.1, .pointer x.2, undef, undef, undef, undef, undef, undef, undef, undef, undef, undef, undef, undef, undef, undef, undef, undef, undef, undef, undef, undef, undef, undef, undef, undef, undef, undef, undef, undef, undef], defers := [] }) ?assign ?body ?done ?stop
  case next =>
    rintro k k' W ⟨L, q, v, h, _, h2⟩ hn
    obtain ⟨g1, g2, g3⟩ := h2 k' hn
    exact ⟨L, q, v, k, h, g1, g2, g3⟩
  case assign =>
    intro l x W K hK
    gi_wp2
    exact hK
  case body =>
    rintro l k ⟨k1, p⟩ W hWs ⟨L, q, v, en, hI, hk, hL, hpre⟩ ⟨hk1, -, hp⟩
    dsimp only at hk1 hp
    subst hk1
    have hI2 := hI.setEn k1
    have c3 := hI.b3.cell
    have f3 := hI.b3.frozen
    have hB0 : w.heap.size ≤ W.heap.size := by have := hI.bel.size; omega
    have hb2 : Below w.heap.size W (W.setCell ⟨w.heap.size + 1 + 1 + 1, 0, none⟩ (.int .i64 (k1 : Nat))) := (Below.refl _ _).setCell (p := ⟨w.heap.size + 1 + 1 + 1, 0, none⟩) (by show w.heap.size ≤ w.heap.size + 1 + 1 + 1; omega) _
    have hk2 : KeepsOthers W (W.setCell ⟨w.heap.size + 1 + 1 + 1, 0, none⟩ (.int .i64 (k1 : Nat))) := KeepsOthers.setCell _ _ _
    have HP := Lib.hid hpre; clear hpre
    by_cases hok : okL s.data.toList k1
    · have hp' := hp
      unfold FrP at hp'
      rw [if_pos hok] at hp'
      obtain ⟨b, rfl, hB⟩ := hp'
      have hB1 := hB.other ⟨w.heap.size + 1 + 1 + 1, 0, none⟩ (blk_ne hB hI.b3 (by decide)) (.int .i64 (k1 : Nat))
      have HK := Lib.hid (nxt_ok (f := stepF s.data.toList) hok)
      have HO := Lib.hid (ok_len hok)
      have HM := Lib.hid (show mtL s.data.toList ep q k1 ↔ (frL s.data.toList k1).ep = ep ∧ (frL s.data.toList k1).sq = q from ⟨fun h => h.2, fun h => ⟨hok, h⟩⟩)
      have HS := Lib.hid (ok_noFill hok)
      have HQ := Lib.hid (show 0 ≤ (frL s.data.toList k1).sq ∧ (frL s.data.toList k1).sq ≤ 2147483647 from by
        obtain ⟨_, _, _, _, _, h⟩ := frmE_zero hok
        show 0 ≤ ((leN (s.data.toList.drop k1) 8 4 : Nat) : Int) ∧ ((leN (s.data.toList.drop k1) 8 4 : Nat) : Int) ≤ 2147483647
        omega)
      obtain ⟨⟨x, y, d⟩, hfr⟩ : ∃ f, frL s.data.toList k1 = f := ⟨_, rfl⟩
      have HR := Lib.hid (fun L' e' => @Ran.one s.data.toList ep q k1 L' e')
      rw [hfr] at hB1 HM HR HQ
      clear hp hB hok
      gi_wp2
      obtain ⟨W1, hW1⟩ : ∃ W1, W.setCell ⟨w.heap.size + 1 + 1 + 1, 0, none⟩ (.int .i64 (k1 : Nat)) = W1 := ⟨_, rfl⟩
      rw [hW1] at hI2 hB1 hb2 hk2 ⊢
      clear c3 f3 hfr
      obtain ⟨d0, d1, d2, -, -, -⟩ := hB1.three
      have c0 := hI2.b0.cell
      have c1 := hI2.b1.cell
      have HB1 := Lib.hid hB1; have HI2 := Lib.hid hI2
      by_cases h1 : x = ep
      · subst h1
        by_cases h2 : y = q
        · subst h2
          refine region_round_quiet hmix (by rintro ⟨a', w', h'⟩; exact h') (by kernel_rfl) (by kernel_rfl) ?_
          repeat (go_big_quiet_step (fail))
          refine wpQuiet_nil ?_
          intro _ hw'
          obtain ⟨nq, hw''⟩ := hw'
          subst hw''
          gi_wp2
          obtain ⟨W3, hW3⟩ : ∃ W3, (W1.drewN nq).drew = W3 := ⟨_, rfl⟩
          have HI3 : RunI w s w.heap.size x L y v k1 W3 := hW3 ▸ (HI2.out.drewN nq).drew
          have HB3 : Blk W3 b #[.int .i64 x, .int .i64 y, .string d] 40 := hW3 ▸ (HB1.out : Blk (W1.drewN nq).drew b _ _)
          have hk3 : KeepsOthers W W3 := hW3 ▸ (hk2.trans (keeps_drewN W1 nq)).trans (keeps_drew _)
          have hb3 : Below w.heap.size W W3 := hW3 ▸ (drewN_below hb2 nq).drew
          clear d0 d1 d2 c0 c1 hk2 hb2
          refine wpIn_region_any hmix (any_round (noDefer_spec (by kernel_rfl)) (by rintro ⟨a', w', h'⟩; exact h') _ _ _ _ ?_)
          change wpAny _ _ _ _ _ _ _ (World.drew _)
          rw [hW3]
          obtain ⟨d0, d1, d2, -, -, -⟩ := HB3.three
          have c2 := HI3.b2.cell
          have c2' := (HI3.b2.alloc (.cells #[.int .i64 x, .int .i64 y, .string d] 40)).cell
          have hrow := HI3.row
          have hsz3 : w.heap.size ≤ W3.heap.size := by have := HI3.bel.size; omega
          have hL2 : L.length ≤ 4294967296 := by omega
          refine wpAny_take (i := 1) (v := .pointer (some ⟨b, 0, none⟩)) rfl (by kernel_rfl) (by kernel_rfl) (by kernel_rfl) (fun _ _ _ h => h) (Or.inl ⟨by rfl, by intro w; go_simp⟩) ?_
          refine wpAny_take (i := 2) (v := .pointer (some ⟨b, 0, none⟩)) rfl (by kernel_rfl) (by kernel_rfl) (by kernel_rfl) (fun _ _ _ h => h) (Or.inl ⟨by rfl, by intro w; go_simp⟩) ?_
          -- ORDERS
          refine wpAny_ready (rs := [0, 3]) (by kernel_rfl) (by simp) ?_
          refine AllReady.cons rfl (fun K hK => ?_) (AllReady.cons rfl (fun K hK => ?_) AllReady.nil)
          · go_simp
            refine hK _ _ ?_
            clear hK K
            refine wpAny_ready (rs := [3]) (by kernel_rfl) (by simp) ?_
            refine AllReady.cons rfl (fun K hK => ?_) AllReady.nil
            go_simp
            refine hK _ _ ?_
            clear hK K
            refine wpAny_ready (rs := [4]) (by kernel_rfl) (by simp) ?_
            refine AllReady.cons rfl (fun K hK => ?_) AllReady.nil
            go_simp
            refine hK _ _ ?_
            clear hK K
            refine wpAny_ready (rs := [5]) (by kernel_rfl) (by simp) ?_
            refine AllReady.cons rfl (fun K hK => ?_) AllReady.nil
            refine step_append_lies _ rfl (.tmp 35) (.tmp 39) 23 rfl w.heap.size 40 i0 _ 3 32 Tryd.underlying23 hi hz0 hz1 hz2 rfl (by decide) v L.length (Frm.flat L) rfl (hrow.alloc _) ⟨W3.heap.size, 0, none⟩ 1 1 [.int .i64 x, .int .i64 y, .string d] rfl rfl (news_frm _ _ _ _ _) (one_frm _ _ _) (by omega) (by unfold maxLen; omega) (by omega) (by simp; omega) _ rfl ?_
            intro g cap w5 hown' hgrow _ _
            obtain ⟨a1, hI5, hk5, hb5⟩ := HI3.appended (f := ⟨x, y, d⟩) hown' hgrow
            have a2 := a1.cell
            have a3 := a1.frozen
            refine hK _ _ ?_
            clear hK K
            refine wpAny_ready (rs := [6]) (by kernel_rfl) (by simp) ?_
            refine AllReady.cons rfl (fun K hK => ?_) AllReady.nil
            go_simp
            refine hK _ _ ?_
            clear hK K
            refine wpAny_done (by kernel_rfl) ?_ _
            obtain ⟨W5, hW5⟩ : ∃ W5, w5.setCell ⟨w.heap.size + 1 + 1, 0, none⟩ (.slice (some ⟨g, 0, none⟩) (L.length + 1) cap) = W5 := ⟨_, rfl⟩
            rw [hW5] at hI5 hk5 hb5 ⊢
            have c1 := hI5.b1.cell
            have f1 := hI5.b1.frozen
            obtain ⟨y0, y1⟩ := HQ.out
            clear d0 d1 d2 c2 c2' a1 a2 a3 hown' hgrow hW5 hrow
            gi_wp2
            have hE := hI5.setSq (y + 1)
            have hO := HO.out
            refine ⟨((hk3.trans hk5).trans (KeepsOthers.setCell _ _ _)).from _, hI.kp hE ((hb3.trans hb5).setCell (p := ⟨w.heap.size + 1, 0, none⟩) (by show w.heap.size ≤ w.heap.size + 1; omega) _), L ++ [⟨x, y, d⟩], y + 1, _, hE, fun h => ?_, fun k' h => ?_⟩
            · rw [HK.out] at h; cases h
            · rw [HK.out] at h
              cases h
              refine ⟨by omega, by simp; omega, fun L' e' hr => ?_⟩
              have := HP.out _ _ (HR.out L' e' (HM.out.2 (by simp)) hr)
              simpa using this
          · go_simp
            refine hK _ _ ?_
            clear hK K
            refine wpAny_ready (rs := [0, 4]) (by kernel_rfl) (by simp) ?_
            refine AllReady.cons rfl (fun K hK => ?_) (AllReady.cons rfl (fun K hK => ?_) AllReady.nil)
            · go_simp
              refine hK _ _ ?_
              clear hK K
              refine wpAny_ready (rs := [4]) (by kernel_rfl) (by simp) ?_
              refine AllReady.cons rfl (fun K hK => ?_) AllReady.nil
              go_simp
              refine hK _ _ ?_
              clear hK K
              refine wpAny_ready (rs := [5]) (by kernel_rfl) (by simp) ?_
              refine AllReady.cons rfl (fun K hK => ?_) AllReady.nil
              refine step_append_lies _ rfl (.tmp 35) (.tmp 39) 23 rfl w.heap.size 40 i0 _ 3 32 Tryd.underlying23 hi hz0 hz1 hz2 rfl (by decide) v L.length (Frm.flat L) rfl (hrow.alloc _) ⟨W3.heap.size, 0, none⟩ 1 1 [.int .i64 x, .int .i64 y, .string d] rfl rfl (news_frm _ _ _ _ _) (one_frm _ _ _) (by omega) (by unfold maxLen; omega) (by omega) (by simp; omega) _ rfl ?_
              intro g cap w5 hown' hgrow _ _
              obtain ⟨a1, hI5, hk5, hb5⟩ := HI3.appended (f := ⟨x, y, d⟩) hown' hgrow
              have a2 := a1.cell
              have a3 := a1.frozen
              refine hK _ _ ?_
              clear hK K
              refine wpAny_ready (rs := [6]) (by kernel_rfl) (by simp) ?_
              refine AllReady.cons rfl (fun K hK => ?_) AllReady.nil
              go_simp
              refine hK _ _ ?_
              clear hK K
              refine wpAny_done (by kernel_rfl) ?_ _
              obtain ⟨W5, hW5⟩ : ∃ W5, w5.setCell ⟨w.heap.size + 1 + 1, 0, none⟩ (.slice (some ⟨g, 0, none⟩) (L.length + 1) cap) = W5 := ⟨_, rfl⟩
              rw [hW5] at hI5 hk5 hb5 ⊢
              have c1 := hI5.b1.cell
              have f1 := hI5.b1.frozen
              obtain ⟨y0, y1⟩ := HQ.out
              clear d0 d1 d2 c2 c2' a1 a2 a3 hown' hgrow hW5 hrow
              gi_wp2
              have hE := hI5.setSq (y + 1)
              have hO := HO.out
              refine ⟨((hk3.trans hk5).trans (KeepsOthers.setCell _ _ _)).from _, hI.kp hE ((hb3.trans hb5).setCell (p := ⟨w.heap.size + 1, 0, none⟩) (by show w.heap.size ≤ w.heap.size + 1; omega) _), L ++ [⟨x, y, d⟩], y + 1, _, hE, fun h => ?_, fun k' h => ?_⟩
              · rw [HK.out] at h; cases h
              · rw [HK.out] at h
                cases h
                refine ⟨by omega, by simp; omega, fun L' e' hr => ?_⟩
                have := HP.out _ _ (HR.out L' e' (HM.out.2 (by simp)) hr)
                simpa using this
            · go_simp
              refine hK _ _ ?_
              clear hK K
              refine wpAny_ready (rs := [0]) (by kernel_rfl) (by simp) ?_
              refine AllReady.cons rfl (fun K hK => ?_) AllReady.nil
              go_simp
              refine hK _ _ ?_
              clear hK K
              refine wpAny_ready (rs := [5]) (by kernel_rfl) (by simp) ?_
              refine AllReady.cons rfl (fun K hK => ?_) AllReady.nil
              refine step_append_lies _ rfl (.tmp 35) (.tmp 39) 23 rfl w.heap.size 40 i0 _ 3 32 Tryd.underlying23 hi hz0 hz1 hz2 rfl (by decide) v L.length (Frm.flat L) rfl (hrow.alloc _) ⟨W3.heap.size, 0, none⟩ 1 1 [.int .i64 x, .int .i64 y, .string d] rfl rfl (news_frm _ _ _ _ _) (one_frm _ _ _) (by omega) (by unfold maxLen; omega) (by omega) (by simp; omega) _ rfl ?_
              intro g cap w5 hown' hgrow _ _
              obtain ⟨a1, hI5, hk5, hb5⟩ := HI3.appended (f := ⟨x, y, d⟩) hown' hgrow
              have a2 := a1.cell
              have a3 := a1.frozen
              refine hK _ _ ?_
              clear hK K
              refine wpAny_ready (rs := [6]) (by kernel_rfl) (by simp) ?_
              refine AllReady.cons rfl (fun K hK => ?_) AllReady.nil
              go_simp
              refine hK _ _ ?_
              clear hK K
              refine wpAny_done (by kernel_rfl) ?_ _
              obtain ⟨W5, hW5⟩ : ∃ W5, w5.setCell ⟨w.heap.size + 1 + 1, 0, none⟩ (.slice (some ⟨g, 0, none⟩) (L.length + 1) cap) = W5 := ⟨_, rfl⟩
              rw [hW5] at hI5 hk5 hb5 ⊢
              have c1 := hI5.b1.cell
              have f1 := hI5.b1.frozen
              obtain ⟨y0, y1⟩ := HQ.out
              clear d0 d1 d2 c2 c2' a1 a2 a3 hown' hgrow hW5 hrow
              gi_wp2
              have hE := hI5.setSq (y + 1)
              have hO := HO.out
              refine ⟨((hk3.trans hk5).trans (KeepsOthers.setCell _ _ _)).from _, hI.kp hE ((hb3.trans hb5).setCell (p := ⟨w.heap.size + 1, 0, none⟩) (by show w.heap.size ≤ w.heap.size + 1; omega) _), L ++ [⟨x, y, d⟩], y + 1, _, hE, fun h => ?_, fun k' h => ?_⟩
              · rw [HK.out] at h; cases h
              · rw [HK.out] at h
                cases h
                refine ⟨by omega, by simp; omega, fun L' e' hr => ?_⟩
                have := HP.out _ _ (HR.out L' e' (HM.out.2 (by simp)) hr)
                simpa using this
          -- END ORDERS
        · have r1 : (y != q) = true := by simpa using h2
          refine region_round_quiet hmix (by rintro ⟨a', w', h'⟩; exact h') (by kernel_rfl) (by kernel_rfl) ?_
          repeat (go_big_quiet_step (fail))
          refine wpQuiet_nil ?_
          intro _ hw'
          obtain ⟨nq, hw''⟩ := hw'
          subst hw''
          gi_wp2
          refine ⟨(hk2.trans (keeps_drewN W1 nq)).from _, rfl, L, q, v, k1, HI2.out.drewN nq, ?_⟩
          have := HP.out [] k1 (Ran.stop (fun h => h2 (HM.out.1 h).2) HS.out)
          rwa [List.append_nil] at this
      · have r1 : (x != ep) = true := by simpa using h1
        refine region_round_quiet hmix (by rintro ⟨a', w', h'⟩; exact h') (by kernel_rfl) (by kernel_rfl) ?_
        repeat (go_big_quiet_step (fail))
        refine wpQuiet_nil ?_
        intro _ hw'
        obtain ⟨nq, hw''⟩ := hw'
        subst hw''
        gi_wp2
        refine ⟨(hk2.trans (keeps_drewN W1 nq)).from _, rfl, L, q, v, k1, HI2.out.drewN nq, ?_⟩
        have := HP.out [] k1 (Ran.stop (fun h => h1 (HM.out.1 h).1) HS.out)
        rwa [List.append_nil] at this
    · obtain rfl : p = none := by unfold FrP at hp; rwa [if_neg hok] at hp
      have HN := Lib.hid (fun h => nxt_none (l := s.data.toList) (k := k1) h)
      have HO := Lib.hid (fun k' h => nxt_no (l := s.data.toList) (k := k1) (k' := k') hok h)
      have HM := Lib.hid (show ¬ mtL s.data.toList ep q k1 from fun h => hok h.1)
      clear hp hok
      gi_wp2
      refine ⟨hk2.from _, hI.kp hI2 hb2, L, q, v, hI2, fun h => ?_, fun k' h => ?_⟩
      · have := HP.out [] k1 (Ran.stop HM.out (HN.out h).2)
        rwa [List.append_nil] at this
      · obtain ⟨g1, rfl⟩ := HO.out k' h
        have g2 := (fillL_yes.1 g1).2.1
        have g3 := upT_ge k1
        exact ⟨by omega, by omega, fun L' e' hr => HP.out L' e' (Ran.fill g1 hr)⟩
  case done =>
    rintro D' k W hD hn ⟨L, q, v, h, h1, _⟩ hK
    have hr := Lib.hid (h1 hn)
    have c2 := h.b2.cell
    have c3 := h.b3.cell
    clear h1
    obtain ⟨a, c, rfl, -⟩ := own_frms h.row
    gi_wp2
    refine wpIn_wide.2 ?_
    go_quiet (fail)
    gi_wp2
    rw [Exit.noGoto_ret]
    refine ⟨by simp, .inl ⟨_, _, rfl, run_takeDeferred (w := W.drewN nq) hK, ?_⟩⟩
    have row' := ownsRow_putObj (h.drewN nq).row (.deferred none) (show (W.drewN nq).heap[D']? = _ from hK) rfl
    obtain ⟨a', c', e', hfr⟩ := own_frms row'
    cases e'
    exact ⟨_, results_tmp2 rfl _ _ _, L, k, _, _, hr.out, rfl, hfr, (drewN_below h.bel nq).trans (belowK_b (w := w) (Nat.le_refl _) _ D' _ _ (by omega) (show (W.drewN nq).heap[D']? = _ from hK) rfl rfl)⟩
  case stop =>
    rintro D' c W hD ⟨rfl, L, q, v, k, h, h1⟩ hK
    have hr := Lib.hid h1
    have c2 := h.b2.cell
    have c3 := h.b3.cell
    clear h1
    obtain ⟨a, c, rfl, -⟩ := own_frms h.row
    gi_wp2
    refine wpIn_wide.2 ?_
    go_quiet (fail)
    gi_wp2
    rw [Exit.noGoto_ret]
    refine ⟨by simp, .inl ⟨_, _, rfl, run_takeDeferred (w := W.drewN nq) hK, ?_⟩⟩
    have row' := ownsRow_putObj (h.drewN nq).row (.deferred none) (show (W.drewN nq).heap[D']? = _ from hK) rfl
    obtain ⟨a', c', e', hfr⟩ := own_frms row'
    cases e'
    exact ⟨_, results_tmp2 rfl _ _ _, L, k, _, _, hr.out, rfl, hfr, (drewN_below h.bel nq).trans (belowK_b (w := w) (Nat.le_refl _) _ D' _ _ (by omega) (show (W.drewN nq).heap[D']? = _ from hK) rfl rfl)⟩
end Go.Proofs.YtibbglmhcjnedaaDoor
