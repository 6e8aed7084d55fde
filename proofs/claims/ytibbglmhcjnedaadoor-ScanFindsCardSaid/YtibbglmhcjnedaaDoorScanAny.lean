/-
  Contracts of the program's Any.
-/
import Derived.Test.YtibbglmhcjnedaaDoorScanRun2
namespace Go.Proofs.YtibbglmhcjnedaaDoor
open Go.RowKit Go.Shelf
set_option linter.unusedVariables false
attribute [local go_sem] Oper.semAt_some

/-- What Any holds while it goes over the places. -/
structure AnyI (w : World) (s : ByteArray) (n0 : Nat) (L : List Frm) (v : Value) (W : World) : Prop where
  b2 : Boxed W n0 23 v
  b4 : Boxed W (n0 + 1) 9 (.string s)
  b5 : Boxed W (n0 + 1 + 1) 55 (.func (.func 27) #[] #[])
  row : W.ownsRow n0 40 3 v L.length (Frm.flat L)
  bel : Below n0 w W
  size : n0 = w.heap.size
theorem AnyI.kept {w : World} {s : ByteArray} {n0 : Nat} {L : List Frm} {v : Value} {W W' : World} {row : Option Nat} {B : Nat} (h : AnyI w s n0 L v W) (hB : n0 + 3 ≤ B) (hg : W.grownBy W' row) (hr : ∀ r, row = some r → B ≤ r ∧ ∃ o : Obj, W.heap[r]? = some o ∧ o.isCells = false) : AnyI w s n0 L v W' :=
  ⟨box_on h.b2 (by omega) hg hr, box_on h.b4 (by omega) hg hr, box_on h.b5 (by omega) hg hr, row_on h.row hg hr,
    h.bel.grown hg (by have := h.size; have := h.bel.size; omega) (fun k e => by have := (hr k e).1; omega), h.size⟩
theorem AnyI.kp {w : World} {s : ByteArray} {n0 : Nat} {L L' : List Frm} {v v' : Value} {W W' : World} (h : AnyI w s n0 L v W) (h' : AnyI w s n0 L' v' W') (hb : Below n0 W W') : KpB n0 (n0 + 1) (n0 + 1 + 1) W W' :=
  ⟨hb, h'.b4.trans h.b4.symm, h'.b5.trans h.b5.symm⟩
theorem AnyI.appended {w : World} {s : ByteArray} {n0 : Nat} {L : List Frm} {v : Value} {W w1 : World} {v' : Value} {f : Frm} {tmp : Obj} (h : AnyI w s n0 L v W) (hown' : w1.ownsRow n0 40 3 v' (L.length + 1) (Frm.flat L ++ [.int .i64 f.ep, .int .i64 f.sq, .string f.data])) (hgrow : (W.alloc tmp).grownBy w1 v.ownBlock) :
    Boxed w1 n0 23 v ∧ AnyI w s n0 (L ++ [f]) v' (w1.setCell ⟨n0, 0, none⟩ v') ∧ KeepsOthers W (w1.setCell ⟨n0, 0, none⟩ v') ∧ Below n0 W (w1.setCell ⟨n0, 0, none⟩ v') := by
  have hsz : n0 ≤ W.heap.size := by have := h.size; have := h.bel.size; omega
  obtain ⟨a1, a2, a3, a4, a5⟩ := h.b2.appended (by decide) h.row hsz (by omega) hown' hgrow
  have on : ∀ {b t u}, Boxed W b t u → t ≠ 40 → b ≠ n0 → Boxed (w1.setCell ⟨n0, 0, none⟩ v') b t u := fun hb ht hne =>
    ((hb.alloc tmp).kept hgrow (hb.not_row ht h.row)).other hne _
  refine ⟨a1, ⟨a2, on h.b4 (by decide) (by omega), on h.b5 (by decide) (by omega), ?_, h.bel.trans a5, h.size⟩, a4, a5⟩
  rw [Frm.flat_one, List.length_append]
  exact a3
theorem AnyI.drew {w : World} {s : ByteArray} {n0 : Nat} {L : List Frm} {v : Value} {W : World} (h : AnyI w s n0 L v W) : AnyI w s n0 L v W.drew := ⟨h.b2, h.b4, h.b5, h.row, h.bel.drew, h.size⟩

/-- Between two rounds; behind one. -/
def AnyJ (w : World) (s : ByteArray) (k : Nat) (W : World) : Prop :=
  ∃ L v, AnyI w s w.heap.size L v W ∧ k ≤ s.size ∧ 16 * L.length ≤ k ∧ ∀ L', AnyR s.data.toList k L' → AnyR s.data.toList 0 (L ++ L')
def AnyD (w : World) (s : ByteArray) (k : Nat) (W : World) : Prop :=
  ∃ L v, AnyI w s w.heap.size L v W ∧ (nxtK (stepB s.data.toList) s.data.toList k = none → AnyR s.data.toList 0 L) ∧
    ∀ k', nxtK (stepB s.data.toList) s.data.toList k = some k' → k' ≤ s.size ∧ 16 * L.length ≤ k' ∧ ∀ L', AnyR s.data.toList k' L' → AnyR s.data.toList 0 (L ++ L')
theorem anyJ_own (w : World) (s : ByteArray) {B : Nat} (hB : w.heap.size + 3 ≤ B) : OwnFrom B (AnyJ w s) := fun k X Y row ⟨L, v, h, r⟩ hg hr => ⟨L, v, h.kept hB hg hr, r⟩
theorem anyD_own (w : World) (s : ByteArray) {B : Nat} (hB : w.heap.size + 3 ≤ B) : OwnFrom B (AnyD w s) := fun k X Y row ⟨L, v, h, r⟩ hg hr => ⟨L, v, h.kept hB hg hr, r⟩
theorem nxtB_none {l : List UInt8} {k : Nat} (h : nxtK (stepB l) l k = none) : l.length ≤ k := by
  unfold nxtK stepB at h
  by_cases ho : okL l k
  · rw [if_pos ho] at h; cases h
  · rw [if_neg ho] at h
    by_cases hk : k < l.length
    · simp [hk] at h
    · omega
theorem nxtB_no {l : List UInt8} {k k' : Nat} (ho : ¬ okL l k) (h : nxtK (stepB l) l k = some k') : k < l.length ∧ k' = k + 1 := by
  unfold nxtK stepB at h
  rw [if_neg ho] at h
  by_cases hk : k < l.length
  · simp [hk] at h
    exact ⟨hk, h.symm⟩
  · simp [hk] at h

set_option maxRecDepth 100000 in
set_option maxHeartbeats 1000000 in
theorem sany_any (s : ByteArray) (hs : s.size ≤ 4294967296) (w : World) (hF : First w) :
    Calls Tryd.prog 16 #[.string s] w fun e w' => ∃ L a c, AnyR s.data.toList 0 L ∧ e = .returned (.slice a L.length c) ∧ Frms w' (fun b => w.heap.size ≤ b ∧ b < w'.heap.size) a L ∧ Below w.heap.size w w' := by
  have hmix : Tryd.prog.follows .mixedOrders = true := by kernel_rfl
  obtain ⟨i0, hi, hz0, hz1, hz2⟩ := info_parts frm_info
  refine (callsIn_wide (n := 5)).1 ?_
  refine callsIn_of_wp_marks Tryd.func16 rfl trivial ?_ rfl
  simp only [Tryd.ntmps16, List.size_toArray, List.length_cons, List.length_nil, Nat.reduceAdd, Nat.reduceSub, Array.replicate_succ, Array.replicate_zero, List.push_toArray, List.append_toArray, List.nil_append, List.cons_append]
  gi_wp2_with fail
  refine ⟨trivial, (callsIn_wide.2 (splaces_any s _ _)).mono ?_⟩
  rintro e w' ⟨rfl, rfl⟩
  gi_wp2
  have HI : AnyI w s w.heap.size [] (.slice none 0 0) (((w.alloc (Obj.cells #[Value.slice none 0 0] 23)).alloc (Obj.cells #[Value.string s] 9)).alloc (Obj.cells #[Value.func (Fn.func 27) #[] #[]] 55)) := by
    refine ⟨?_, ?_, ?_, World.ownsRow_nil _ _ _ _, ?_, rfl⟩
    · exact ((Boxed.new w _ _).alloc _).alloc _
    · have := Boxed.new (w.alloc (Obj.cells #[Value.slice none 0 0] 23)) 9 (.string s)
      rw [World.size_alloc] at this
      exact this.alloc _
    · have := Boxed.new ((w.alloc (Obj.cells #[Value.slice none 0 0] 23)).alloc (Obj.cells #[Value.string s] 9)) 55 (.func (.func 27) #[] #[])
      rw [World.size_alloc, World.size_alloc] at this
      exact this
    · exact (((Below.refl _ w).alloc (Nat.le_refl _) _).alloc (by simp) _).alloc (by simp; omega) _
  obtain ⟨W0, hW0⟩ : ∃ W0, (((w.alloc (Obj.cells #[Value.slice none 0 0] 23)).alloc (Obj.cells #[Value.string s] 9)).alloc (Obj.cells #[Value.func (Fn.func 27) #[] #[]] 55)) = W0 := ⟨_, rfl⟩
  have hsz : W0.heap.size = w.heap.size + 3 := by rw [← hW0]; simp
  rw [hW0] at HI ⊢
  have hF0 : First W0 := hF.onto HI.bel
  have hn0 := hF.2.2
  have hlen : s.data.toList.length = s.size := by simp
  refine rangeFunc_gives (gf := 32) (lb := #[.pointer (some ⟨w.heap.size + 1, 0, none⟩), .pointer (some ⟨w.heap.size + 1 + 1, 0, none⟩)]) rfl (enters_of Tryd.func32 (by kernel_rfl) rfl)
    (siter_one s (by unfold maxLen; omega) w.heap.size _ _ hn0 W0 HI.b4 HI.b5 hF0) (fun x => frp_own s x _) kpb_trans (fun W l o' hl => kpb_put (w := w) W l o' (by omega) (by omega) (by omega))
    (Below.refl _ _) (fun _ => rfl) (AnyJ w s) (AnyD w s) (fun _ _ => False) (anyJ_own w s (by omega)) (anyD_own w s (by omega)) (fun _ _ _ _ h _ _ => h)
    ⟨[], _, HI, Nat.zero_le _, Nat.zero_le _, fun L' h => h⟩ ?next
    (fun x => { tmps := #[.string s, undef, .slice none 0 0, .pointer (some ⟨w.heap.size, 0, none⟩), undef, .pointer x.2, .string s,
      .func (.func 32) #[] #[.pointer (some ⟨w.heap.size + 1, 0, none⟩), .pointer (some ⟨w.heap.size + 1 + 1, 0, none⟩)], .int .i64 x.1, .pointer x.2, undef, undef, undef, undef, undef, undef, undef, undef, undef], defers := [] }) ?assign ?body ?done ?stop
  case next =>
    rintro k k' W ⟨L, v, h, _, h2⟩ hn
    obtain ⟨g1, g2, g3⟩ := h2 k' hn
    exact ⟨L, v, h, g1, g2, g3⟩
  case assign =>
    intro l x W K hK
    gi_wp2
    exact hK
  case body =>
    rintro l k ⟨k1, p⟩ W hWs ⟨L, v, hI, hk, hL, hpre⟩ ⟨hk1, -, hp⟩
    dsimp only at hk1 hp
    subst hk1
    have hB0 : w.heap.size ≤ W.heap.size := by have := hI.bel.size; omega
    have HP := Lib.hid hpre; clear hpre
    by_cases hok : okL s.data.toList k1
    · have hp' := hp
      unfold FrP at hp'
      rw [if_pos hok] at hp'
      obtain ⟨b, rfl, hB⟩ := hp'
      have HK := Lib.hid (nxt_ok (f := stepB s.data.toList) hok)
      have HO := Lib.hid (ok_len hok)
      have HR := Lib.hid (fun L' => @AnyR.one s.data.toList k1 L' hok)
      obtain ⟨⟨x, y, d⟩, hfr⟩ : ∃ f, frL s.data.toList k1 = f := ⟨_, rfl⟩
      rw [hfr] at hB HR
      clear hp hok hfr
      gi_wp2
      obtain ⟨W3, hW3⟩ : ∃ W3, W.drew = W3 := ⟨_, rfl⟩
      have HI3 : AnyI w s w.heap.size L v W3 := hW3 ▸ hI.drew
      have HB3 : Blk W3 b #[.int .i64 x, .int .i64 y, .string d] 40 := hW3 ▸ (hB : Blk W.drew b _ _)
      have hk3 : KeepsOthers W W3 := hW3 ▸ keeps_drew W
      have hb3 : Below w.heap.size W W3 := hW3 ▸ (Below.refl w.heap.size W).drew
      refine wpIn_region_any hmix (any_round (noDefer_spec (by kernel_rfl)) (by rintro ⟨a', w', h'⟩; exact h') _ _ _ _ ?_)
      change wpAny _ _ _ _ _ _ _ (World.drew _)
      rw [hW3]
      obtain ⟨d0, d1, d2, -, -, -⟩ := HB3.three
      have c2 := HI3.b2.cell
      have c2' := (HI3.b2.alloc (.cells #[.int .i64 x, .int .i64 y, .string d] 40)).cell
      have hrow := HI3.row
      have hsz3 : w.heap.size ≤ W3.heap.size := by have := HI3.bel.size; omega
      have hL2 : L.length ≤ 4294967296 := by omega
      refine wpAny_take (i := 1) (v := .pointer (some ⟨b, 0, none⟩)) rfl (by kernel_rfl) (by kernel_rfl) (by kernel_rfl) (fun _ _ _ h => h) (Or.inl ⟨by rfl, by intro w; go_simp⟩) ?_
      refine wpAny_take (i := 2) (v := .pointer (some ⟨b, 0, none⟩)) rfl (by kernel_rfl) (by kernel_rfl) (by kernel_rfl) (fun _ _ _ h => h) (Or.inl ⟨by rfl, by intro w; go_simp⟩) ?_
      -- ORDERS
      refine wpAny_ready (rs := [0, 3]) (by kernel_rfl) (by simp) ?_
      refine AllReady.cons rfl (fun K hK => ?_) (AllReady.cons rfl (fun K hK => ?_) AllReady.nil)
      · go_simp
        refine hK _ _ ?_
        clear hK K
        refine wpAny_ready (rs := [3]) (by kernel_rfl) (by simp) ?_
        refine AllReady.cons rfl (fun K hK => ?_) AllReady.nil
        go_simp
        refine hK _ _ ?_
        clear hK K
        refine wpAny_ready (rs := [4]) (by kernel_rfl) (by simp) ?_
        refine AllReady.cons rfl (fun K hK => ?_) AllReady.nil
        go_simp
        refine hK _ _ ?_
        clear hK K
        refine wpAny_ready (rs := [5]) (by kernel_rfl) (by simp) ?_
        refine AllReady.cons rfl (fun K hK => ?_) AllReady.nil
        refine step_append_lies _ rfl (.tmp 12) (.tmp 16) 23 rfl w.heap.size 40 i0 _ 3 32 Tryd.underlying23 hi hz0 hz1 hz2 rfl (by decide) v L.length (Frm.flat L) rfl (hrow.alloc _) ⟨W3.heap.size, 0, none⟩ 1 1 [.int .i64 x, .int .i64 y, .string d] rfl rfl (news_frm _ _ _ _ _) (one_frm _ _ _) (by omega) (by unfold maxLen; omega) (by omega) (by simp; omega) _ rfl ?_
        intro g cap w5 hown' hgrow _ _
        obtain ⟨a1, hI5, hk5, hb5⟩ := HI3.appended (f := ⟨x, y, d⟩) hown' hgrow
        have a2 := a1.cell
        have a3 := a1.frozen
        refine hK _ _ ?_
        clear hK K
        refine wpAny_ready (rs := [6]) (by kernel_rfl) (by simp) ?_
        refine AllReady.cons rfl (fun K hK => ?_) AllReady.nil
        go_simp
        refine hK _ _ ?_
        clear hK K
        refine wpAny_done (by kernel_rfl) ?_ _
        obtain ⟨W5, hW5⟩ : ∃ W5, w5.setCell ⟨w.heap.size, 0, none⟩ (.slice (some ⟨g, 0, none⟩) (L.length + 1) cap) = W5 := ⟨_, rfl⟩
        rw [hW5] at hI5 hk5 hb5 ⊢
        clear d0 d1 d2 c2 c2' a1 a2 a3 hown' hgrow hW5 hrow
        gi_wp2
        have hO := HO.out
        refine ⟨(hk3.trans hk5).from _, hI.kp hI5 (hb3.trans hb5), L ++ [⟨x, y, d⟩], _, hI5, fun h => ?_, fun k' h => ?_⟩
        · rw [HK.out] at h; cases h
        · rw [HK.out] at h
          cases h
          refine ⟨by omega, by simp; omega, fun L' hr => ?_⟩
          have := HP.out _ (HR.out L' hr)
          simpa using this
      · go_simp
        refine hK _ _ ?_
        clear hK K
        refine wpAny_ready (rs := [0, 4]) (by kernel_rfl) (by simp) ?_
        refine AllReady.cons rfl (fun K hK => ?_) (AllReady.cons rfl (fun K hK => ?_) AllReady.nil)
        · go_simp
          refine hK _ _ ?_
          clear hK K
          refine wpAny_ready (rs := [4]) (by kernel_rfl) (by simp) ?_
          refine AllReady.cons rfl (fun K hK => ?_) AllReady.nil
          go_simp
          refine hK _ _ ?_
          clear hK K
          refine wpAny_ready (rs := [5]) (by kernel_rfl) (by simp) ?_
          refine AllReady.cons rfl (fun K hK => ?_) AllReady.nil
          refine step_append_lies _ rfl (.tmp 12) (.tmp 16) 23 rfl w.heap.size 40 i0 _ 3 32 Tryd.underlying23 hi hz0 hz1 hz2 rfl (by decide) v L.length (Frm.flat L) rfl (hrow.alloc _) ⟨W3.heap.size, 0, none⟩ 1 1 [.int .i64 x, .int .i64 y, .string d] rfl rfl (news_frm _ _ _ _ _) (one_frm _ _ _) (by omega) (by unfold maxLen; omega) (by omega) (by simp; omega) _ rfl ?_
          intro g cap w5 hown' hgrow _ _
          obtain ⟨a1, hI5, hk5, hb5⟩ := HI3.appended (f := ⟨x, y, d⟩) hown' hgrow
          have a2 := a1.cell
          have a3 := a1.frozen
          refine hK _ _ ?_
          clear hK K
          refine wpAny_ready (rs := [6]) (by kernel_rfl) (by simp) ?_
          refine AllReady.cons rfl (fun K hK => ?_) AllReady.nil
          go_simp
          refine hK _ _ ?_
          clear hK K
          refine wpAny_done (by kernel_rfl) ?_ _
          obtain ⟨W5, hW5⟩ : ∃ W5, w5.setCell ⟨w.heap.size, 0, none⟩ (.slice (some ⟨g, 0, none⟩) (L.length + 1) cap) = W5 := ⟨_, rfl⟩
          rw [hW5] at hI5 hk5 hb5 ⊢
          clear d0 d1 d2 c2 c2' a1 a2 a3 hown' hgrow hW5 hrow
          gi_wp2
          have hO := HO.out
          refine ⟨(hk3.trans hk5).from _, hI.kp hI5 (hb3.trans hb5), L ++ [⟨x, y, d⟩], _, hI5, fun h => ?_, fun k' h => ?_⟩
          · rw [HK.out] at h; cases h
          · rw [HK.out] at h
            cases h
            refine ⟨by omega, by simp; omega, fun L' hr => ?_⟩
            have := HP.out _ (HR.out L' hr)
            simpa using this
        · go_simp
          refine hK _ _ ?_
          clear hK K
          refine wpAny_ready (rs := [0]) (by kernel_rfl) (by simp) ?_
          refine AllReady.cons rfl (fun K hK => ?_) AllReady.nil
          go_simp
          refine hK _ _ ?_
          clear hK K
          refine wpAny_ready (rs := [5]) (by kernel_rfl) (by simp) ?_
          refine AllReady.cons rfl (fun K hK => ?_) AllReady.nil
          refine step_append_lies _ rfl (.tmp 12) (.tmp 16) 23 rfl w.heap.size 40 i0 _ 3 32 Tryd.underlying23 hi hz0 hz1 hz2 rfl (by decide) v L.length (Frm.flat L) rfl (hrow.alloc _) ⟨W3.heap.size, 0, none⟩ 1 1 [.int .i64 x, .int .i64 y, .string d] rfl rfl (news_frm _ _ _ _ _) (one_frm _ _ _) (by omega) (by unfold maxLen; omega) (by omega) (by simp; omega) _ rfl ?_
          intro g cap w5 hown' hgrow _ _
          obtain ⟨a1, hI5, hk5, hb5⟩ := HI3.appended (f := ⟨x, y, d⟩) hown' hgrow
          have a2 := a1.cell
          have a3 := a1.frozen
          refine hK _ _ ?_
          clear hK K
          refine wpAny_ready (rs := [6]) (by kernel_rfl) (by simp) ?_
          refine AllReady.cons rfl (fun K hK => ?_) AllReady.nil
          go_simp
          refine hK _ _ ?_
          clear hK K
          refine wpAny_done (by kernel_rfl) ?_ _
          obtain ⟨W5, hW5⟩ : ∃ W5, w5.setCell ⟨w.heap.size, 0, none⟩ (.slice (some ⟨g, 0, none⟩) (L.length + 1) cap) = W5 := ⟨_, rfl⟩
          rw [hW5] at hI5 hk5 hb5 ⊢
          clear d0 d1 d2 c2 c2' a1 a2 a3 hown' hgrow hW5 hrow
          gi_wp2
          have hO := HO.out
          refine ⟨(hk3.trans hk5).from _, hI.kp hI5 (hb3.trans hb5), L ++ [⟨x, y, d⟩], _, hI5, fun h => ?_, fun k' h => ?_⟩
          · rw [HK.out] at h; cases h
          · rw [HK.out] at h
            cases h
            refine ⟨by omega, by simp; omega, fun L' hr => ?_⟩
            have := HP.out _ (HR.out L' hr)
            simpa using this
      -- END ORDERS
    · obtain rfl : p = none := by unfold FrP at hp; rwa [if_neg hok] at hp
      have HN := Lib.hid (fun h => nxtB_none (l := s.data.toList) (k := k1) h)
      have HO := Lib.hid (fun k' h => nxtB_no (l := s.data.toList) (k := k1) (k' := k') hok h)
      have HS := Lib.hid (fun L' hk => @AnyR.skip s.data.toList k1 L' hok hk)
      clear hp hok
      gi_wp2
      refine ⟨KeepsFrom.refl _ _, hI.kp hI (Below.refl _ _), L, v, hI, fun h => ?_, fun k' h => ?_⟩
      · have := HP.out [] (AnyR.stop (HN.out h))
        rwa [List.append_nil] at this
      · obtain ⟨g1, rfl⟩ := HO.out k' h
        exact ⟨by omega, by omega, fun L' hr => HP.out L' (HS.out L' g1 hr)⟩
  case done =>
    rintro D' k W hD hn ⟨L, v, h, h1, _⟩ hK
    have hr := Lib.hid (h1 hn)
    have c2 := h.b2.cell
    clear h1
    obtain ⟨a, c, rfl, -⟩ := own_frms h.row
    gi_wp2
    refine ⟨by simp, .inl ⟨_, _, rfl, run_takeDeferred (w := W) hK, ?_⟩⟩
    have row' := ownsRow_putObj h.row (.deferred none) hK rfl
    obtain ⟨a', c', e', hfr⟩ := own_frms row'
    cases e'
    exact ⟨_, results_tmp rfl _ _ _, L, _, _, hr.out, rfl, hfr, h.bel.trans (belowK_b (w := w) (Nat.le_refl _) _ D' _ _ (by omega) hK rfl rfl)⟩
  case stop =>
    rintro D' c W hD h hK
    exact h.elim
end Go.Proofs.YtibbglmhcjnedaaDoor
