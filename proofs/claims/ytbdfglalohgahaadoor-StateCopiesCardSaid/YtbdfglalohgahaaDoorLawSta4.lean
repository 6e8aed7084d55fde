/-
  The laws on states (layer 25), fourth part: StateCopies.
-/
import Derived.Test.YtbdfglalohgahaaDoorJStaRef4
import Derived.Test.YtbdfglalohgahaaDoorJStaRight
import Derived.Test.YtbdfglalohgahaaDoorOpenSta2
namespace Go.Proofs.YtbdfglalohgahaaDoor
open Go.RowKit
set_option linter.unusedVariables false
set_option linter.unusedSimpArgs false

/-- Nothing but cells from block lo up to hi has changed. -/
structure MidW (lo hi : Nat) (W W' : World) : Prop where
  os : W'.os = W.os
  tape : W'.tape = W.tape
  output : W'.output = W.output
  size : W'.heap.size = W.heap.size
  out : ∀ b, ¬ (lo ≤ b ∧ b < hi) → W'.heap[b]? = W.heap[b]?
theorem MidW.refl (lo hi : Nat) (W : World) : MidW lo hi W W := ⟨rfl, rfl, rfl, rfl, fun _ _ => rfl⟩
theorem MidW.set {lo hi : Nat} {W W' : World} (h : MidW lo hi W W') {p : Addr} (h1 : lo ≤ p.block) (h2 : p.block < hi) (u : Value) : MidW lo hi W (W'.setCell p u) :=
  ⟨h.os, h.tape, h.output, (World.size_setCell _ _ _).trans h.size, fun b hb => (Below.heap_setCell _ _ _ b (fun e => hb (by subst e; exact ⟨h1, h2⟩))).trans (h.out b hb)⟩
theorem MidW.wide {lo hi lo2 hi2 : Nat} {W W' : World} (h : MidW lo hi W W') (h1 : lo2 ≤ lo) (h2 : hi ≤ hi2) : MidW lo2 hi2 W W' := ⟨h.os, h.tape, h.output, h.size, fun b hb => h.out b (by omega)⟩
theorem MidW.trans {lo hi : Nat} {A B C : World} (h : MidW lo hi A B) (k : MidW lo hi B C) : MidW lo hi A C := ⟨k.os.trans h.os, k.tape.trans h.tape, k.output.trans h.output, k.size.trans h.size, fun b hb => (k.out b hb).trans (h.out b hb)⟩
theorem MidW.cell {lo hi : Nat} {W W' : World} (h : MidW lo hi W W') {p : Addr} (hp : ¬ (lo ≤ p.block ∧ p.block < hi)) : W'.cell? p = W.cell? p := World.cell?_of_block (h.out _ hp)
theorem MidW.below {lo hi n : Nat} {w W W' : World} (h : MidW lo hi W W') (hb : Below n w W) (hn : n ≤ lo) : Below n w W' := ⟨h.os.trans hb.os, h.tape.trans hb.tape, h.output.trans hb.output, by rw [h.size]; exact hb.size, fun k hk => (h.out k (by omega)).trans (hb.block k hk)⟩
theorem Box6.mid {lo hi b : Nat} {c0 c1 c2 c3 c4 c5 : Value} {W W' : World} (h : Box6 b c0 c1 c2 c3 c4 c5 W) (hm : MidW lo hi W W') (hb : ¬ (lo ≤ b ∧ b < hi)) : Box6 b c0 c1 c2 c3 c4 c5 W' :=
  ⟨by rw [hm.size]; exact h.lt, (hm.cell (p := ⟨b, 0, none⟩) hb).trans h.x0, (hm.cell (p := ⟨b, 1, none⟩) hb).trans h.x1, (hm.cell (p := ⟨b, 2, none⟩) hb).trans h.x2, (hm.cell (p := ⟨b, 3, none⟩) hb).trans h.x3, (hm.cell (p := ⟨b, 4, none⟩) hb).trans h.x4, (hm.cell (p := ⟨b, 5, none⟩) hb).trans h.x5⟩
theorem own_mid {lo hi base size n : Nat} {e : TypeId} {v : Value} {xs : List Value} {W W' : World} (h : W.ownsRow base e size v n xs) (hm : MidW lo hi W W') (hv : ∀ k, v.ownBlock = some k → ¬ (lo ≤ k ∧ k < hi)) : W'.ownsRow base e size v n xs := by
  refine ⟨h.1, ?_⟩
  rcases h.2 with h2 | ⟨g, cap, cur, rfl, h3, h4, h5⟩
  · exact .inl h2
  · exact .inr ⟨g, cap, cur, rfl, h3, (hm.out g (hv g rfl)).trans h4, h5⟩
theorem CopS.mid {lo hi base : Nat} {x : SPc} {W W' : World} (h : CopS W base x) (hm : MidW lo hi W W') (h1 : x.l = [] ∨ ∀ k, (Value.slice x.a x.l.length x.c).ownBlock = some k → ¬ (lo ≤ k ∧ k < hi)) (h2 : ∀ y ∈ x.l, ∀ k, (Value.slice y.a y.l.length y.c).ownBlock = some k → ¬ (lo ≤ k ∧ k < hi)) : CopS W' base x := by
  rcases h with h | ⟨g, a1, a2, a3, a4⟩
  · exact .inl h
  · rcases h1 with h1 | h1
    · exact .inl h1
    · exact .inr ⟨g, a1, a2, own_mid a3 hm h1, fun y hy => own_mid (a4 y hy) hm (h2 y hy)⟩
/-- A row stays one, whatever is laid into a cell. -/
theorem own_any_set {w : World} {base size n : Nat} {e : TypeId} {v : Value} {xs : List Value} (h : w.ownsRow base e size v n xs) (p : Addr) (hp0 : p.spot = none) (u : Value) : ∃ ys, (w.setCell p u).ownsRow base e size v n ys := by
  obtain ⟨pb, po, ps⟩ := p
  simp only at hp0
  subst hp0
  rcases h.2 with ⟨h1, h2⟩ | ⟨g, cap, cur, rfl, h3, h4, h5, h6, h7, h8⟩
  · exact ⟨xs, h.1, .inl ⟨h1, h2⟩⟩
  · by_cases hp : pb = g
    · have hlt := (Array.getElem?_eq_some_iff.1 h4).1
      have hb : (w.setCell ⟨pb, po, none⟩ u).heap[g]? = some (.cells (cur.set! po u) e (0, 0)) := by
        have h' : w.heap[g] = .cells cur e (0, 0) := by simpa [Array.getElem?_eq_getElem hlt] using h4
        show (w.heap.modify pb _)[g]? = _
        rw [hp, Array.getElem?_eq_getElem (by simpa using hlt), Array.getElem_modify_self, h']
        rfl
      have hsz : (cur.set! po u).size = cap * size := by simp [h7]
      refine ⟨(cur.set! po u).toList.take (n * size), ?_, .inr ⟨g, cap, _, rfl, h3, hb, h5, h6, hsz, rfl⟩⟩
      have : n * size ≤ cap * size := Nat.mul_le_mul_right _ h5
      rw [List.length_take, Array.length_toList, hsz]
      omega
    · exact ⟨xs, h.1, .inr ⟨g, cap, cur, rfl, h3, (Below.heap_setCell _ _ _ g (fun e => hp e.symm)).trans h4, h5, h6, h7, h8⟩⟩
theorem own_some {w : World} {base size n c : Nat} {e : TypeId} {a : Option Addr} {xs : List Value} (h : w.ownsRow base e size (.slice a n c) n xs) (hn : 0 < n) : ∃ g, a = some ⟨g, 0, none⟩ ∧ base ≤ g := by
  rcases h.2 with ⟨h1, h2⟩ | ⟨g, cap, cur, h1, h3, -⟩
  · omega
  · injection h1 with e1 e2 e3
    exact ⟨g, e1, h3⟩
/-- The i first steps of a copy are written over. -/
def StpI (x : SPc) (b i : Nat) (wr : World) : Prop := x.l = [] ∨ ∃ g, x.a = some ⟨g, 0, none⟩ ∧ b ≤ g ∧ wr.ownsRow b 38 1 (.slice x.a x.l.length x.c) x.l.length (List.replicate i (.slice none 0 0) ++ (sflat x.l).drop i) ∧ ∀ y ∈ x.l, ∃ xs, wr.ownsRow (g + 1) 36 3 (.slice y.a y.l.length y.c) y.l.length xs
theorem StpI.start {x : SPc} {b : Nat} {w : World} (h : CopS w b x) : StpI x b 0 w := by
  rcases h with h | ⟨g, a1, a2, a3, a4⟩
  · exact .inl h
  · exact .inr ⟨g, a1, a2, by rw [List.replicate_zero, List.nil_append, List.drop_zero]; exact a3, fun y hy => ⟨_, a4 y hy⟩⟩
theorem StpI.edit {x : SPc} {b i : Nat} {w : World} (h : StpI x b i w) {g : Nat} (hg : x.a = some ⟨g, 0, none⟩) {p : Addr} (hp : g < p.block) (hp0 : p.spot = none) (u : Value) : StpI x b i (w.setCell p u) := by
  rcases h with h | ⟨g2, a1, a2, a3, a4⟩
  · exact .inl h
  · obtain rfl : g = g2 := by rw [hg] at a1; cases a1; rfl
    refine .inr ⟨g, a1, a2, ?_, fun y hy => by obtain ⟨xs, hx⟩ := a4 y hy; exact own_any_set hx p hp0 u⟩
    refine ⟨a3.1, ?_⟩
    rcases a3.2 with h2 | ⟨g3, cap, cur, e3, h3, h4, h5⟩
    · exact .inl h2
    · refine .inr ⟨g3, cap, cur, e3, h3, (Below.heap_setCell _ _ _ g3 (fun e => ?_)).trans h4, h5⟩
      rw [a1] at e3
      injection e3 with e4 e5 e6
      injection e4 with e4
      injection e4 with e7
      omega
theorem set_nil (l : List Value) (i : Nat) (h : i < l.length) (u : Value) : (List.replicate i u ++ l.drop i).set i u = List.replicate (i + 1) u ++ l.drop (i + 1) := by
  rw [List.set_append_right _ _ (by simp), List.length_replicate, Nat.sub_self, List.drop_eq_getElem_cons h, List.set_cons_zero, List.replicate_succ', List.append_assoc]
  rfl
theorem StpI.next {x : SPc} {b i : Nat} {w : World} (h : StpI x b i w) {g : Nat} (hg : x.a = some ⟨g, 0, none⟩) (hi : i < x.l.length) : StpI x b (i + 1) (w.setCell ⟨g, i, none⟩ (.slice none 0 0)) := by
  rcases h with h | ⟨g2, a1, a2, a3, a4⟩
  · exact .inl h
  · obtain rfl : g = g2 := by rw [hg] at a1; cases a1; rfl
    refine .inr ⟨g, a1, a2, ?_, fun y hy => by obtain ⟨xs, hx⟩ := a4 y hy; exact ⟨_, own_set hx (p := ⟨g, i, none⟩) (Nat.lt_succ_self g) _⟩⟩
    rw [a1] at a3 ⊢
    have := (a3.stored i (.slice none 0 0)).1
    rwa [set_nil _ _ (by rw [sflat_len]; omega)] at this
theorem SPcs.of_cop {w w' : World} {base : Nat} {x : SPc} (h : SPcs w x) (hc : CopS w' base x) : SPcs w' x := by
  rcases hc with hc | ⟨g, a1, a2, a3, a4⟩
  · exact ⟨fun k hk => absurd hk (by rw [hc]; simp), fun y hy => absurd hy (by rw [hc]; simp), h.nil, h.le, h.cap⟩
  · obtain ⟨a, c, ev, hr⟩ := own_srow a3 (fun y hy => OwnE.in (a4 y hy))
    obtain ⟨xa, xl, xc⟩ := x
    injection ev with e1 e2 e3
    simp only at e1 e3
    subst e1
    subst e3
    exact hr.in
theorem CopI.in {w : World} {s s' : Sta} {b1 b2 b3 : Nat} {w' : World} (h : CopI w s s' b1 b2 b3 w') : StaIn w' s' := ⟨h.m.in, h.us, h.rs, h.g.in⟩
theorem CopI.few {w : World} {s s' : Sta} {b1 b2 b3 : Nat} {w' : World} (h : CopI w s s' b1 b2 b3 w') (hf : s.few = true) : s'.few = true := by
  have hd := h.d
  unfold Sta.d at hd
  injection hd with e1 e2 e3 e4 e5 e6
  have hf := (few_iff s).1 hf
  have hu : s'.u.l.length = s.u.l.length := by rw [← lsP_len, e3, lsP_len]
  have hr : s'.r.l.length = s.r.l.length := by rw [← lsP_len, e4, lsP_len]
  have hdp : ∀ l : List EPc, depN l = ((lsP l).map List.length).sum := fun l => by unfold depN lsP; rw [List.map_map]; rfl
  refine (few_iff s').2 ⟨by rw [e1]; exact hf.1, by rw [e2]; exact hf.2.1, by rw [hu]; exact hf.2.2.1, by rw [hr]; exact hf.2.2.2.1, by rw [e6]; exact hf.2.2.2.2.1, ?_⟩
  rw [hdp, hdp, e3, e4, ← hdp, ← hdp]
  exact hf.2.2.2.2.2
/-- What a copy keeps while another is written over. -/
theorem CopI.mid {w : World} {s s' : Sta} {b1 b2 b3 lo hi : Nat} {w' W W' : World} (h : CopI w s s' b1 b2 b3 w') (hW : Below w'.heap.size w' W) (hm : MidW lo hi W W') (hh : hi ≤ w.heap.size) : StaIn W' s' := by
  have l1 := h.l1; have l2 := h.l2; have l3 := h.l3
  have up : ∀ {base size n : Nat} {e : TypeId} {v : Value} {xs : List Value}, w.heap.size ≤ base → w'.ownsRow base e size v n xs → W'.ownsRow base e size v n xs := fun hb ho => own_mid (own_on ho hW) hm (fun k hk => by have := (ho.lt k hk).1; omega)
  have cu : CopS W' b1 s'.u := by
    rcases h.u with h2 | ⟨g, a1, a2, a3, a4⟩
    · exact .inl h2
    · exact .inr ⟨g, a1, a2, up l1 a3, fun y hy => up (by omega) (a4 y hy)⟩
  have cr : CopS W' b2 s'.r := by
    rcases h.r with h2 | ⟨g, a1, a2, a3, a4⟩
    · exact .inl h2
    · exact .inr ⟨g, a1, a2, up (by omega) a3, fun y hy => up (by omega) (a4 y hy)⟩
  exact ⟨OwnK.in (up (Nat.le_refl _) h.m), h.us.of_cop cu, h.rs.of_cop cr, OwnE.in (up (by omega) h.g)⟩

set_option maxRecDepth 100000 in
set_option maxHeartbeats 9600000 in
theorem stateCopies_walk (s : Sta) (w : World) (ia : StaIn w s) (la : StaL s) (hp : Lib.TabIs Tryd.prog w "internal/strconv.uint64pow10" .u64 Lib.pow10Tab) :
    Calls Tryd.prog 5 #[s.v] w fun e w' => e = .returned (.bool true) ∧ Below w.heap.size w w' := by
  have hpw : Pw w.heap.size w := Lib.tabBelow_of_tabIs hp
  have hX := RdI.new w s
  have cl := fun W (hW : Below w.heap.size w W) => lives25_any W (fun W2 h2 => hpw W2 (hW.trans (h2.mono hW.size)))
  have cfa := fun W (hW : Below w.heap.size w W) => few25_any s W (ia.later hW) la
  obtain ⟨wX, hwX⟩ : ∃ wX, w.alloc (.cells #[.string s.t, .slice s.m.a s.m.l.length s.m.c, .slice s.u.a s.u.l.length s.u.c, .slice s.r.a s.r.l.length s.r.c, .bool s.o, .slice s.g.a s.g.l.length s.g.c] 26) = wX := ⟨_, rfl⟩
  rw [hwX] at hX
  have cc := fun (fa : s.few = true) W (hW : Below w.heap.size w W) => copy_any s W (ia.later hW) (by have := (few_iff s).1 fa; omega) (by have := (few_iff s).1 fa; omega) (by have := (few_iff s).1 fa; omega) (by have := (few_iff s).1 fa; omega) (fun x hx => by
    have h := few_len fa
    rcases List.mem_append.1 hx with hx | hx
    · exact h.2.1 x hx
    · exact h.2.2.1 x hx)
  have cs := fun (fa : s.few = true) (c : Sta) (hc : c.few = true) (hd : c.d = s.d) W (hW : Below w.heap.size w W) (hcW : StaIn W c) => rsame25_any c s W hcW (ia.later hW) hc fa
  have ct := fun (fa : s.few = true) (c : Sta) (hc : c.few = true) (hd : c.d = s.d) W (hW : Below w.heap.size w W) (hcW : StaIn W c) => by
    have h := cs fa c hc hd W hW hcW
    rw [hd, sameD_refl] at h
    exact h
  obtain ⟨fa, hfa⟩ : ∃ x, s.few = x := ⟨_, rfl⟩
  rw [hfa] at cfa
  have HX := Lib.hid hX; have CL := Lib.hid cl; have CFA := Lib.hid cfa; have CC := Lib.hid cc; have CSS := Lib.hid ct; have HFA := Lib.hid hfa
  have p0 := HX.out.b0.x0; have p1 := HX.out.b0.x1; have p2 := HX.out.b0.x2; have p3 := HX.out.b0.x3; have p4 := HX.out.b0.x4; have p5 := HX.out.b0.x5
  clear hX cl cfa cc cs ct hfa ia la hp hpw
  cases fa with
  | false =>
    go_enter Tryd.func5, Tryd.ntmps5
    go_wp2_with fail
    refine (CFA.out _ HX.out.bel).mono ?_; rintro e w1 ⟨rfl, hb1⟩
    have H1 := Lib.hid (HX.out.on hb1)
    clear hb1 p0 p1 p2 p3 p4 p5
    go_wp2_with fail
    refine (CL.out _ H1.out.bel).mono ?_; rintro e w2 ⟨rfl, hb2⟩
    have H2 := Lib.hid (H1.out.on hb2)
    clear hb2
    go_wp2
    go_ret
    exact ⟨rfl, H2.out.bel⟩
  | true =>
    go_enter Tryd.func5, Tryd.ntmps5
    go_wp2_with fail
    refine (CFA.out _ HX.out.bel).mono ?_; rintro e w1 ⟨rfl, hb1⟩
    have H1 := Lib.hid (HX.out.on hb1)
    clear hb1 p0 p1 p2 p3 p4 p5 hwX
    have p0 := H1.out.b0.x0; have p1 := H1.out.b0.x1; have p2 := H1.out.b0.x2; have p3 := H1.out.b0.x3; have p4 := H1.out.b0.x4; have p5 := H1.out.b0.x5
    go_wp2_with fail
    refine (CC.out HFA.out _ H1.out.bel).mono ?_; rintro e w2 ⟨c, b1, b2, b3, rfl, hci⟩
    have HCI := Lib.hid hci
    have H2 := Lib.hid (H1.out.on hci.bel)
    have H2b := Lib.hid (H2.out.on (below1 w2 (.cells #[.string c.t, .slice c.m.a c.m.l.length c.m.c, .slice c.u.a c.u.l.length c.u.c, .slice c.r.a c.r.l.length c.r.c, .bool c.o, .slice c.g.a c.g.l.length c.g.c] 26)))
    clear hci p0 p1 p2 p3 p4 p5
    have p0 := H2b.out.b0.x0; have p1 := H2b.out.b0.x1; have p2 := H2b.out.b0.x2; have p3 := H2b.out.b0.x3; have p4 := H2b.out.b0.x4; have p5 := H2b.out.b0.x5
    go_wp2_with fail
    obtain ⟨w2b, hw2b⟩ : ∃ W, w2.alloc (.cells #[.string c.t, .slice c.m.a c.m.l.length c.m.c, .slice c.u.a c.u.l.length c.u.c, .slice c.r.a c.r.l.length c.r.c, .bool c.o, .slice c.g.a c.g.l.length c.g.c] 26) = W := ⟨_, rfl⟩
    rw [hw2b]
    rw [hw2b] at H2b p0 p1 p2 p3 p4 p5
    have KC := Lib.hid (show Box6 w2.heap.size (.string c.t) (.slice c.m.a c.m.l.length c.m.c) (.slice c.u.a c.u.l.length c.u.c) (.slice c.r.a c.r.l.length c.r.c) (.bool c.o) (.slice c.g.a c.g.l.length c.g.c) w2b by rw [← hw2b]; exact Box6.new _ _ _ _ _ _ _ _)
    have Z2 := Lib.hid (show w2b.heap.size = w2.heap.size + 1 by rw [← hw2b]; simp)
    have B2 := Lib.hid (show Below w2.heap.size w2 w2b by rw [← hw2b]; exact below1 _ _)
    clear hw2b
    refine (CC.out HFA.out _ H2b.out.bel).mono ?_; rintro e w3 ⟨d, e1, e2, e3, rfl, hdi⟩
    have HDI := Lib.hid hdi
    have H3 := Lib.hid (H2b.out.on hdi.bel)
    have KC3 := Lib.hid (KC.out.on hdi.bel KC.out.lt)
    have B3 := Lib.hid hdi.bel
    clear hdi p0 p1 p2 p3 p4 p5
    obtain ⟨w4, hw4⟩ : ∃ W, w3.alloc (.cells #[.string d.t, .slice d.m.a d.m.l.length d.m.c, .slice d.u.a d.u.l.length d.u.c, .slice d.r.a d.r.l.length d.r.c, .bool d.o, .slice d.g.a d.g.l.length d.g.c] 26) = W := ⟨_, rfl⟩
    have KD := Lib.hid (show Box6 w3.heap.size (.string d.t) (.slice d.m.a d.m.l.length d.m.c) (.slice d.u.a d.u.l.length d.u.c) (.slice d.r.a d.r.l.length d.r.c) (.bool d.o) (.slice d.g.a d.g.l.length d.g.c) w4 by rw [← hw4]; exact Box6.new _ _ _ _ _ _ _ _)
    have Z4 := Lib.hid (show w4.heap.size = w3.heap.size + 1 by rw [← hw4]; simp)
    have B4 := Lib.hid (show Below w3.heap.size w3 w4 by rw [← hw4]; exact below1 _ _)
    have H4 := Lib.hid (H3.out.on B4.out)
    have KC4 := Lib.hid (KC3.out.on B4.out KC3.out.lt)
    have x40 := KC4.out.x0; have x41 := KC4.out.x1; have x42 := KC4.out.x2; have x43 := KC4.out.x3; have x44 := KC4.out.x4; have x45 := KC4.out.x5
    have p0 := H4.out.b0.x0; have p1 := H4.out.b0.x1; have p2 := H4.out.b0.x2; have p3 := H4.out.b0.x3; have p4 := H4.out.b0.x4; have p5 := H4.out.b0.x5
    go_wp2_with fail
    refine (CSS.out HFA.out c (HCI.out.few HFA.out) HCI.out.d _ H4.out.bel (HCI.out.in.later (B2.out.trans ((B3.out.trans (B4.out.mono B3.out.size)).mono (by rw [Z2.out]; omega))))).mono ?_; rintro e w5 ⟨rfl, hb5⟩
    have H5 := Lib.hid (H4.out.on hb5)
    have KC5 := Lib.hid (KC4.out.on hb5 KC4.out.lt)
    have KD5 := Lib.hid (KD.out.on hb5 KD.out.lt)
    have B5 := Lib.hid hb5
    clear hb5 p0 p1 p2 p3 p4 p5 x40 x41 x42 x43 x44 x45 hw4
    have x50 := KD5.out.x0; have x51 := KD5.out.x1; have x52 := KD5.out.x2; have x53 := KD5.out.x3; have x54 := KD5.out.x4; have x55 := KD5.out.x5
    have p0 := H5.out.b0.x0; have p1 := H5.out.b0.x1; have p2 := H5.out.b0.x2; have p3 := H5.out.b0.x3; have p4 := H5.out.b0.x4; have p5 := H5.out.b0.x5
    go_wp2_with fail
    refine (CSS.out HFA.out d (HDI.out.few HFA.out) HDI.out.d _ H5.out.bel (HDI.out.in.later (B4.out.trans (B5.out.mono (by rw [Z4.out]; omega))))).mono ?_; rintro e W0 ⟨rfl, hb6⟩
    have HS := Lib.hid (H5.out.on hb6)
    have KC6 := Lib.hid (KC5.out.on hb6 KC5.out.lt)
    have KD6 := Lib.hid (KD5.out.on hb6 KD5.out.lt)
    have BW3 := Lib.hid (show Below w3.heap.size w3 W0 from B4.out.trans ((B5.out.trans (hb6.mono B5.out.size)).mono (by rw [Z4.out]; omega)))
    have BW2 := Lib.hid (show Below w2.heap.size w2 W0 from B2.out.trans ((B3.out.trans (BW3.out.mono B3.out.size)).mono (by rw [Z2.out]; omega)))
    clear hb6 p0 p1 p2 p3 p4 p5 x50 x51 x52 x53 x54 x55
    have l0 : w.heap.size + 1 ≤ w1.heap.size := H1.out.b0.lt
    have l1 := HCI.out.l1; have l2 := HCI.out.l2; have l3 := HCI.out.l3; have l4 := HCI.out.l4
    have l5 : w2.heap.size < w3.heap.size := by have := B3.out.size; have := Z2.out; omega
    have LL := Lib.hid (And.intro l0 (And.intro l1 (And.intro l2 (And.intro l3 (And.intro l4 l5)))))
    have hfc := (few_iff c).1 (HCI.out.few HFA.out)
    have lm : c.m.l.length ≤ 20 := hfc.2.1
    have lu : c.u.l.length ≤ 20 := hfc.2.2.1
    have lr : c.r.l.length ≤ 20 := hfc.2.2.2.1
    have lg : c.g.l.length ≤ 40 := hfc.2.2.2.2.1
    clear hfc
    have om := own_on HCI.out.m BW2.out
    have og := own_on HCI.out.g BW2.out
    have OG := Lib.hid og; have OM := Lib.hid om
    have OU := Lib.hid (HCI.out.u.on BW2.out); have OR := Lib.hid (HCI.out.r.on BW2.out)
    have GH := Lib.hid (own_hi HCI.out.g)
    clear om og l0 l1 l2 l3 l4 l5
    clear B2 B3 B4 B5 H1 H2 H2b H3 H4 H5 KC KC3 KC4 KC5 KD KD5 CC CFA
    go_wp2
    go_loopw [5] (fun i wr => ∃ (k : Nat) (xs : List Value), k ≤ c.m.l.length ∧ i = .int .i64 k ∧ wr.ownsRow w1.heap.size 34 2 (.slice c.m.a c.m.l.length c.m.c) c.m.l.length xs ∧ MidW w1.heap.size b1 W0 wr) (fun i _ => c.m.l.length - (intOf i).toNat)
    case atStart => exact ⟨0, _, Nat.zero_le _, rfl, OM.out, MidW.refl _ _ _⟩
    case round =>
      obtain ⟨k, xs, hk, rfl, hown, hmid⟩ := hrel
      obtain ⟨l0, l1, l2, l3, l4, l5⟩ := LL.out
      have y : wr.cell? ⟨w2.heap.size, 1, none⟩ = some (.slice c.m.a c.m.l.length c.m.c) := (hmid.cell (p := ⟨w2.heap.size, 1, none⟩) (by show ¬ (_ ≤ w2.heap.size ∧ w2.heap.size < _); omega)).trans KC6.out.x1
      by_cases hlt : k < c.m.l.length
      · obtain ⟨g, hg, hgl⟩ := own_some hown (by omega)
        have hgh : g < b1 := HCI.out.mh g (by rw [hg]; rfl)
        rw [hg] at hown y
        have hx : k * 2 < c.m.l.length * 2 := by omega
        have hxl : k * 2 < xs.length := by rw [hown.1]; exact hx
        obtain ⟨z0, q0⟩ : ∃ z, wr.cell? ⟨g, k * 2, none⟩ = some z := ⟨_, (hown.cellAt (k * 2) hx).trans (List.getElem?_eq_getElem hxl)⟩
        have f0 := hown.frozenAt (k * 2)
        have HO := Lib.hid (hown.stored (k * 2) (.string ⟨#[111, 118, 101, 114]⟩)).1; have HM := Lib.hid (hmid.set (p := ⟨g, k * 2, none⟩) hgl hgh (.string ⟨#[111, 118, 101, 114]⟩)); have HG := Lib.hid hg
        have c0 : (0 : Int) ≤ (k : Int) := by omega
        have c1 : (k : Int) < (c.m.l.length : Int) := by omega
        clear hown hmid hx hxl hg hgl hgh l0 l1 l2 l3 l4 l5
        go_wp2
        go_roundw
        case rel => exact ⟨k + 1, _, by omega, by go_num, by rw [HG.out]; exact HO.out, HM.out⟩
        case measure => simp [intOf]; omega
      · obtain rfl : k = c.m.l.length := by omega
        have c1 : ¬ c.m.l.length < c.m.l.length := by omega
        have MID1 := Lib.hid (hmid.wide (lo2 := w1.heap.size) (hi2 := w2.heap.size) (by omega) (by omega))
        obtain ⟨A1, hA1⟩ : ∃ A, wr = A := ⟨_, rfl⟩
        rw [hA1] at MID1 y ⊢
        have OG1 := Lib.hid (own_mid OG.out (hA1 ▸ hmid) (fun k hk => by have := (OG.out.lt k hk).1; omega))
        have OU1 := Lib.hid (OU.out.mid (hA1 ▸ hmid) (by rcases HCI.out.u with h | ⟨g, a1, a2, a3, a4⟩; exact .inl h; exact .inr (fun k hk => by rw [a1] at hk; have hk : some g = some k := hk; injection hk with hk; omega)) (fun y hy k hk => by rcases HCI.out.u with h | ⟨g, a1, a2, a3, a4⟩; rw [h] at hy; cases hy; have := ((a4 y hy).lt k hk).1; omega))
        have OR1 := Lib.hid (OR.out.mid (hA1 ▸ hmid) (by rcases HCI.out.r with h | ⟨g, a1, a2, a3, a4⟩; exact .inl h; exact .inr (fun k hk => by rw [a1] at hk; have hk : some g = some k := hk; injection hk with hk; omega)) (fun y hy k hk => by rcases HCI.out.r with h | ⟨g, a1, a2, a3, a4⟩; rw [h] at hy; cases hy; have := ((a4 y hy).lt k hk).1; omega))
        clear hown hmid hA1 l0 l1 l2 l3 l4 l5
        go_wp2
        clear y
        go_loopw [6] (fun i wr => ∃ (k : Nat) (xs : List Value), k ≤ c.g.l.length ∧ i = .int .i64 k ∧ wr.ownsRow b3 36 3 (.slice c.g.a c.g.l.length c.g.c) c.g.l.length xs ∧ MidW b3 w2.heap.size A1 wr) (fun i _ => c.g.l.length - (intOf i).toNat)
        case atStart => exact ⟨0, _, Nat.zero_le _, rfl, OG1.out, MidW.refl _ _ _⟩
        case round =>
          obtain ⟨k, xs, hk, rfl, hown, hmid⟩ := hrel
          obtain ⟨l0, l1, l2, l3, l4, l5⟩ := LL.out
          have y : wr.cell? ⟨w2.heap.size, 5, none⟩ = some (.slice c.g.a c.g.l.length c.g.c) := (hmid.cell (p := ⟨w2.heap.size, 5, none⟩) (by show ¬ (_ ≤ w2.heap.size ∧ w2.heap.size < _); omega)).trans (KC6.out.mid MID1.out (by omega)).x5
          by_cases hlt : k < c.g.l.length
          · obtain ⟨g, hg, hgl⟩ := own_some hown (by omega)
            have hgh : g < w2.heap.size := GH.out g (by rw [hg]; rfl)
            rw [hg] at hown y
            have hx : k * 3 + 1 < c.g.l.length * 3 := by omega
            have hxl : k * 3 + 1 < xs.length := by rw [hown.1]; exact hx
            obtain ⟨z0, q0⟩ : ∃ z, wr.cell? ⟨g, k * 3 + 1, none⟩ = some z := ⟨_, (hown.cellAt (k * 3 + 1) hx).trans (List.getElem?_eq_getElem hxl)⟩
            have f0 := hown.frozenAt (k * 3 + 1)
            have HO := Lib.hid (hown.stored (k * 3 + 1) (.string ⟨#[111, 118, 101, 114]⟩)).1; have HM := Lib.hid (hmid.set (p := ⟨g, k * 3 + 1, none⟩) hgl hgh (.string ⟨#[111, 118, 101, 114]⟩)); have HG := Lib.hid hg
            have c0 : (0 : Int) ≤ (k : Int) := by omega
            have c1 : (k : Int) < (c.g.l.length : Int) := by omega
            clear hown hmid hx hxl hg hgl hgh l0 l1 l2 l3 l4 l5
            go_wp2
            go_roundw
            case rel => exact ⟨k + 1, _, by omega, by go_num, by rw [HG.out]; exact HO.out, HM.out⟩
            case measure => simp [intOf]; omega
          · obtain rfl : k = c.g.l.length := by omega
            have c1 : ¬ c.g.l.length < c.g.l.length := by omega
            have MID2 := Lib.hid (MID1.out.trans (hmid.wide (lo2 := w1.heap.size) (hi2 := w2.heap.size) (by omega) (by omega)))
            obtain ⟨A2, hA2⟩ : ∃ A, wr = A := ⟨_, rfl⟩
            rw [hA2] at MID2 y ⊢
            have OU2 := Lib.hid (OU1.out.mid (hA2 ▸ hmid) (by rcases HCI.out.uh with h | h; exact .inl h; exact .inr (fun k hk => by have := h k hk; omega)) (fun y hy k hk => by have := HCI.out.ue y hy k hk; omega))
            have OR2 := Lib.hid (OR1.out.mid (hA2 ▸ hmid) (by rcases HCI.out.rh with h | h; exact .inl h; exact .inr (fun k hk => by have := h k hk; omega)) (fun y hy k hk => by have := HCI.out.re y hy k hk; omega))
            clear hown hmid hA2 l0 l1 l2 l3 l4 l5
            go_wp2
            clear y
            go_loopw [7] (fun i wr => ∃ k : Nat, k ≤ c.u.l.length ∧ i = .int .i64 k ∧ StpI c.u b1 k wr ∧ MidW b1 b2 A2 wr) (fun i _ => c.u.l.length - (intOf i).toNat)
            case atStart => exact ⟨0, Nat.zero_le _, rfl, StpI.start OU2.out, MidW.refl _ _ _⟩
            case round =>
              obtain ⟨k, hk, rfl, hst, hmid⟩ := hrel
              obtain ⟨l0, l1, l2, l3, l4, l5⟩ := LL.out
              have y : wr.cell? ⟨w2.heap.size, 2, none⟩ = some (.slice c.u.a c.u.l.length c.u.c) := (hmid.cell (p := ⟨w2.heap.size, 2, none⟩) (by show ¬ (_ ≤ w2.heap.size ∧ w2.heap.size < _); omega)).trans (KC6.out.mid MID2.out (by omega)).x2
              by_cases hlt : k < c.u.l.length
              · obtain ⟨g, hg, hgl, hrow, hed⟩ : ∃ g, c.u.a = some ⟨g, 0, none⟩ ∧ b1 ≤ g ∧ wr.ownsRow b1 38 1 (.slice c.u.a c.u.l.length c.u.c) c.u.l.length (List.replicate k (.slice none 0 0) ++ (sflat c.u.l).drop k) ∧ ∀ y ∈ c.u.l, ∃ xs, wr.ownsRow (g + 1) 36 3 (.slice y.a y.l.length y.c) y.l.length xs := by
                  rcases id hst with h | h
                  · rw [h] at hlt; simp at hlt
                  · exact h
                have hgh : g < b2 := by
                  rcases HCI.out.uh with h | h
                  · rw [h] at hlt; simp at hlt
                  · exact h g (by rw [hg]; rfl)
                have hmem : c.u.l[k]! ∈ c.u.l := by rw [epget hlt]; exact List.getElem_mem hlt
                have heh := HCI.out.ue _ hmem
                rw [hg] at hrow y
                have q0 : wr.cell? ⟨g, k, none⟩ = some (c.u.l[k]!).v := by
                  refine (hrow.cellAt k (by omega)).trans ?_
                  rw [List.getElem?_append_right (by simp), List.length_replicate, Nat.sub_self, List.getElem?_drop, Nat.add_zero]
                  exact sflat_get _ k hlt
                have fz := hrow.frozenAt k; have HFZ := Lib.hid fz
                obtain ⟨ys, hed0⟩ := hed _ hmem
                obtain ⟨x, hx⟩ : ∃ x, c.u.l[k]! = x := ⟨_, rfl⟩
                rw [hx] at q0 hed0 heh hmem
                obtain ⟨xa, xl, xc⟩ := x
                simp only [EPc.v] at q0
                dsimp only at hed0 heh
                obtain ⟨m, hm⟩ : ∃ m, xl.length = m := ⟨_, rfl⟩
                rw [hm] at q0 hed0 heh
                have hmx : m ≤ 9223372036854775807 := by
                  rcases hed0.2 with ⟨-, h⟩ | ⟨g2, cap, cur, h1, -, -, h4, h5, -⟩
                  · omega
                  · unfold maxLen at h5; omega
                have HST := Lib.hid hst; have HMID := Lib.hid hmid; have HG := Lib.hid hg; have HMEM := Lib.hid hmem; have HM := Lib.hid hm; have HEH := Lib.hid heh; have HQ := Lib.hid q0; have HY := Lib.hid y; have HGH := Lib.hid hgh; have HGL := Lib.hid hgl
                have c0 : (0 : Int) ≤ (k : Int) := by omega
                have c1 : (k : Int) < (c.u.l.length : Int) := by omega
                clear hst hmid hg hgl hgh hrow hed hed0 hmem heh hx hm q0 l0 l1 l2 l3 l4 l5
                go_wp2
                clear y fz
                go_loopw [8] (fun i wr => ∃ j : Nat, j ≤ m ∧ i = .int .i64 j ∧ StpI c.u b1 k wr ∧ MidW b1 b2 A2 wr ∧ wr.cell? ⟨g, k, none⟩ = some (.slice xa m xc) ∧ wr.frozen? ⟨g, k, none⟩ = false) (fun i _ => m - (intOf i).toNat)
                case atStart => exact ⟨0, Nat.zero_le _, rfl, HST.out, HMID.out, HQ.out, HFZ.out⟩
                case round =>
                  obtain ⟨j, hj, rfl, hst, hmid, q0, fz⟩ := hrel
                  obtain ⟨l0, l1, l2, l3, l4, l5⟩ := LL.out
                  have y : wr.cell? ⟨w2.heap.size, 2, none⟩ = some (.slice (some ⟨g, 0, none⟩) c.u.l.length c.u.c) := by
                    have h := (hmid.cell (p := ⟨w2.heap.size, 2, none⟩) (by show ¬ (_ ≤ w2.heap.size ∧ w2.heap.size < _); omega)).trans (KC6.out.mid MID2.out (by omega)).x2
                    rw [HG.out] at h
                    exact h
                  by_cases hjm : j < m
                  · obtain ⟨ys, hed0⟩ : ∃ xs, wr.ownsRow (g + 1) 36 3 (.slice xa m xc) m xs := by
                      rcases id hst with h | ⟨g2, a1, a2, a3, a4⟩
                      · rw [h] at hlt; simp at hlt
                      · obtain rfl : g = g2 := by rw [HG.out] at a1; cases a1; rfl
                        obtain ⟨xs, hxs⟩ := a4 _ HMEM.out
                        dsimp only at hxs
                        rw [HM.out] at hxs
                        exact ⟨xs, hxs⟩
                    obtain ⟨e, he, hel⟩ := own_some hed0 (by omega)
                    have heh : e < b2 := HEH.out e (by rw [he]; rfl)
                    subst he
                    have hx : j * 3 + 2 < m * 3 := by omega
                    have hxl : j * 3 + 2 < ys.length := by rw [hed0.1]; exact hx
                    obtain ⟨z1, q1⟩ : ∃ z, wr.cell? ⟨e, j * 3 + 2, none⟩ = some z := ⟨_, (hed0.cellAt (j * 3 + 2) hx).trans (List.getElem?_eq_getElem hxl)⟩
                    have f1 := hed0.frozenAt (j * 3 + 2)
                    have HS2 := Lib.hid (hst.edit HG.out (p := ⟨e, j * 3 + 2, none⟩) hel rfl (.string ⟨#[111, 118, 101, 114]⟩)); have HM2 := Lib.hid (hmid.set (p := ⟨e, j * 3 + 2, none⟩) (by have := HGL.out; show b1 ≤ e; omega) heh (.string ⟨#[111, 118, 101, 114]⟩))
                    have HQ2 := Lib.hid (show (wr.setCell ⟨e, j * 3 + 2, none⟩ (.string ⟨#[111, 118, 101, 114]⟩)).cell? ⟨g, k, none⟩ = _ from (World.cell?_setCell_other _ _ _ _ (fun h => by have := congrArg Addr.block h; simp only at this; omega)).trans q0)
                    have HF2 := Lib.hid (show (wr.setCell ⟨e, j * 3 + 2, none⟩ (.string ⟨#[111, 118, 101, 114]⟩)).frozen? ⟨g, k, none⟩ = false from (World.frozen?_setCell _ _ _ _).trans fz)
                    have d0 : (0 : Int) ≤ (j : Int) := by omega
                    have d1 : (j : Int) < (m : Int) := by omega
                    clear hst hmid hed0 hx hxl hel heh fz l0 l1 l2 l3 l4 l5
                    go_wp2
                    go_roundw
                    case rel => exact ⟨j + 1, by omega, by go_num, HS2.out, HM2.out, HQ2.out, HF2.out⟩
                    case measure => simp [intOf]; omega
                  · obtain rfl : j = m := by omega
                    have d1 : ¬ j < j := by omega
                    have HS2 := Lib.hid (hst.next HG.out hlt); have HM2 := Lib.hid (hmid.set (p := ⟨g, k, none⟩) HGL.out HGH.out (.slice none 0 0))
                    clear hst hmid l0 l1 l2 l3 l4 l5
                    go_wp2
                    go_roundw
                    case rel => exact ⟨k + 1, by omega, by go_num, HS2.out, HM2.out⟩
                    case measure => simp [intOf]; omega
              · obtain rfl : k = c.u.l.length := by omega
                have c1 : ¬ c.u.l.length < c.u.l.length := by omega
                have MID3 := Lib.hid (MID2.out.trans (hmid.wide (lo2 := w1.heap.size) (hi2 := w2.heap.size) (by omega) (by omega)))
                obtain ⟨A3, hA3⟩ : ∃ A, wr = A := ⟨_, rfl⟩
                rw [hA3] at MID3 y ⊢
                have OR3 := Lib.hid (OR2.out.mid (hA3 ▸ hmid) (by rcases HCI.out.r with h | ⟨g, a1, a2, a3, a4⟩; exact .inl h; exact .inr (fun k hk => by rw [a1] at hk; have hk : some g = some k := hk; injection hk with hk; omega)) (fun y hy k hk => by rcases HCI.out.r with h | ⟨g, a1, a2, a3, a4⟩; rw [h] at hy; cases hy; have := ((a4 y hy).lt k hk).1; omega))
                clear hst hmid hA3 l0 l1 l2 l3 l4 l5
                go_wp2
                clear y
                go_loopw [9] (fun i wr => ∃ k : Nat, k ≤ c.r.l.length ∧ i = .int .i64 k ∧ StpI c.r b2 k wr ∧ MidW b2 b3 A3 wr) (fun i _ => c.r.l.length - (intOf i).toNat)
                case atStart => exact ⟨0, Nat.zero_le _, rfl, StpI.start OR3.out, MidW.refl _ _ _⟩
                case round =>
                  obtain ⟨k, hk, rfl, hst, hmid⟩ := hrel
                  obtain ⟨l0, l1, l2, l3, l4, l5⟩ := LL.out
                  have y : wr.cell? ⟨w2.heap.size, 3, none⟩ = some (.slice c.r.a c.r.l.length c.r.c) := (hmid.cell (p := ⟨w2.heap.size, 3, none⟩) (by show ¬ (_ ≤ w2.heap.size ∧ w2.heap.size < _); omega)).trans (KC6.out.mid MID3.out (by omega)).x3
                  by_cases hlt : k < c.r.l.length
                  · obtain ⟨g, hg, hgl, hrow, hed⟩ : ∃ g, c.r.a = some ⟨g, 0, none⟩ ∧ b2 ≤ g ∧ wr.ownsRow b2 38 1 (.slice c.r.a c.r.l.length c.r.c) c.r.l.length (List.replicate k (.slice none 0 0) ++ (sflat c.r.l).drop k) ∧ ∀ y ∈ c.r.l, ∃ xs, wr.ownsRow (g + 1) 36 3 (.slice y.a y.l.length y.c) y.l.length xs := by
                      rcases id hst with h | h
                      · rw [h] at hlt; simp at hlt
                      · exact h
                    have hgh : g < b3 := by
                      rcases HCI.out.rh with h | h
                      · rw [h] at hlt; simp at hlt
                      · exact h g (by rw [hg]; rfl)
                    have hmem : c.r.l[k]! ∈ c.r.l := by rw [epget hlt]; exact List.getElem_mem hlt
                    have heh := HCI.out.re _ hmem
                    rw [hg] at hrow y
                    have q0 : wr.cell? ⟨g, k, none⟩ = some (c.r.l[k]!).v := by
                      refine (hrow.cellAt k (by omega)).trans ?_
                      rw [List.getElem?_append_right (by simp), List.length_replicate, Nat.sub_self, List.getElem?_drop, Nat.add_zero]
                      exact sflat_get _ k hlt
                    have fz := hrow.frozenAt k; have HFZ := Lib.hid fz
                    obtain ⟨ys, hed0⟩ := hed _ hmem
                    obtain ⟨x, hx⟩ : ∃ x, c.r.l[k]! = x := ⟨_, rfl⟩
                    rw [hx] at q0 hed0 heh hmem
                    obtain ⟨xa, xl, xc⟩ := x
                    simp only [EPc.v] at q0
                    dsimp only at hed0 heh
                    obtain ⟨m, hm⟩ : ∃ m, xl.length = m := ⟨_, rfl⟩
                    rw [hm] at q0 hed0 heh
                    have hmx : m ≤ 9223372036854775807 := by
                      rcases hed0.2 with ⟨-, h⟩ | ⟨g2, cap, cur, h1, -, -, h4, h5, -⟩
                      · omega
                      · unfold maxLen at h5; omega
                    have HST := Lib.hid hst; have HMID := Lib.hid hmid; have HG := Lib.hid hg; have HMEM := Lib.hid hmem; have HM := Lib.hid hm; have HEH := Lib.hid heh; have HQ := Lib.hid q0; have HY := Lib.hid y; have HGH := Lib.hid hgh; have HGL := Lib.hid hgl
                    have c0 : (0 : Int) ≤ (k : Int) := by omega
                    have c1 : (k : Int) < (c.r.l.length : Int) := by omega
                    clear hst hmid hg hgl hgh hrow hed hed0 hmem heh hx hm q0 l0 l1 l2 l3 l4 l5
                    go_wp2
                    clear y fz
                    go_loopw [10] (fun i wr => ∃ j : Nat, j ≤ m ∧ i = .int .i64 j ∧ StpI c.r b2 k wr ∧ MidW b2 b3 A3 wr ∧ wr.cell? ⟨g, k, none⟩ = some (.slice xa m xc) ∧ wr.frozen? ⟨g, k, none⟩ = false) (fun i _ => m - (intOf i).toNat)
                    case atStart => exact ⟨0, Nat.zero_le _, rfl, HST.out, HMID.out, HQ.out, HFZ.out⟩
                    case round =>
                      obtain ⟨j, hj, rfl, hst, hmid, q0, fz⟩ := hrel
                      obtain ⟨l0, l1, l2, l3, l4, l5⟩ := LL.out
                      have y : wr.cell? ⟨w2.heap.size, 3, none⟩ = some (.slice (some ⟨g, 0, none⟩) c.r.l.length c.r.c) := by
                        have h := (hmid.cell (p := ⟨w2.heap.size, 3, none⟩) (by show ¬ (_ ≤ w2.heap.size ∧ w2.heap.size < _); omega)).trans (KC6.out.mid MID3.out (by omega)).x3
                        rw [HG.out] at h
                        exact h
                      by_cases hjm : j < m
                      · obtain ⟨ys, hed0⟩ : ∃ xs, wr.ownsRow (g + 1) 36 3 (.slice xa m xc) m xs := by
                          rcases id hst with h | ⟨g2, a1, a2, a3, a4⟩
                          · rw [h] at hlt; simp at hlt
                          · obtain rfl : g = g2 := by rw [HG.out] at a1; cases a1; rfl
                            obtain ⟨xs, hxs⟩ := a4 _ HMEM.out
                            dsimp only at hxs
                            rw [HM.out] at hxs
                            exact ⟨xs, hxs⟩
                        obtain ⟨e, he, hel⟩ := own_some hed0 (by omega)
                        have heh : e < b3 := HEH.out e (by rw [he]; rfl)
                        subst he
                        have hx : j * 3 + 2 < m * 3 := by omega
                        have hxl : j * 3 + 2 < ys.length := by rw [hed0.1]; exact hx
                        obtain ⟨z1, q1⟩ : ∃ z, wr.cell? ⟨e, j * 3 + 2, none⟩ = some z := ⟨_, (hed0.cellAt (j * 3 + 2) hx).trans (List.getElem?_eq_getElem hxl)⟩
                        have f1 := hed0.frozenAt (j * 3 + 2)
                        have HS2 := Lib.hid (hst.edit HG.out (p := ⟨e, j * 3 + 2, none⟩) hel rfl (.string ⟨#[111, 118, 101, 114]⟩)); have HM2 := Lib.hid (hmid.set (p := ⟨e, j * 3 + 2, none⟩) (by have := HGL.out; show b2 ≤ e; omega) heh (.string ⟨#[111, 118, 101, 114]⟩))
                        have HQ2 := Lib.hid (show (wr.setCell ⟨e, j * 3 + 2, none⟩ (.string ⟨#[111, 118, 101, 114]⟩)).cell? ⟨g, k, none⟩ = _ from (World.cell?_setCell_other _ _ _ _ (fun h => by have := congrArg Addr.block h; simp only at this; omega)).trans q0)
                        have HF2 := Lib.hid (show (wr.setCell ⟨e, j * 3 + 2, none⟩ (.string ⟨#[111, 118, 101, 114]⟩)).frozen? ⟨g, k, none⟩ = false from (World.frozen?_setCell _ _ _ _).trans fz)
                        have d0 : (0 : Int) ≤ (j : Int) := by omega
                        have d1 : (j : Int) < (m : Int) := by omega
                        clear hst hmid hed0 hx hxl hel heh fz l0 l1 l2 l3 l4 l5
                        go_wp2
                        go_roundw
                        case rel => exact ⟨j + 1, by omega, by go_num, HS2.out, HM2.out, HQ2.out, HF2.out⟩
                        case measure => simp [intOf]; omega
                      · obtain rfl : j = m := by omega
                        have d1 : ¬ j < j := by omega
                        have HS2 := Lib.hid (hst.next HG.out hlt); have HM2 := Lib.hid (hmid.set (p := ⟨g, k, none⟩) HGL.out HGH.out (.slice none 0 0))
                        clear hst hmid l0 l1 l2 l3 l4 l5
                        go_wp2
                        go_roundw
                        case rel => exact ⟨k + 1, by omega, by go_num, HS2.out, HM2.out⟩
                        case measure => simp [intOf]; omega
                  · obtain rfl : k = c.r.l.length := by omega
                    have c1 : ¬ c.r.l.length < c.r.l.length := by omega
                    have MID := Lib.hid (MID3.out.trans (hmid.wide (lo2 := w1.heap.size) (hi2 := w2.heap.size) (by omega) (by omega)))
                    have HD := Lib.hid (HDI.out.mid BW3.out MID.out (by rw [Z2.out]; omega))
                    have HB := Lib.hid (MID.out.below HS.out.bel (by omega))
                    have ks := HS.out.b0.mid MID.out (by omega)
                    have kd := KD6.out.mid MID.out (by omega)
                    have u0 := ks.x0
                    have v0 := kd.x0
                    have u1 := ks.x1
                    have v1 := kd.x1
                    have u2 := ks.x2
                    have v2 := kd.x2
                    have u3 := ks.x3
                    have v3 := kd.x3
                    have u4 := ks.x4
                    have v4 := kd.x4
                    have u5 := ks.x5
                    have v5 := kd.x5
                    have KS := Lib.hid ks
                    clear ks kd hst hmid l0 l1 l2 l3 l4 l5
                    go_wp2_with fail
                    refine (CSS.out HFA.out d (HDI.out.few HFA.out) HDI.out.d _ HB.out HD.out).mono ?_; rintro e w8 ⟨rfl, hb8⟩
                    have HB8 := Lib.hid (HB.out.trans (hb8.mono HB.out.size))
                    clear hb8 y u0 u1 u2 u3 u4 u5 v0 v1 v2 v3 v4 v5
                    go_wp2_with fail
                    refine (CL.out _ HB8.out).mono ?_; rintro e w9 ⟨rfl, hb9⟩
                    have HB9 := Lib.hid (HB8.out.trans (hb9.mono HB8.out.size))
                    clear hb9
                    go_wp2
                    go_ret
                    exact ⟨rfl, HB9.out⟩
end Go.Proofs.YtbdfglalohgahaaDoor
