/-
  The laws on states (layer 25), second part: StateSames.
-/
import Derived.Test.YtbdfglalohgahaaDoorJStaRef4
import Derived.Test.YtbdfglalohgahaaDoorJStaRight
import Derived.Test.YtbdfglalohgahaaDoorOpenSta2
import Derived.Deep.Draws
namespace Go.Proofs.YtbdfglalohgahaaDoor
open Go.RowKit
set_option linter.unusedVariables false
set_option linter.unusedSimpArgs false

theorem TwoS.drew {w W : World} {t m u r o g t2 m2 u2 r2 o2 g2 : Value} (h : TwoS w t m u r o g t2 m2 u2 r2 o2 g2 W) : TwoS w t m u r o g t2 m2 u2 r2 o2 g2 W.drew := ⟨h.below.drew, h.p.drew, h.q.drew⟩
set_option maxRecDepth 100000 in
set_option maxHeartbeats 3200000 in
theorem stateSames_walk (a b : Sta) (w : World) (ia : StaIn w a) (la : StaL a) (ib : StaIn w b) (lb : StaL b) (hp : Lib.TabIs Tryd.prog w "internal/strconv.uint64pow10" .u64 Lib.pow10Tab) :
    Calls Tryd.prog 4 #[a.v, b.v] w fun e w' => e = .returned (.bool true) ∧ Below w.heap.size w w' := by
  have hpw : Pw w.heap.size w := Lib.tabBelow_of_tabIs hp
  have hX := TwoS.new w (.string a.t) (.slice a.m.a a.m.l.length a.m.c) (.slice a.u.a a.u.l.length a.u.c) (.slice a.r.a a.r.l.length a.r.c) (.bool a.o) (.slice a.g.a a.g.l.length a.g.c) (.string b.t) (.slice b.m.a b.m.l.length b.m.c) (.slice b.u.a b.u.l.length b.u.c) (.slice b.r.a b.r.l.length b.r.c) (.bool b.o) (.slice b.g.a b.g.l.length b.g.c) 26
  have cl := fun W (hW : Below w.heap.size w W) => lives25_any W (fun W2 h2 => hpw W2 (hW.trans (h2.mono hW.size)))
  have cfa := fun W (hW : Below w.heap.size w W) => few25_any a W (ia.later hW) la
  have cfb := fun W (hW : Below w.heap.size w W) => few25_any b W (ib.later hW) lb
  obtain ⟨wX, hwX⟩ : ∃ wX, (w.alloc (.cells #[.string a.t, .slice a.m.a a.m.l.length a.m.c, .slice a.u.a a.u.l.length a.u.c, .slice a.r.a a.r.l.length a.r.c, .bool a.o, .slice a.g.a a.g.l.length a.g.c] 26)).alloc (.cells #[.string b.t, .slice b.m.a b.m.l.length b.m.c, .slice b.u.a b.u.l.length b.u.c, .slice b.r.a b.r.l.length b.r.c, .bool b.o, .slice b.g.a b.g.l.length b.g.c] 26) = wX := ⟨_, rfl⟩
  rw [hwX] at hX
  have cs := fun (fa : a.few = true) (fb : b.few = true) W (hW : Below w.heap.size w W) => stsame_any a b W (ia.later hW) (ib.later hW) fa fb
  have cr := fun (fa : a.few = true) (fb : b.few = true) W (hW : Below w.heap.size w W) => rsame25_any a b W (ia.later hW) (ib.later hW) fa fb
  have cx := fun (fa : a.few = true) W (hW : Below w.heap.size w W) => stsame_any a a W (ia.later hW) (ia.later hW) fa fa
  simp only [sameD_refl] at cx
  obtain ⟨X, hXX⟩ : ∃ X, sameD a.d b.d = X := ⟨_, rfl⟩
  rw [hXX] at cs cr
  obtain ⟨fa, hfa⟩ : ∃ x, a.few = x := ⟨_, rfl⟩
  obtain ⟨fb, hfb⟩ : ∃ x, b.few = x := ⟨_, rfl⟩
  rw [hfa] at cfa cs cr cx
  rw [hfb] at cfb cs cr
  have HX := Lib.hid hX; have CL := Lib.hid cl; have CFA := Lib.hid cfa; have CFB := Lib.hid cfb; have CS := Lib.hid cs; have CR := Lib.hid cr; have CX := Lib.hid cx
  have p0 := HX.out.p.x0; have p1 := HX.out.p.x1; have p2 := HX.out.p.x2; have p3 := HX.out.p.x3; have p4 := HX.out.p.x4; have p5 := HX.out.p.x5; have q0 := HX.out.q.x0; have q1 := HX.out.q.x1; have q2 := HX.out.q.x2; have q3 := HX.out.q.x3; have q4 := HX.out.q.x4; have q5 := HX.out.q.x5
  clear hX cl cfa cfb cs cr cx hXX hfa hfb ia ib la lb hp hpw
  cases fa with
  | false =>
    go_enter Tryd.func4, Tryd.ntmps4
    go_wp2_with fail
    refine (CFA.out _ HX.out.below).mono ?_; rintro e w1 ⟨rfl, hb1⟩
    have H1 := Lib.hid (HX.out.on hb1)
    clear hb1 p0 p1 p2 p3 p4 p5 q0 q1 q2 q3 q4 q5
    go_wp2_with fail
    refine (CL.out _ H1.out.below).mono ?_; rintro e w2 ⟨rfl, hb2⟩
    have H2 := Lib.hid (H1.out.on hb2)
    clear hb2
    go_wp2
    go_ret
    exact ⟨rfl, H2.out.below⟩
  | true =>
    cases fb with
    | false =>
      go_enter Tryd.func4, Tryd.ntmps4
      go_wp2_with fail
      refine (CFA.out _ HX.out.below).mono ?_; rintro e w1 ⟨rfl, hb1⟩
      have H1 := Lib.hid (HX.out.on hb1)
      clear hb1 p0 p1 p2 p3 p4 p5 q0 q1 q2 q3 q4 q5
      have p0 := H1.out.p.x0; have p1 := H1.out.p.x1; have p2 := H1.out.p.x2; have p3 := H1.out.p.x3; have p4 := H1.out.p.x4; have p5 := H1.out.p.x5; have q0 := H1.out.q.x0; have q1 := H1.out.q.x1; have q2 := H1.out.q.x2; have q3 := H1.out.q.x3; have q4 := H1.out.q.x4; have q5 := H1.out.q.x5
      go_wp2_with fail
      refine (CFB.out _ H1.out.below).mono ?_; rintro e w2 ⟨rfl, hb2⟩
      have H2 := Lib.hid (H1.out.on hb2)
      clear hb2 p0 p1 p2 p3 p4 p5 q0 q1 q2 q3 q4 q5
      go_wp2_with fail
      refine (CL.out _ H2.out.below).mono ?_; rintro e w3 ⟨rfl, hb3⟩
      have H3 := Lib.hid (H2.out.on hb3)
      clear hb3
      go_wp2
      go_ret
      exact ⟨rfl, H3.out.below⟩
    | true =>
      go_enter Tryd.func4, Tryd.ntmps4
      go_wp2_with fail
      refine (CFA.out _ HX.out.below).mono ?_; rintro e w1 ⟨rfl, hb1⟩
      have H1 := Lib.hid (HX.out.on hb1)
      clear hb1 p0 p1 p2 p3 p4 p5 q0 q1 q2 q3 q4 q5
      have p0 := H1.out.p.x0; have p1 := H1.out.p.x1; have p2 := H1.out.p.x2; have p3 := H1.out.p.x3; have p4 := H1.out.p.x4; have p5 := H1.out.p.x5; have q0 := H1.out.q.x0; have q1 := H1.out.q.x1; have q2 := H1.out.q.x2; have q3 := H1.out.q.x3; have q4 := H1.out.q.x4; have q5 := H1.out.q.x5
      go_wp2_with fail
      refine (CFB.out _ H1.out.below).mono ?_; rintro e w2 ⟨rfl, hb2⟩
      have H2 := Lib.hid (H1.out.on hb2)
      clear hb2 p0 p1 p2 p3 p4 p5 q0 q1 q2 q3 q4 q5
      go_upto_region 3 with fail
      cases X
      · refine wp_region_held_drew (S := (fun w' : World => w'.cell? ⟨w.heap.size, 0, none⟩ = some (.string a.t) ∧ w'.cell? ⟨w.heap.size, 1, none⟩ = some (.slice a.m.a a.m.l.length a.m.c) ∧ w'.cell? ⟨w.heap.size, 2, none⟩ = some (.slice a.u.a a.u.l.length a.u.c) ∧ w'.cell? ⟨w.heap.size, 3, none⟩ = some (.slice a.r.a a.r.l.length a.r.c) ∧ w'.cell? ⟨w.heap.size, 4, none⟩ = some (.bool a.o) ∧ w'.cell? ⟨w.heap.size, 5, none⟩ = some (.slice a.g.a a.g.l.length a.g.c) ∧ w'.cell? ⟨w.heap.size + 1, 0, none⟩ = some (.string b.t) ∧ w'.cell? ⟨w.heap.size + 1, 1, none⟩ = some (.slice b.m.a b.m.l.length b.m.c) ∧ w'.cell? ⟨w.heap.size + 1, 2, none⟩ = some (.slice b.u.a b.u.l.length b.u.c) ∧ w'.cell? ⟨w.heap.size + 1, 3, none⟩ = some (.slice b.r.a b.r.l.length b.r.c) ∧ w'.cell? ⟨w.heap.size + 1, 4, none⟩ = some (.bool b.o) ∧ w'.cell? ⟨w.heap.size + 1, 5, none⟩ = some (.slice b.g.a b.g.l.length b.g.c))) (by kernel_rfl) ⟨H2.out.drew.p.x0, H2.out.drew.p.x1, H2.out.drew.p.x2, H2.out.drew.p.x3, H2.out.drew.p.x4, H2.out.drew.p.x5, H2.out.drew.q.x0, H2.out.drew.q.x1, H2.out.drew.q.x2, H2.out.drew.q.x3, H2.out.drew.q.x4, H2.out.drew.q.x5⟩ (fun hHeld => ?_)
        refine wpAnyH_take (i := 0) (v := ?_) (by simp only [List.getElem?_toArray, List.getElem?_cons_succ, List.getElem?_cons_zero]; rfl) (by kernel_rfl) (by kernel_rfl) (by kernel_rfl) (fun _ _ _ h => by exact h) (Or.inl ⟨by rfl, ?_⟩) (by assumption) ?_
        rotate_left
        · (intro w hSw; (try dsimp only at hSw); go_simp; try with_reducible rfl)
        try simp only [Act.put, List.setIfInBounds_toArray, List.set_cons_zero, List.set_cons_succ]
        refine wpAnyH_take (i := 1) (v := ?_) (by simp only [List.getElem?_toArray, List.getElem?_cons_succ, List.getElem?_cons_zero]; rfl) (by kernel_rfl) (by kernel_rfl) (by kernel_rfl) (fun _ _ _ h => by exact h) (Or.inl ⟨by rfl, ?_⟩) (by assumption) ?_
        rotate_left
        · (intro w hSw; (try dsimp only at hSw); go_simp; try with_reducible rfl)
        try simp only [Act.put, List.setIfInBounds_toArray, List.set_cons_zero, List.set_cons_succ]
        refine wpAnyH_take (i := 3) (v := ?_) (by simp only [List.getElem?_toArray, List.getElem?_cons_succ, List.getElem?_cons_zero]; rfl) (by kernel_rfl) (by kernel_rfl) (by kernel_rfl) (fun _ _ _ h => by exact h) (Or.inl ⟨by rfl, ?_⟩) (by assumption) ?_
        rotate_left
        · (intro w hSw; (try dsimp only at hSw); go_simp; try with_reducible rfl)
        try simp only [Act.put, List.setIfInBounds_toArray, List.set_cons_zero, List.set_cons_succ]
        refine wpAnyH_take (i := 4) (v := ?_) (by simp only [List.getElem?_toArray, List.getElem?_cons_succ, List.getElem?_cons_zero]; rfl) (by kernel_rfl) (by kernel_rfl) (by kernel_rfl) (fun _ _ _ h => by exact h) (Or.inl ⟨by rfl, ?_⟩) (by assumption) ?_
        rotate_left
        · (intro w hSw; (try dsimp only at hSw); go_simp; try with_reducible rfl)
        try simp only [Act.put, List.setIfInBounds_toArray, List.set_cons_zero, List.set_cons_succ]
        refine wpAnyH_ready (rs := [2]) (by kernel_rfl) (by simp) ?_
        refine AllReadyH.cons (by simp only [List.getElem?_toArray, List.getElem?_cons_succ, List.getElem?_cons_zero]; rfl) (fun K hK => ?_) AllReadyH.nil
        go_simp
        (go_at_call 14; (with_reducible refine (CS.out (by trivial) (by trivial) _ H2.out.drew.below).mono ?_); rintro e w3 ⟨rfl, hb3⟩; have H3 := Lib.hid (H2.out.drew.on hb3); clear hb3)
        try go_wp2_with fail
        refine hK.out _ _ ?_ (fun hHeld => ?_)
        · exact ⟨H3.out.p.x0, H3.out.p.x1, H3.out.p.x2, H3.out.p.x3, H3.out.p.x4, H3.out.p.x5, H3.out.q.x0, H3.out.q.x1, H3.out.q.x2, H3.out.q.x3, H3.out.q.x4, H3.out.q.x5⟩
        clear hK K
        try simp only [Act.put, List.setIfInBounds_toArray, List.set_cons_zero, List.set_cons_succ]
        refine wpAnyH_ready (rs := [5]) (by kernel_rfl) (by simp) ?_
        refine AllReadyH.cons (by simp only [List.getElem?_toArray, List.getElem?_cons_succ, List.getElem?_cons_zero]; rfl) (fun K hK => ?_) AllReadyH.nil
        go_simp
        (go_at_call 15; (with_reducible refine (CR.out (by trivial) (by trivial) _ H3.out.below).mono ?_); rintro e w4 ⟨rfl, hb4⟩; have H4 := Lib.hid (H3.out.on hb4); clear hb4)
        try go_wp2_with fail
        refine hK.out _ _ ?_ (fun hHeld => ?_)
        · exact ⟨H4.out.p.x0, H4.out.p.x1, H4.out.p.x2, H4.out.p.x3, H4.out.p.x4, H4.out.p.x5, H4.out.q.x0, H4.out.q.x1, H4.out.q.x2, H4.out.q.x3, H4.out.q.x4, H4.out.q.x5⟩
        clear hK K
        try simp only [Act.put, List.setIfInBounds_toArray, List.set_cons_zero, List.set_cons_succ]
        refine wpAnyH_take (i := 6) (v := ?_) (by simp only [List.getElem?_toArray, List.getElem?_cons_succ, List.getElem?_cons_zero]; rfl) (by kernel_rfl) (by kernel_rfl) (by kernel_rfl) (fun _ _ _ h => by exact h) (Or.inl ⟨by rfl, ?_⟩) (by assumption) ?_
        rotate_left
        · (intro w hSw; (try dsimp only at hSw); go_simp; try with_reducible rfl)
        try simp only [Act.put, List.setIfInBounds_toArray, List.set_cons_zero, List.set_cons_succ]
        refine wpAnyH_take (i := 7) (v := ?_) (by simp only [List.getElem?_toArray, List.getElem?_cons_succ, List.getElem?_cons_zero]; rfl) (by kernel_rfl) (by kernel_rfl) (by kernel_rfl) (fun _ _ _ h => by exact h) (Or.inl ⟨by rfl, ?_⟩) (by assumption) ?_
        rotate_left
        · (intro w hSw; (try dsimp only at hSw); go_simp; try with_reducible rfl)
        try simp only [Act.put, List.setIfInBounds_toArray, List.set_cons_zero, List.set_cons_succ]
        refine wpAnyH_take (i := 8) (v := ?_) (by simp only [List.getElem?_toArray, List.getElem?_cons_succ, List.getElem?_cons_zero]; rfl) (by kernel_rfl) (by kernel_rfl) (by kernel_rfl) (fun _ _ _ h => by exact h) (Or.inl ⟨by rfl, ?_⟩) (by assumption) ?_
        rotate_left
        · (intro w hSw; (try dsimp only at hSw); go_simp; try with_reducible rfl)
        try simp only [Act.put, List.setIfInBounds_toArray, List.set_cons_zero, List.set_cons_succ]
        refine wpAnyH_take (i := 9) (v := ?_) (by simp only [List.getElem?_toArray, List.getElem?_cons_succ, List.getElem?_cons_zero]; rfl) (by kernel_rfl) (by kernel_rfl) (by kernel_rfl) (fun _ _ _ h => by exact h) (Or.inl ⟨by rfl, ?_⟩) (by assumption) ?_
        rotate_left
        · (intro w hSw; (try dsimp only at hSw); go_simp; try with_reducible rfl)
        try simp only [Act.put, List.setIfInBounds_toArray, List.set_cons_zero, List.set_cons_succ]
        refine wpAnyH_ready (rs := [10]) (by kernel_rfl) (by simp) ?_
        refine AllReadyH.cons (by simp only [List.getElem?_toArray, List.getElem?_cons_succ, List.getElem?_cons_zero]; rfl) (fun K hK => ?_) AllReadyH.nil
        go_simp
        (go_at_call 14; (with_reducible refine (CX.out (by trivial) _ H4.out.below).mono ?_); rintro e w5 ⟨rfl, hb5⟩; have H5 := Lib.hid (H4.out.on hb5); clear hb5)
        try go_wp2_with fail
        refine hK.out _ _ ?_ (fun hHeld => ?_)
        · exact ⟨H5.out.p.x0, H5.out.p.x1, H5.out.p.x2, H5.out.p.x3, H5.out.p.x4, H5.out.p.x5, H5.out.q.x0, H5.out.q.x1, H5.out.q.x2, H5.out.q.x3, H5.out.q.x4, H5.out.q.x5⟩
        clear hK K
        try simp only [Act.put, List.setIfInBounds_toArray, List.set_cons_zero, List.set_cons_succ]
        refine wpAnyH_take (i := 11) (v := ?_) (by simp only [List.getElem?_toArray, List.getElem?_cons_succ, List.getElem?_cons_zero]; rfl) (by kernel_rfl) (by kernel_rfl) (by kernel_rfl) (fun _ _ _ h => by exact h) (Or.inl ⟨by rfl, ?_⟩) (by assumption) ?_
        rotate_left
        · (intro w hSw; (try dsimp only at hSw); go_simp; try with_reducible rfl)
        try simp only [Act.put, List.setIfInBounds_toArray, List.set_cons_zero, List.set_cons_succ]
        refine wpAnyH_take (i := 12) (v := ?_) (by simp only [List.getElem?_toArray, List.getElem?_cons_succ, List.getElem?_cons_zero]; rfl) (by kernel_rfl) (by kernel_rfl) (by kernel_rfl) (fun _ _ _ h => by exact h) (Or.inl ⟨by rfl, ?_⟩) (by assumption) ?_
        rotate_left
        · (intro w hSw; (try dsimp only at hSw); go_simp; try with_reducible rfl)
        try simp only [Act.put, List.setIfInBounds_toArray, List.set_cons_zero, List.set_cons_succ]
        refine wpAnyH_ready (rs := [13]) (by kernel_rfl) (by simp) ?_
        refine AllReadyH.cons (by simp only [List.getElem?_toArray, List.getElem?_cons_succ, List.getElem?_cons_zero]; rfl) (fun K hK => ?_) AllReadyH.nil
        go_simp
        (go_at_call 7; (with_reducible refine (CL.out _ H5.out.below).mono ?_); rintro e w6 ⟨rfl, hb6⟩; have H6 := Lib.hid (H5.out.on hb6); clear hb6)
        try go_wp2_with fail
        refine hK.out _ _ ?_ (fun hHeld => ?_)
        · exact ⟨H6.out.p.x0, H6.out.p.x1, H6.out.p.x2, H6.out.p.x3, H6.out.p.x4, H6.out.p.x5, H6.out.q.x0, H6.out.q.x1, H6.out.q.x2, H6.out.q.x3, H6.out.q.x4, H6.out.q.x5⟩
        clear hK K
        try simp only [Act.put, List.setIfInBounds_toArray, List.set_cons_zero, List.set_cons_succ]
        refine wpAnyH_take (i := 14) (v := ?_) (by simp only [List.getElem?_toArray, List.getElem?_cons_succ, List.getElem?_cons_zero]; rfl) (by kernel_rfl) (by kernel_rfl) (by kernel_rfl) (fun _ _ _ h => by exact h) (Or.inl ⟨by rfl, ?_⟩) (by assumption) ?_
        rotate_left
        · (intro w hSw; (try dsimp only at hSw); go_simp; try with_reducible rfl)
        try simp only [Act.put, List.setIfInBounds_toArray, List.set_cons_zero, List.set_cons_succ]
        refine wpAnyH_take (i := 15) (v := ?_) (by simp only [List.getElem?_toArray, List.getElem?_cons_succ, List.getElem?_cons_zero]; rfl) (by kernel_rfl) (by kernel_rfl) (by kernel_rfl) (fun _ _ _ h => by exact h) (Or.inl ⟨by rfl, ?_⟩) (by assumption) ?_
        rotate_left
        · (intro w hSw; (try dsimp only at hSw); go_simp; try with_reducible rfl)
        try simp only [Act.put, List.setIfInBounds_toArray, List.set_cons_zero, List.set_cons_succ]
        refine wpAnyH_done (by kernel_rfl) ?_ _
        go_wp2
        go_ret
        exact ⟨rfl, H6.out.below⟩
      · refine wp_region_held_drew (S := (fun w' : World => w'.cell? ⟨w.heap.size, 0, none⟩ = some (.string a.t) ∧ w'.cell? ⟨w.heap.size, 1, none⟩ = some (.slice a.m.a a.m.l.length a.m.c) ∧ w'.cell? ⟨w.heap.size, 2, none⟩ = some (.slice a.u.a a.u.l.length a.u.c) ∧ w'.cell? ⟨w.heap.size, 3, none⟩ = some (.slice a.r.a a.r.l.length a.r.c) ∧ w'.cell? ⟨w.heap.size, 4, none⟩ = some (.bool a.o) ∧ w'.cell? ⟨w.heap.size, 5, none⟩ = some (.slice a.g.a a.g.l.length a.g.c) ∧ w'.cell? ⟨w.heap.size + 1, 0, none⟩ = some (.string b.t) ∧ w'.cell? ⟨w.heap.size + 1, 1, none⟩ = some (.slice b.m.a b.m.l.length b.m.c) ∧ w'.cell? ⟨w.heap.size + 1, 2, none⟩ = some (.slice b.u.a b.u.l.length b.u.c) ∧ w'.cell? ⟨w.heap.size + 1, 3, none⟩ = some (.slice b.r.a b.r.l.length b.r.c) ∧ w'.cell? ⟨w.heap.size + 1, 4, none⟩ = some (.bool b.o) ∧ w'.cell? ⟨w.heap.size + 1, 5, none⟩ = some (.slice b.g.a b.g.l.length b.g.c))) (by kernel_rfl) ⟨H2.out.drew.p.x0, H2.out.drew.p.x1, H2.out.drew.p.x2, H2.out.drew.p.x3, H2.out.drew.p.x4, H2.out.drew.p.x5, H2.out.drew.q.x0, H2.out.drew.q.x1, H2.out.drew.q.x2, H2.out.drew.q.x3, H2.out.drew.q.x4, H2.out.drew.q.x5⟩ (fun hHeld => ?_)
        refine wpAnyH_take (i := 0) (v := ?_) (by simp only [List.getElem?_toArray, List.getElem?_cons_succ, List.getElem?_cons_zero]; rfl) (by kernel_rfl) (by kernel_rfl) (by kernel_rfl) (fun _ _ _ h => by exact h) (Or.inl ⟨by rfl, ?_⟩) (by assumption) ?_
        rotate_left
        · (intro w hSw; (try dsimp only at hSw); go_simp; try with_reducible rfl)
        try simp only [Act.put, List.setIfInBounds_toArray, List.set_cons_zero, List.set_cons_succ]
        refine wpAnyH_take (i := 1) (v := ?_) (by simp only [List.getElem?_toArray, List.getElem?_cons_succ, List.getElem?_cons_zero]; rfl) (by kernel_rfl) (by kernel_rfl) (by kernel_rfl) (fun _ _ _ h => by exact h) (Or.inl ⟨by rfl, ?_⟩) (by assumption) ?_
        rotate_left
        · (intro w hSw; (try dsimp only at hSw); go_simp; try with_reducible rfl)
        try simp only [Act.put, List.setIfInBounds_toArray, List.set_cons_zero, List.set_cons_succ]
        refine wpAnyH_take (i := 3) (v := ?_) (by simp only [List.getElem?_toArray, List.getElem?_cons_succ, List.getElem?_cons_zero]; rfl) (by kernel_rfl) (by kernel_rfl) (by kernel_rfl) (fun _ _ _ h => by exact h) (Or.inl ⟨by rfl, ?_⟩) (by assumption) ?_
        rotate_left
        · (intro w hSw; (try dsimp only at hSw); go_simp; try with_reducible rfl)
        try simp only [Act.put, List.setIfInBounds_toArray, List.set_cons_zero, List.set_cons_succ]
        refine wpAnyH_take (i := 4) (v := ?_) (by simp only [List.getElem?_toArray, List.getElem?_cons_succ, List.getElem?_cons_zero]; rfl) (by kernel_rfl) (by kernel_rfl) (by kernel_rfl) (fun _ _ _ h => by exact h) (Or.inl ⟨by rfl, ?_⟩) (by assumption) ?_
        rotate_left
        · (intro w hSw; (try dsimp only at hSw); go_simp; try with_reducible rfl)
        try simp only [Act.put, List.setIfInBounds_toArray, List.set_cons_zero, List.set_cons_succ]
        refine wpAnyH_ready (rs := [2]) (by kernel_rfl) (by simp) ?_
        refine AllReadyH.cons (by simp only [List.getElem?_toArray, List.getElem?_cons_succ, List.getElem?_cons_zero]; rfl) (fun K hK => ?_) AllReadyH.nil
        go_simp
        (go_at_call 14; (with_reducible refine (CS.out (by trivial) (by trivial) _ H2.out.drew.below).mono ?_); rintro e w3 ⟨rfl, hb3⟩; have H3 := Lib.hid (H2.out.drew.on hb3); clear hb3)
        try go_wp2_with fail
        refine hK.out _ _ ?_ (fun hHeld => ?_)
        · exact ⟨H3.out.p.x0, H3.out.p.x1, H3.out.p.x2, H3.out.p.x3, H3.out.p.x4, H3.out.p.x5, H3.out.q.x0, H3.out.q.x1, H3.out.q.x2, H3.out.q.x3, H3.out.q.x4, H3.out.q.x5⟩
        clear hK K
        try simp only [Act.put, List.setIfInBounds_toArray, List.set_cons_zero, List.set_cons_succ]
        refine wpAnyH_ready (rs := [5]) (by kernel_rfl) (by simp) ?_
        refine AllReadyH.cons (by simp only [List.getElem?_toArray, List.getElem?_cons_succ, List.getElem?_cons_zero]; rfl) (fun K hK => ?_) AllReadyH.nil
        go_simp
        (go_at_call 15; (with_reducible refine (CR.out (by trivial) (by trivial) _ H3.out.below).mono ?_); rintro e w4 ⟨rfl, hb4⟩; have H4 := Lib.hid (H3.out.on hb4); clear hb4)
        try go_wp2_with fail
        refine hK.out _ _ ?_ (fun hHeld => ?_)
        · exact ⟨H4.out.p.x0, H4.out.p.x1, H4.out.p.x2, H4.out.p.x3, H4.out.p.x4, H4.out.p.x5, H4.out.q.x0, H4.out.q.x1, H4.out.q.x2, H4.out.q.x3, H4.out.q.x4, H4.out.q.x5⟩
        clear hK K
        try simp only [Act.put, List.setIfInBounds_toArray, List.set_cons_zero, List.set_cons_succ]
        refine wpAnyH_take (i := 6) (v := ?_) (by simp only [List.getElem?_toArray, List.getElem?_cons_succ, List.getElem?_cons_zero]; rfl) (by kernel_rfl) (by kernel_rfl) (by kernel_rfl) (fun _ _ _ h => by exact h) (Or.inl ⟨by rfl, ?_⟩) (by assumption) ?_
        rotate_left
        · (intro w hSw; (try dsimp only at hSw); go_simp; try with_reducible rfl)
        try simp only [Act.put, List.setIfInBounds_toArray, List.set_cons_zero, List.set_cons_succ]
        refine wpAnyH_take (i := 7) (v := ?_) (by simp only [List.getElem?_toArray, List.getElem?_cons_succ, List.getElem?_cons_zero]; rfl) (by kernel_rfl) (by kernel_rfl) (by kernel_rfl) (fun _ _ _ h => by exact h) (Or.inl ⟨by rfl, ?_⟩) (by assumption) ?_
        rotate_left
        · (intro w hSw; (try dsimp only at hSw); go_simp; try with_reducible rfl)
        try simp only [Act.put, List.setIfInBounds_toArray, List.set_cons_zero, List.set_cons_succ]
        refine wpAnyH_take (i := 8) (v := ?_) (by simp only [List.getElem?_toArray, List.getElem?_cons_succ, List.getElem?_cons_zero]; rfl) (by kernel_rfl) (by kernel_rfl) (by kernel_rfl) (fun _ _ _ h => by exact h) (Or.inl ⟨by rfl, ?_⟩) (by assumption) ?_
        rotate_left
        · (intro w hSw; (try dsimp only at hSw); go_simp; try with_reducible rfl)
        try simp only [Act.put, List.setIfInBounds_toArray, List.set_cons_zero, List.set_cons_succ]
        refine wpAnyH_take (i := 9) (v := ?_) (by simp only [List.getElem?_toArray, List.getElem?_cons_succ, List.getElem?_cons_zero]; rfl) (by kernel_rfl) (by kernel_rfl) (by kernel_rfl) (fun _ _ _ h => by exact h) (Or.inl ⟨by rfl, ?_⟩) (by assumption) ?_
        rotate_left
        · (intro w hSw; (try dsimp only at hSw); go_simp; try with_reducible rfl)
        try simp only [Act.put, List.setIfInBounds_toArray, List.set_cons_zero, List.set_cons_succ]
        refine wpAnyH_ready (rs := [10]) (by kernel_rfl) (by simp) ?_
        refine AllReadyH.cons (by simp only [List.getElem?_toArray, List.getElem?_cons_succ, List.getElem?_cons_zero]; rfl) (fun K hK => ?_) AllReadyH.nil
        go_simp
        (go_at_call 14; (with_reducible refine (CX.out (by trivial) _ H4.out.below).mono ?_); rintro e w5 ⟨rfl, hb5⟩; have H5 := Lib.hid (H4.out.on hb5); clear hb5)
        try go_wp2_with fail
        refine hK.out _ _ ?_ (fun hHeld => ?_)
        · exact ⟨H5.out.p.x0, H5.out.p.x1, H5.out.p.x2, H5.out.p.x3, H5.out.p.x4, H5.out.p.x5, H5.out.q.x0, H5.out.q.x1, H5.out.q.x2, H5.out.q.x3, H5.out.q.x4, H5.out.q.x5⟩
        clear hK K
        try simp only [Act.put, List.setIfInBounds_toArray, List.set_cons_zero, List.set_cons_succ]
        refine wpAnyH_take (i := 11) (v := ?_) (by simp only [List.getElem?_toArray, List.getElem?_cons_succ, List.getElem?_cons_zero]; rfl) (by kernel_rfl) (by kernel_rfl) (by kernel_rfl) (fun _ _ _ h => by exact h) (Or.inl ⟨by rfl, ?_⟩) (by assumption) ?_
        rotate_left
        · (intro w hSw; (try dsimp only at hSw); go_simp; try with_reducible rfl)
        try simp only [Act.put, List.setIfInBounds_toArray, List.set_cons_zero, List.set_cons_succ]
        refine wpAnyH_take (i := 12) (v := ?_) (by simp only [List.getElem?_toArray, List.getElem?_cons_succ, List.getElem?_cons_zero]; rfl) (by kernel_rfl) (by kernel_rfl) (by kernel_rfl) (fun _ _ _ h => by exact h) (Or.inl ⟨by rfl, ?_⟩) (by assumption) ?_
        rotate_left
        · (intro w hSw; (try dsimp only at hSw); go_simp; try with_reducible rfl)
        try simp only [Act.put, List.setIfInBounds_toArray, List.set_cons_zero, List.set_cons_succ]
        refine wpAnyH_ready (rs := [13]) (by kernel_rfl) (by simp) ?_
        refine AllReadyH.cons (by simp only [List.getElem?_toArray, List.getElem?_cons_succ, List.getElem?_cons_zero]; rfl) (fun K hK => ?_) AllReadyH.nil
        go_simp
        (go_at_call 7; (with_reducible refine (CL.out _ H5.out.below).mono ?_); rintro e w6 ⟨rfl, hb6⟩; have H6 := Lib.hid (H5.out.on hb6); clear hb6)
        try go_wp2_with fail
        refine hK.out _ _ ?_ (fun hHeld => ?_)
        · exact ⟨H6.out.p.x0, H6.out.p.x1, H6.out.p.x2, H6.out.p.x3, H6.out.p.x4, H6.out.p.x5, H6.out.q.x0, H6.out.q.x1, H6.out.q.x2, H6.out.q.x3, H6.out.q.x4, H6.out.q.x5⟩
        clear hK K
        try simp only [Act.put, List.setIfInBounds_toArray, List.set_cons_zero, List.set_cons_succ]
        refine wpAnyH_take (i := 14) (v := ?_) (by simp only [List.getElem?_toArray, List.getElem?_cons_succ, List.getElem?_cons_zero]; rfl) (by kernel_rfl) (by kernel_rfl) (by kernel_rfl) (fun _ _ _ h => by exact h) (Or.inl ⟨by rfl, ?_⟩) (by assumption) ?_
        rotate_left
        · (intro w hSw; (try dsimp only at hSw); go_simp; try with_reducible rfl)
        try simp only [Act.put, List.setIfInBounds_toArray, List.set_cons_zero, List.set_cons_succ]
        refine wpAnyH_take (i := 15) (v := ?_) (by simp only [List.getElem?_toArray, List.getElem?_cons_succ, List.getElem?_cons_zero]; rfl) (by kernel_rfl) (by kernel_rfl) (by kernel_rfl) (fun _ _ _ h => by exact h) (Or.inl ⟨by rfl, ?_⟩) (by assumption) ?_
        rotate_left
        · (intro w hSw; (try dsimp only at hSw); go_simp; try with_reducible rfl)
        try simp only [Act.put, List.setIfInBounds_toArray, List.set_cons_zero, List.set_cons_succ]
        refine wpAnyH_done (by kernel_rfl) ?_ _
        go_wp2
        go_ret
        exact ⟨rfl, H6.out.below⟩
end Go.Proofs.YtbdfglalohgahaaDoor
