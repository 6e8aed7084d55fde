/-
  The walks of the laws FusePlays and FuseDown.
-/
import Derived.Test.YtllbpjgmmbnogaaFuseDev
import Derived.Deep.RegionHeld3
import Derived.Deep.RegionWith
import Derived.Deep.DrawnRows
namespace Go.Proofs.Ytllbpjgmmbnogaa
open Go.RowKit

theorem IsFuse.below {w w' : World} {S : List Nat} {a : Addr} {f : Fus} (h : IsFuse w S a f) (hb : Below w.heap.size w w') : IsFuse w' S a f :=
  h.kept (.of_below (S := []) hb) (by simp)

set_option maxRecDepth 100000 in
set_option maxHeartbeats 800000 in
theorem lives10_any (w : World) : Calls Try.prog 6 #[] w fun e w' => e = .returned (.bool true) ∧ Below w.heap.size w w' := by
  go_enter Try.func6, Try.ntmps6
  go_wp2_with fail
  refine (fnew_any _).mono ?_
  rintro e w1 ⟨a, S, rfl, hF, hS, hb1⟩
  go_wp2_with fail
  have c2 := farm_any hF 1 1 (by omega)
  rw [show Fus.new.arm 1 1 = (⟨1, -1, -1, false⟩, true) from rfl] at c2
  refine c2.mono ?_
  rintro e w2 ⟨rfl, S2, hF2, hA2, hS2⟩
  clear c2
  go_wp2_with fail
  have c3 := fput_any hF2 (by unfold Fus.ok; simp)
  rw [show Fus.call ⟨1, -1, -1, false⟩ false = (⟨0, -1, -1, false⟩, 0) from rfl] at c3
  refine c3.mono ?_
  rintro e w3 ⟨rfl, S3, hF3, hA3, hS3⟩
  clear c3
  go_wp2_with fail
  have c4 := fput_any hF3 (by unfold Fus.ok; simp)
  rw [show Fus.call ⟨0, -1, -1, false⟩ false = (⟨-1, -1, -1, false⟩, 13) from rfl] at c4
  refine c4.mono ?_
  rintro e w4 ⟨rfl, S4, hF4, hA4, hS4⟩
  clear c4
  go_wp2_with fail
  have c5 := fput_any hF4 (by unfold Fus.ok; simp)
  rw [show Fus.call ⟨-1, -1, -1, false⟩ false = (⟨-1, -1, -1, false⟩, 0) from rfl] at c5
  refine c5.mono ?_
  rintro e w5 ⟨rfl, S5, hF5, hA5, hS5⟩
  clear c5
  have g2 := fun b hb => (hS2 b hb).elim (hS b) (fun h => Nat.le_trans hb1.size h)
  have g3 := fun b hb => (hS3 b hb).elim (g2 b) (fun h => Nat.le_trans (Nat.le_trans hb1.size hA2.size) h)
  have g4 := fun b hb => (hS4 b hb).elim (g3 b) (fun h => Nat.le_trans (Nat.le_trans (Nat.le_trans hb1.size hA2.size) hA3.size) h)
  have hb2 := hb1.trans (hA2.to_below hS hb1.size)
  have hb3 := hb2.trans (hA3.to_below g2 hb2.size)
  have hb4 := hb3.trans (hA4.to_below g3 hb3.size)
  have hb5 := hb4.trans (hA5.to_below g4 hb4.size)
  clear g2 g3 g4 hS hS2 hS3 hS4 hS5
  go_wp2
  go_ret
  exact ⟨by simp, hb5⟩

def stepF (f : Fus) (k fk fn : Int) : Fus :=
  if k = 0 then (f.call false).1 else if k = 1 then (f.call true).1 else if k = 2 then (f.arm fk fn).1 else if k = 3 then Fus.new else f

/-- Four cells of a block: what they hold, and that they may be written. -/
def Has4 (w : World) (g : Nat) (f : Fus) : Prop :=
  w.cell? ⟨g, 0, none⟩ = some (.int .i64 f.p) ∧ w.cell? ⟨g, 1, none⟩ = some (.int .i64 f.s) ∧ w.cell? ⟨g, 2, none⟩ = some (.int .i64 f.d) ∧ w.cell? ⟨g, 3, none⟩ = some (.bool f.off)
def Free4 (w : World) (g : Nat) : Prop :=
  w.frozen? ⟨g, 0, none⟩ = false ∧ w.frozen? ⟨g, 1, none⟩ = false ∧ w.frozen? ⟨g, 2, none⟩ = false ∧ w.frozen? ⟨g, 3, none⟩ = false
theorem Has4.keep {w w' : World} {g : Nat} {f : Fus} (h : Has4 w g f) (hk : ∀ o, w'.cell? ⟨g, o, none⟩ = w.cell? ⟨g, o, none⟩) : Has4 w' g f := by
  obtain ⟨h0, h1, h2, h3⟩ := h
  exact ⟨(hk _).trans h0, (hk _).trans h1, (hk _).trans h2, (hk _).trans h3⟩
theorem Free4.keep {w w' : World} {g : Nat} (h : Free4 w g) (hk : ∀ o, w'.frozen? ⟨g, o, none⟩ = w.frozen? ⟨g, o, none⟩) : Free4 w' g := by
  obtain ⟨h0, h1, h2, h3⟩ := h
  exact ⟨(hk _).trans h0, (hk _).trans h1, (hk _).trans h2, (hk _).trans h3⟩
theorem has4_new (w : World) (f : Fus) (t : TypeId) : Has4 (w.alloc (.cells #[.int .i64 f.p, .int .i64 f.s, .int .i64 f.d, .bool f.off] t)) w.heap.size f ∧ Free4 (w.alloc (.cells #[.int .i64 f.p, .int .i64 f.s, .int .i64 f.d, .bool f.off] t)) w.heap.size := by
  refine ⟨⟨?_, ?_, ?_, ?_⟩, ⟨?_, ?_, ?_, ?_⟩⟩ <;> first | (simp [World.cell?_alloc_new]; done) | exact World.frozen?_alloc_at _ _ _ _ _ rfl
/-- What the step's statement leans on: the new state in its block, and the result's block. -/
def Mid (g8 g6 : Nat) (n : Fus) (w' : World) : Prop :=
  w'.cell? ⟨g8, 0, none⟩ = some (.int .i64 n.p) ∧ w'.cell? ⟨g8, 1, none⟩ = some (.int .i64 n.s) ∧ w'.cell? ⟨g8, 2, none⟩ = some (.int .i64 n.d) ∧ w'.cell? ⟨g8, 3, none⟩ = some (.bool n.off) ∧
  w'.cell? ⟨g6, 0, none⟩ = some (.int .i64 0) ∧ w'.cell? ⟨g6, 1, none⟩ = some (.int .i64 0) ∧ w'.cell? ⟨g6, 2, none⟩ = some (.int .i64 0) ∧ w'.cell? ⟨g6, 3, none⟩ = some (.bool false) ∧
  w'.frozen? ⟨g6, 0, none⟩ = false ∧ w'.frozen? ⟨g6, 1, none⟩ = false ∧ w'.frozen? ⟨g6, 2, none⟩ = false ∧ w'.frozen? ⟨g6, 3, none⟩ = false
theorem mid_mk {g8 g6 : Nat} {n : Fus} {w' : World} (h8 : Has4 w' g8 n) (h6 : Has4 w' g6 ⟨0, 0, 0, false⟩) (h7 : Free4 w' g6) : Mid g8 g6 n w' := by
  obtain ⟨a0, a1, a2, a3⟩ := h8
  obtain ⟨b0, b1, b2, b3⟩ := h6
  obtain ⟨c0, c1, c2, c3⟩ := h7
  exact ⟨a0, a1, a2, a3, b0, b1, b2, b3, c0, c1, c2, c3⟩
theorem mid_parts {g8 g6 : Nat} {n : Fus} {w' : World} (h : Mid g8 g6 n w') : Has4 w' g8 n ∧ Has4 w' g6 ⟨0, 0, 0, false⟩ ∧ Free4 w' g6 := by
  obtain ⟨a0, a1, a2, a3, b0, b1, b2, b3, c0, c1, c2, c3⟩ := h
  exact ⟨⟨a0, a1, a2, a3⟩, ⟨b0, b1, b2, b3⟩, c0, c1, c2, c3⟩
theorem mid_apart {g8 g6 : Nat} {n : Fus} {S : List Nat} {w' w1 : World} (h : Mid g8 g6 n w') (ha : Apart S w' w1) (h8 : g8 < w'.heap.size) (h6 : g6 < w'.heap.size) (n8 : g8 ∉ S) (n6 : g6 ∉ S) : Mid g8 g6 n w1 := by
  obtain ⟨p1, p2, p3⟩ := mid_parts h
  exact mid_mk (p1.keep fun o => ha.cell (p := ⟨g8, o, none⟩) h8 n8) (p2.keep fun o => ha.cell (p := ⟨g6, o, none⟩) h6 n6) (p3.keep fun o => ha.frozen (p := ⟨g6, o, none⟩) h6 n6)

theorem upd4 {w X w2 : World} {S S2 : List Nat} {a : Addr} {f : Fus} {v u0 u1 u2 u3 : Value} {g : Nat} (hX : Below w.heap.size w X) (hF : IsFuse w2 S2 a f) (hA : Apart S X w2) (hS : ∀ b ∈ S2, b ∈ S ∨ X.heap.size ≤ b)
    (hlt : ∀ b ∈ S, b < w.heap.size) (h6 : w.heap.size ≤ g) (h6' : g < X.heap.size) :
    UpdF w S a f v (.returned v) ((((w2.setCell ⟨g, 0, none⟩ u0).setCell ⟨g, 1, none⟩ u1).setCell ⟨g, 2, none⟩ u2).setCell ⟨g, 3, none⟩ u3) := by
  have hg : ∀ b ∈ S2, b ∉ [g] := fun b hb he => by
    have e : b = g := by simpa using he
    rcases hS b hb with h | h
    · have := hlt b h; omega
    · omega
  have k : Apart [g] w2 ((((w2.setCell ⟨g, 0, none⟩ u0).setCell ⟨g, 1, none⟩ u1).setCell ⟨g, 2, none⟩ u2).setCell ⟨g, 3, none⟩ u3) :=
    ((((Apart.refl [g] w2).setCell (p := ⟨g, 0, none⟩) (.inl (by simp)) _).setCell (p := ⟨g, 1, none⟩) (.inl (by simp)) _).setCell (p := ⟨g, 2, none⟩) (.inl (by simp)) _).setCell (p := ⟨g, 3, none⟩) (.inl (by simp)) _
  refine ⟨rfl, S2, hF.kept k hg, ?_, fun b hb => ?_⟩
  · refine ((Apart.of_below hX).trans hA (fun x hx => .inl hx)).trans k (fun x hx => .inr ?_)
    have e : x = g := by simpa using hx
    omega
  · rcases hS b hb with h | h
    · exact .inl h
    · exact .inr (Nat.le_trans hX.size h)

set_option maxRecDepth 100000 in
set_option maxHeartbeats 1600000 in
theorem step_0 {w : World} {S : List Nat} {a : Addr} {f : Fus} (h : IsFuse w S a f) (hf : f.ok) (fk fn : Int) :
    Calls Try.prog 12 #[.pointer (some a), f.v, .agg #[.int .i64 0, .int .i64 fk, .int .i64 fn]] w (UpdF w S a (f.call false).1 (.tuple #[(f.call false).1.v, .bool true])) := by
  have hlt := h.lt
  have c1 := rfcall_any f hf false
  have HF := Lib.hid hf; have HLT := Lib.hid hlt; have HI := Lib.hid h
  clear hf hlt h
  obtain ⟨⟨n, err⟩, hr⟩ : ∃ r, f.call false = r := ⟨_, rfl⟩
  rw [hr] at c1 ⊢
  have C1 := Lib.hid c1; have HR := Lib.hid hr
  clear c1 hr
  go_enter Try.func12, Try.ntmps12
  go_wp2_with fail
  refine (C1.out _).mono ?_
  rintro e w1 ⟨rfl, hb1⟩
  go_wp2_with fail
  have hsz : w.heap.size + 3 ≤ w1.heap.size := by have := hb1.size; simp at this; omega
  have h6 := has4_new ((w.alloc (.cells #[.int .i64 f.p, .int .i64 f.s, .int .i64 f.d, .bool f.off] 27)).alloc (.cells #[.int .i64 0, .int .i64 fk, .int .i64 fn] 32)) ⟨0, 0, 0, false⟩ 27
  have hX : Below w.heap.size w w1 := ((((Below.refl _ _).alloc (Nat.le_refl _) _).alloc (by simp) _).alloc (by simp; omega) _).trans (hb1.mono (by simp; omega))
  have h8 := has4_new w1 n 27
  have hbd := (Below.refl w1.heap.size w1).alloc (Nat.le_refl _) (.cells #[.int .i64 n.p, .int .i64 n.s, .int .i64 n.d, .bool n.off] 27)
  obtain ⟨X, hXe⟩ : ∃ X, w1.alloc (.cells #[.int .i64 n.p, .int .i64 n.s, .int .i64 n.d, .bool n.off] 27) = X := ⟨_, rfl⟩
  have hXs : X.heap.size = w1.heap.size + 1 := by rw [← hXe]; simp
  rw [hXe] at h8 hbd ⊢
  simp only [World.size_alloc] at h6
  have m0 : Mid w1.heap.size (w.heap.size + 1 + 1) n X.drew := by
    refine mid_mk h8.1 (h6.1.keep fun o => ?_) (h6.2.keep fun o => ?_)
    · exact (hbd.cell (p := ⟨w.heap.size + 1 + 1, o, none⟩) (by show w.heap.size + 1 + 1 < _; omega)).trans (hb1.cell (p := ⟨w.heap.size + 1 + 1, o, none⟩) (by simp))
    · exact (hbd.frozen (p := ⟨w.heap.size + 1 + 1, o, none⟩) (by show w.heap.size + 1 + 1 < _; omega)).trans (hb1.frozen (p := ⟨w.heap.size + 1 + 1, o, none⟩) (by simp))
  have hIX : IsFuse X.drew S a f := HI.out.below (hX.trans ((hbd.mono hX.size).drew))
  have HX := Lib.hid (hX.trans (hbd.mono hX.size)); have HIX := Lib.hid hIX; have HXS := Lib.hid hXs
  have M0 := Lib.hid m0
  have hg8 : w1.heap.size ∉ S := fun g => by have := HLT.out _ g; omega
  have hg6 : w.heap.size + 1 + 1 ∉ S := fun g => by have := HLT.out _ g; omega
  have G8 := Lib.hid hg8; have G6 := Lib.hid hg6
  clear h6 h8 hbd hXe hXs hb1 hX hIX m0 hg8 hg6
  obtain ⟨a0, a1, a2, a3, b0, b1, b2, b3, f0, f1, f2, f3⟩ := M0.out
  go_region_with (go_at_call 11; have c := fput_any HIX.out HF.out; rw [HR.out] at c; refine c.mono ?_; rintro e w2 ⟨rfl, S2, hF2, hA2, hS2⟩; clear c; have hF3 := Lib.hid hF2; have hA3 := Lib.hid hA2; have hS3 := Lib.hid hS2; obtain ⟨a0, a1, a2, a3, b0, b1, b2, b3, f0, f1, f2, f3⟩ := mid_apart M0.out hA2 (by show _ < X.heap.size; have := HXS.out; omega) (by show _ < X.heap.size; have := HXS.out; omega) G8.out G6.out; clear hF2 hA2 hS2)
  all_goals
    go_wp2
    refine bodyPost_ret (v := .tuple #[n.v, .bool true]) (by simp [results, Try.results12, b0, b1, b2, b3, go_sem]) rfl ?_
    exact upd4 (X := X.drew) HX.out.drew hF3.out hA3.out hS3.out HLT.out (by omega) (by show _ < X.heap.size; have := HXS.out; omega)
set_option maxRecDepth 100000 in
set_option maxHeartbeats 1600000 in
theorem step_1 {w : World} {S : List Nat} {a : Addr} {f : Fus} (h : IsFuse w S a f) (hf : f.ok) (fk fn : Int) :
    Calls Try.prog 12 #[.pointer (some a), f.v, .agg #[.int .i64 1, .int .i64 fk, .int .i64 fn]] w (UpdF w S a (f.call true).1 (.tuple #[(f.call true).1.v, .bool true])) := by
  have hlt := h.lt
  have c1 := rfcall_any f hf true
  have HF := Lib.hid hf; have HLT := Lib.hid hlt; have HI := Lib.hid h
  clear hf hlt h
  obtain ⟨⟨n, err⟩, hr⟩ : ∃ r, f.call true = r := ⟨_, rfl⟩
  rw [hr] at c1 ⊢
  have C1 := Lib.hid c1; have HR := Lib.hid hr
  clear c1 hr
  go_enter Try.func12, Try.ntmps12
  go_wp2_with fail
  refine (C1.out _).mono ?_
  rintro e w1 ⟨rfl, hb1⟩
  go_wp2_with fail
  have hsz : w.heap.size + 3 ≤ w1.heap.size := by have := hb1.size; simp at this; omega
  have h6 := has4_new ((w.alloc (.cells #[.int .i64 f.p, .int .i64 f.s, .int .i64 f.d, .bool f.off] 27)).alloc (.cells #[.int .i64 1, .int .i64 fk, .int .i64 fn] 32)) ⟨0, 0, 0, false⟩ 27
  have hX : Below w.heap.size w w1 := ((((Below.refl _ _).alloc (Nat.le_refl _) _).alloc (by simp) _).alloc (by simp; omega) _).trans (hb1.mono (by simp; omega))
  have h8 := has4_new w1 n 27
  have hbd := (Below.refl w1.heap.size w1).alloc (Nat.le_refl _) (.cells #[.int .i64 n.p, .int .i64 n.s, .int .i64 n.d, .bool n.off] 27)
  obtain ⟨X, hXe⟩ : ∃ X, w1.alloc (.cells #[.int .i64 n.p, .int .i64 n.s, .int .i64 n.d, .bool n.off] 27) = X := ⟨_, rfl⟩
  have hXs : X.heap.size = w1.heap.size + 1 := by rw [← hXe]; simp
  rw [hXe] at h8 hbd ⊢
  simp only [World.size_alloc] at h6
  have m0 : Mid w1.heap.size (w.heap.size + 1 + 1) n X.drew := by
    refine mid_mk h8.1 (h6.1.keep fun o => ?_) (h6.2.keep fun o => ?_)
    · exact (hbd.cell (p := ⟨w.heap.size + 1 + 1, o, none⟩) (by show w.heap.size + 1 + 1 < _; omega)).trans (hb1.cell (p := ⟨w.heap.size + 1 + 1, o, none⟩) (by simp))
    · exact (hbd.frozen (p := ⟨w.heap.size + 1 + 1, o, none⟩) (by show w.heap.size + 1 + 1 < _; omega)).trans (hb1.frozen (p := ⟨w.heap.size + 1 + 1, o, none⟩) (by simp))
  have hIX : IsFuse X.drew S a f := HI.out.below (hX.trans ((hbd.mono hX.size).drew))
  have HX := Lib.hid (hX.trans (hbd.mono hX.size)); have HIX := Lib.hid hIX; have HXS := Lib.hid hXs
  have M0 := Lib.hid m0
  have hg8 : w1.heap.size ∉ S := fun g => by have := HLT.out _ g; omega
  have hg6 : w.heap.size + 1 + 1 ∉ S := fun g => by have := HLT.out _ g; omega
  have G8 := Lib.hid hg8; have G6 := Lib.hid hg6
  clear h6 h8 hbd hXe hXs hb1 hX hIX m0 hg8 hg6
  obtain ⟨a0, a1, a2, a3, b0, b1, b2, b3, f0, f1, f2, f3⟩ := M0.out
  go_region_with (go_at_call 14; have c := fsync_any HIX.out HF.out; rw [HR.out] at c; refine c.mono ?_; rintro e w2 ⟨rfl, S2, hF2, hA2, hS2⟩; clear c; have hF3 := Lib.hid hF2; have hA3 := Lib.hid hA2; have hS3 := Lib.hid hS2; obtain ⟨a0, a1, a2, a3, b0, b1, b2, b3, f0, f1, f2, f3⟩ := mid_apart M0.out hA2 (by show _ < X.heap.size; have := HXS.out; omega) (by show _ < X.heap.size; have := HXS.out; omega) G8.out G6.out; clear hF2 hA2 hS2)
  all_goals
    go_wp2
    refine bodyPost_ret (v := .tuple #[n.v, .bool true]) (by simp [results, Try.results12, b0, b1, b2, b3, go_sem]) rfl ?_
    exact upd4 (X := X.drew) HX.out.drew hF3.out hA3.out hS3.out HLT.out (by omega) (by show _ < X.heap.size; have := HXS.out; omega)
set_option maxRecDepth 100000 in
set_option maxHeartbeats 1600000 in
theorem step_2 {w : World} {S : List Nat} {a : Addr} {f : Fus} (h : IsFuse w S a f) (fk fn : Int) (hn : fn ≤ 9223372036854775807) :
    Calls Try.prog 12 #[.pointer (some a), f.v, .agg #[.int .i64 2, .int .i64 fk, .int .i64 fn]] w (UpdF w S a (f.arm fk fn).1 (.tuple #[(f.arm fk fn).1.v, .bool true])) := by
  have hlt := h.lt
  have c1 := rfarm_any f fk fn
  have HLT := Lib.hid hlt; have HI := Lib.hid h
  clear hlt h
  obtain ⟨⟨n, ok⟩, hr⟩ : ∃ r, f.arm fk fn = r := ⟨_, rfl⟩
  rw [hr] at c1 ⊢
  have C1 := Lib.hid c1; have HR := Lib.hid hr
  clear c1 hr
  go_enter Try.func12, Try.ntmps12
  go_wp2_with fail
  refine (C1.out _).mono ?_
  rintro e w1 ⟨rfl, hb1⟩
  go_wp2_with fail
  have hsz : w.heap.size + 3 ≤ w1.heap.size := by have := hb1.size; simp at this; omega
  have h6 := has4_new ((w.alloc (.cells #[.int .i64 f.p, .int .i64 f.s, .int .i64 f.d, .bool f.off] 27)).alloc (.cells #[.int .i64 2, .int .i64 fk, .int .i64 fn] 32)) ⟨0, 0, 0, false⟩ 27
  have h5 : ∀ o, w1.cell? ⟨w.heap.size + 1, o, none⟩ = #[.int .i64 2, .int .i64 fk, .int .i64 fn][o]? := fun o => by
    rw [hb1.cell (p := ⟨w.heap.size + 1, o, none⟩) (by simp), World.cell?_alloc_past _ _ _ (by simp), World.cell?_alloc_at _ _ _ _ (by simp)]
  have hX : Below w.heap.size w w1 := ((((Below.refl _ _).alloc (Nat.le_refl _) _).alloc (by simp) _).alloc (by simp; omega) _).trans (hb1.mono (by simp; omega))
  have h8 := has4_new w1 n 27
  have hbd := (Below.refl w1.heap.size w1).alloc (Nat.le_refl _) (.cells #[.int .i64 n.p, .int .i64 n.s, .int .i64 n.d, .bool n.off] 27)
  obtain ⟨X, hXe⟩ : ∃ X, w1.alloc (.cells #[.int .i64 n.p, .int .i64 n.s, .int .i64 n.d, .bool n.off] 27) = X := ⟨_, rfl⟩
  have hXs : X.heap.size = w1.heap.size + 1 := by rw [← hXe]; simp
  rw [hXe] at h8 hbd ⊢
  simp only [World.size_alloc] at h6
  have m0 : Mid w1.heap.size (w.heap.size + 1 + 1) n X.drew := by
    refine mid_mk h8.1 (h6.1.keep fun o => ?_) (h6.2.keep fun o => ?_)
    · exact (hbd.cell (p := ⟨w.heap.size + 1 + 1, o, none⟩) (by show w.heap.size + 1 + 1 < _; omega)).trans (hb1.cell (p := ⟨w.heap.size + 1 + 1, o, none⟩) (by simp))
    · exact (hbd.frozen (p := ⟨w.heap.size + 1 + 1, o, none⟩) (by show w.heap.size + 1 + 1 < _; omega)).trans (hb1.frozen (p := ⟨w.heap.size + 1 + 1, o, none⟩) (by simp))
  have h51 : X.drew.cell? ⟨w.heap.size + 1, 1, none⟩ = some (.int .i64 fk) := (hbd.cell (p := ⟨w.heap.size + 1, 1, none⟩) (by show w.heap.size + 1 < _; omega)).trans (h5 1)
  have h52 : X.drew.cell? ⟨w.heap.size + 1, 2, none⟩ = some (.int .i64 fn) := (hbd.cell (p := ⟨w.heap.size + 1, 2, none⟩) (by show w.heap.size + 1 < _; omega)).trans (h5 2)
  have hg5 : w.heap.size + 1 ∉ S := fun g => by have := HLT.out _ g; omega
  have G5 := Lib.hid hg5
  have H51 := Lib.hid h51; have H52 := Lib.hid h52
  clear h5 hg5
  have hIX : IsFuse X.drew S a f := HI.out.below (hX.trans ((hbd.mono hX.size).drew))
  have HX := Lib.hid (hX.trans (hbd.mono hX.size)); have HIX := Lib.hid hIX; have HXS := Lib.hid hXs
  have M0 := Lib.hid m0
  have hg8 : w1.heap.size ∉ S := fun g => by have := HLT.out _ g; omega
  have hg6 : w.heap.size + 1 + 1 ∉ S := fun g => by have := HLT.out _ g; omega
  have G8 := Lib.hid hg8; have G6 := Lib.hid hg6
  clear h6 h8 hbd hXe hXs hb1 hX hIX m0 hg8 hg6
  obtain ⟨a0, a1, a2, a3, b0, b1, b2, b3, f0, f1, f2, f3⟩ := M0.out
  go_region_with (go_at_call 10; (have c := farm_any HIX.out fk fn hn; rw [HR.out] at c; refine c.mono ?_; rintro e w2 ⟨rfl, S2, hF2, hA2, hS2⟩; clear c; have hF3 := Lib.hid hF2; have hA3 := Lib.hid hA2; have hS3 := Lib.hid hS2; obtain ⟨a0, a1, a2, a3, b0, b1, b2, b3, f0, f1, f2, f3⟩ := mid_apart M0.out hA2 (by show _ < X.heap.size; have := HXS.out; omega) (by show _ < X.heap.size; have := HXS.out; omega) G8.out G6.out; have o1 := (hA3.out.cell (p := ⟨w.heap.size + 1, 1, none⟩) (by show w.heap.size + 1 < X.heap.size; have := HXS.out; omega) G5.out).trans H51.out; have o2 := (hA3.out.cell (p := ⟨w.heap.size + 1, 2, none⟩) (by show w.heap.size + 1 < X.heap.size; have := HXS.out; omega) G5.out).trans H52.out; clear hF2 hA2 hS2))
  all_goals
    go_wp2
    refine bodyPost_ret (v := .tuple #[n.v, .bool true]) (by simp [results, Try.results12, b0, b1, b2, b3, go_sem]) rfl ?_
    exact upd4 (X := X.drew) HX.out.drew hF3.out hA3.out hS3.out HLT.out (by omega) (by show _ < X.heap.size; have := HXS.out; omega)
set_option maxRecDepth 100000 in
set_option maxHeartbeats 1600000 in
theorem step_3 {w : World} {S : List Nat} {a : Addr} {f : Fus} (h : IsFuse w S a f) (fk fn : Int) :
    Calls Try.prog 12 #[.pointer (some a), f.v, .agg #[.int .i64 3, .int .i64 fk, .int .i64 fn]] w (UpdF w S a Fus.new (.tuple #[Fus.new.v, .bool true])) := by
  have hlt := h.lt
  have HLT := Lib.hid hlt; have HI := Lib.hid h
  clear hlt h
  have hX : Below w.heap.size w (((w.alloc (.cells #[.int .i64 f.p, .int .i64 f.s, .int .i64 f.d, .bool f.off] 27)).alloc (.cells #[.int .i64 3, .int .i64 fk, .int .i64 fn] 32)).alloc (.cells #[.int .i64 0, .int .i64 0, .int .i64 0, .bool false] 27)) :=
    (((Below.refl _ _).alloc (Nat.le_refl _) _).alloc (by simp) _).alloc (by simp; omega) _
  have h6 := has4_new ((w.alloc (.cells #[.int .i64 f.p, .int .i64 f.s, .int .i64 f.d, .bool f.off] 27)).alloc (.cells #[.int .i64 3, .int .i64 fk, .int .i64 fn] 32)) ⟨0, 0, 0, false⟩ 27
  simp only [World.size_alloc] at h6
  have HX := Lib.hid hX
  have hg6 : w.heap.size + 1 + 1 ∉ S := fun g => by have := HLT.out _ g; omega
  have c := freset_any (HI.out.below hX)
  have C := Lib.hid c; have H6 := Lib.hid h6; have G6 := Lib.hid hg6
  clear c hX h6 hg6
  go_enter Try.func12, Try.ntmps12
  go_wp2_with fail
  refine C.out.mono ?_
  rintro e w2 ⟨rfl, S2, hF2, hA2, hS2⟩
  have p1 := H6.out.1.keep (w' := w2) fun o => hA2.cell (p := ⟨w.heap.size + 1 + 1, o, none⟩) (by simp) G6.out
  have p2 := H6.out.2.keep (w' := w2) fun o => hA2.frozen (p := ⟨w.heap.size + 1 + 1, o, none⟩) (by simp) G6.out
  have hsz : w.heap.size + 3 ≤ w2.heap.size := by have := hA2.size; simp at this; omega
  have hF3 := Lib.hid hF2; have hA3 := Lib.hid hA2; have hS3 := Lib.hid hS2
  clear hF2 hA2 hS2
  go_wp2_with fail
  refine (rfnew_any _).mono ?_
  rintro e w3 ⟨rfl, hb3⟩
  have q1 := p1.keep (w' := w3) fun o => hb3.cell (p := ⟨w.heap.size + 1 + 1, o, none⟩) (by show w.heap.size + 1 + 1 < w2.heap.size; omega)
  have q2 := p2.keep (w' := w3) fun o => hb3.frozen (p := ⟨w.heap.size + 1 + 1, o, none⟩) (by show w.heap.size + 1 + 1 < w2.heap.size; omega)
  obtain ⟨b0, b1, b2, b3⟩ := q1
  obtain ⟨f0, f1, f2, f3⟩ := q2
  clear p1 p2
  go_wp2
  refine bodyPost_ret (v := .tuple #[Fus.new.v, .bool true]) (by simp [results, Try.results12, b0, b1, b2, b3, go_sem]) rfl ?_
  exact upd4 HX.out (hF3.out.below hb3) (hA3.out.trans (.of_below (S := []) hb3) (by simp)) hS3.out HLT.out (by omega) (by simp)

set_option maxRecDepth 100000 in
set_option maxHeartbeats 1600000 in
theorem step_4 {w : World} {S : List Nat} {a : Addr} {f : Fus} (h : IsFuse w S a f) (k fk fn : Int) (k0 : ¬ k = 0) (k1 : ¬ k = 1) (k2 : ¬ k = 2) (k3 : ¬ k = 3) :
    Calls Try.prog 12 #[.pointer (some a), f.v, .agg #[.int .i64 k, .int .i64 fk, .int .i64 fn]] w (UpdF w S a f (.tuple #[f.v, .bool true])) := by
  have hlt := h.lt
  have t0 : (k == 0) = false := beq_eq_false_iff_ne.2 k0
  have t1 : (k == 1) = false := beq_eq_false_iff_ne.2 k1
  have t2 : (k == 2) = false := beq_eq_false_iff_ne.2 k2
  have t3 : (k == 3) = false := beq_eq_false_iff_ne.2 k3
  have hX : Below w.heap.size w ((w.alloc (.cells #[.int .i64 f.p, .int .i64 f.s, .int .i64 f.d, .bool f.off] 27)).alloc (.cells #[.int .i64 k, .int .i64 fk, .int .i64 fn] 32)) :=
    ((Below.refl _ _).alloc (Nat.le_refl _) _).alloc (by simp) _
  have HX := Lib.hid hX; have HLT := Lib.hid hlt; have HI := Lib.hid h
  clear hX hlt h k0 k1 k2 k3
  go_enter Try.func12, Try.ntmps12
  go_wp2
  refine bodyPost_ret (v := .tuple #[f.v, .bool true]) (by simp [results, Try.results12, go_sem]) rfl ?_
  have hB := HX.out.alloc (by simp; omega) (.cells #[.int .i64 f.p, .int .i64 f.s, .int .i64 f.d, .bool f.off] 27)
  exact ⟨rfl, S, HI.out.below hB, .of_below hB, fun b hb => .inl hb⟩

theorem step_any {w : World} {S : List Nat} {a : Addr} {f : Fus} (h : IsFuse w S a f) (hf : f.ok) (k fk fn : Int) (hn : fn ≤ 9223372036854775807) :
    Calls Try.prog 12 #[.pointer (some a), f.v, .agg #[.int .i64 k, .int .i64 fk, .int .i64 fn]] w (UpdF w S a (stepF f k fk fn) (.tuple #[(stepF f k fk fn).v, .bool true])) := by
  rcases (show k = 0 ∨ k = 1 ∨ k = 2 ∨ k = 3 ∨ (¬ k = 0 ∧ ¬ k = 1 ∧ ¬ k = 2 ∧ ¬ k = 3) by omega) with rfl | rfl | rfl | rfl | ⟨k0, k1, k2, k3⟩
  · exact step_0 h hf fk fn
  · exact step_1 h hf fk fn
  · exact step_2 h fk fn hn
  · exact step_3 h fk fn
  · have e : stepF f k fk fn = f := by unfold stepF; rw [if_neg k0, if_neg k1, if_neg k2, if_neg k3]
    rw [e]
    exact step_4 h k fk fn k0 k1 k2 k3
theorem stepF_ok (f : Fus) (h : f.ok) (k fk fn : Int) (hn : fn ≤ 9223372036854775807) : (stepF f k fk fn).ok := by
  unfold stepF
  split
  · exact Fus.call_ok f false h
  · split
    · exact Fus.call_ok f true h
    · split
      · exact Fus.arm_ok f fk fn h hn
      · split
        · exact Fus.new_ok
        · exact h
end Go.Proofs.Ytllbpjgmmbnogaa
