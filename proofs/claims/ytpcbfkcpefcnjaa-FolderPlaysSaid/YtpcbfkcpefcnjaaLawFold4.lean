/-
  The other steps of the law of layer 9; any step.
-/
import Derived.Test.YtpcbfkcpefcnjaaLawFold3
namespace Go.Proofs.Ytpcbfkcpefcnjaa
open Go.RowKit
set_option linter.unusedVariables false

theorem st9_end2 {w X w1 w2 : World} {S S1 : List Nat} {f : Addr} {P : Nat → Prop} {a a' : Option Addr} {n c c' : Nat} {k m : Int} {s d : ByteArray} {L' : List (List Ent)}
    (hst : St9 w X a n c k m s d) (hP : ∀ b, P b → b < w.heap.size ∧ b ∉ S) (hS : ∀ b ∈ S, b < w.heap.size) (ha : Apart S X w1) (hF : IsFold w1 S1 f L') (hS1 : ∀ b ∈ S1, b ∈ S ∨ X.heap.size ≤ b)
    (hb2 : Below w1.heap.size w1 w2) (hl : LLs w2 (Grow P w1.heap.size w2.heap.size) a' L') :
    StepR w S f P L' (.returned (.tuple #[fdV a' L'.length c', .bool true])) (w2.setCell ⟨w.heap.size + 1 + 1, 0, none⟩ (.slice a' L'.length c')) := by
  have hz := hst.size
  have hz1 := ha.size
  have hz2 := hb2.size
  have hl1 := hF.lt
  have hF2 := hF.below hb2
  have hsz : (w2.setCell ⟨w.heap.size + 1 + 1, 0, none⟩ (.slice a' L'.length c')).heap.size = w2.heap.size := by simp
  have k3 : Apart [w.heap.size + 1 + 1] w2 (w2.setCell ⟨w.heap.size + 1 + 1, 0, none⟩ (.slice a' L'.length c')) := (Apart.refl [w.heap.size + 1 + 1] w2).setCell (p := ⟨w.heap.size + 1 + 1, 0, none⟩) (.inl (List.mem_singleton.2 rfl)) _
  have hG : ∀ b, Grow P w1.heap.size w2.heap.size b → (P b ∨ w.heap.size ≤ b) ∧ b < w2.heap.size ∧ b ∉ S1 ∧ b ≠ w.heap.size + 1 + 1 := fun b hb => by
    rcases hb with hb | hb
    · have h0 := hP b hb
      refine ⟨.inl hb, by omega, fun hh => ?_, by omega⟩
      rcases hS1 _ hh with g | g
      · exact h0.2 g
      · omega
    · exact ⟨.inr (by omega), hb.2, fun hh => by have := hl1 _ hh; omega, by omega⟩
  refine ⟨a', c', S1, rfl, hF2.kept k3 (fun b hb hh => ?_), ?_, fun b hb => ?_, ?_⟩
  · have e : b = w.heap.size + 1 + 1 := by simpa using hh
    rcases hS1 _ hb with g | g
    · have := hS _ g; omega
    · omega
  · refine ((((Apart.of_below (S := S) hst.bel).trans ha (fun x hx => .inl hx)).trans (Apart.of_below (S := S) hb2) (fun x hx => .inl hx)).trans k3 (fun x hx => .inr ?_))
    have e : x = w.heap.size + 1 + 1 := by simpa using hx
    omega
  · rcases hS1 _ hb with g | g
    · exact .inl g
    · exact .inr (by omega)
  · refine (hl.keep (fun p hp => cell_other (hG _ hp).2.2.2 _)).more (fun b hb => ⟨(hG b hb).1, by rw [hsz]; exact (hG b hb).2.1, (hG b hb).2.2.1⟩)

set_option maxRecDepth 100000 in
set_option maxHeartbeats 1600000 in
theorem step9_3 {w : World} {S : List Nat} {f : Addr} {L : List (List Ent)} (h : IsFold w S f L) (hL : okL 400 L) (a : Option Addr) (c : Nat) (P : Nat → Prop) (hP : ∀ b, P b → b < w.heap.size ∧ b ∉ S) (hl : LLs w P a L) (m : Int) (s d : ByteArray) :
    Calls Try.prog 12 #[.pointer (some f), fdV a L.length c, .agg #[.int .i64 3, .int .i64 m, .string s, .string d]] w (StepR w S f P [nowL L]) := by
  have hL5 : okL 500 L := ⟨hL.1, by have := hL.2.1; omega, fun l hl => by have := hL.2.2 l hl; omega⟩
  have hSlt := h.lt
  have st := st9_mk w a L.length c 3 m s d
  have c1 := fun (W : World) (hPW : ∀ b, P b → b < W.heap.size) (h : LLs W P a L) => rsync9_any a L c P W hPW h hL.1 (by have := hL.2.1; omega)
  have c2 := fun (W : World) (S : List Nat) (h : IsFold W S f L) => fosync_any h hL5
  obtain ⟨L2, hL2⟩ : ∃ L2, [nowL L] = L2 := ⟨_, rfl⟩
  rw [hL2]
  simp only [hL2] at c1 c2
  obtain ⟨n, hn⟩ : ∃ n, L.length = n := ⟨_, rfl⟩
  simp only [hn] at c1
  rw [hn] at st ⊢
  obtain ⟨X, hX⟩ : ∃ X, box9 w a n c 3 m s d = X := ⟨_, rfl⟩
  have HX := Lib.hid hX
  rw [hX] at st
  have hFX := h.below st.bel
  have C1 := Lib.hid c1; have C2 := Lib.hid c2; have ST := Lib.hid st; have HL := Lib.hid hl; have HP := Lib.hid hP; have HS := Lib.hid hSlt; have HFX := Lib.hid hFX
  clear c1 c2 st h hl hP hSlt hn hL2 hX hL hL5 hFX
  go_enter Try.func12, Try.ntmps12
  go_wp2_with fail
  rw [show ((w.alloc (.cells #[.slice a n c] 28)).alloc (.cells #[.int .i64 3, .int .i64 m, .string s, .string d] 31)).alloc (.cells #[.slice none 0 0] 28) = X from HX.out]
  refine (C2.out _ _ HFX.out).mono ?_
  rintro e w1 ⟨rfl, S1, hF1, hA1, hS1⟩
  have hzX := ST.out.size
  have nS : ∀ b, w.heap.size ≤ b → b ∉ S := fun b hb hh => by have := HS.out _ hh; omega
  have q0 : w1.cell? ⟨w.heap.size, 0, none⟩ = some (.slice a n c) := (hA1.cell (p := ⟨w.heap.size, 0, none⟩) (by dsimp only; omega) (nS _ (Nat.le_refl _))).trans ST.out.q
  have q1 : w1.cell? ⟨w.heap.size + 1 + 1, 0, none⟩ = some (.slice none 0 0) := (hA1.cell (p := ⟨w.heap.size + 1 + 1, 0, none⟩) (by dsimp only; omega) (nS _ (by dsimp only; omega))).trans ST.out.r
  have q2 : w1.frozen? ⟨w.heap.size + 1 + 1, 0, none⟩ = false := (hA1.frozen (p := ⟨w.heap.size + 1 + 1, 0, none⟩) (by dsimp only; omega) (nS _ (by dsimp only; omega))).trans ST.out.z
  have hz1 := hA1.size
  have hl1 : LLs w1 P a _ := (HL.out.below (fun b hb => (HP.out b hb).1) ST.out.bel).keep (fun p hp => hA1.cell (by have := (HP.out _ hp).1; omega) (HP.out _ hp).2)
  have HF1 := Lib.hid hF1; have HA1 := Lib.hid hA1; have HS1 := Lib.hid hS1; have HL1 := Lib.hid hl1; have Q1 := Lib.hid q1; have Q2 := Lib.hid q2
  have HZ : Hid (w.heap.size + 3 ≤ w1.heap.size) := Lib.hid (by omega)
  clear hF1 hA1 hS1 hl1 hzX hz1 q1 q2 nS
  go_wp2_with fail
  refine (C1.out _ (fun b hb => by have := (HP.out b hb).1; have := HZ.out; omega) HL1.out).mono ?_
  rintro e w2 ⟨a2, c2', rfl, hl2, hb2⟩
  have q3 : w2.cell? ⟨w.heap.size + 1 + 1, 0, none⟩ = some (.slice none 0 0) := (hb2.cell (p := ⟨w.heap.size + 1 + 1, 0, none⟩) (by have := HZ.out; dsimp only; omega)).trans Q1.out
  have q4 : w2.frozen? ⟨w.heap.size + 1 + 1, 0, none⟩ = false := (hb2.frozen (p := ⟨w.heap.size + 1 + 1, 0, none⟩) (by have := HZ.out; dsimp only; omega)).trans Q2.out
  have hend := st9_end2 (c' := c2') ST.out HP.out HS.out HA1.out HF1.out HS1.out hb2 hl2
  obtain ⟨n2, hn2⟩ : ∃ n2, L2.length = n2 := ⟨_, rfl⟩
  rw [hn2] at hend ⊢
  have HE := Lib.hid hend
  clear hl2 hb2 hend hn2
  go_wp2
  exact bodyPost_ret (v := .tuple #[fdV a2 n2 c2', .bool true]) (by simp [results, Try.results12, q3, go_sem]) rfl HE.out
set_option maxRecDepth 100000 in
set_option maxHeartbeats 1600000 in
theorem step9_5 {w : World} {S : List Nat} {f : Addr} {L : List (List Ent)} (h : IsFold w S f L) (a : Option Addr) (c : Nat) (P : Nat → Prop) (hP : ∀ b, P b → b < w.heap.size ∧ b ∉ S) (hl : LLs w P a L) (k m : Int) (s d : ByteArray)
    (k0 : (k == 0) = false) (k1 : (k == 1) = false) (k2 : (k == 2) = false) (k3 : (k == 3) = false) (k4 : (k == 4) = false) :
    Calls Try.prog 12 #[.pointer (some f), fdV a L.length c, .agg #[.int .i64 k, .int .i64 m, .string s, .string d]] w (StepR w S f P L) := by
  obtain ⟨n, hn⟩ : ∃ n, L.length = n := ⟨_, rfl⟩
  rw [hn]
  have HN := Lib.hid hn; have H := Lib.hid h; have HL := Lib.hid hl; have HP := Lib.hid hP
  clear hn h hl hP
  go_enter Try.func12, Try.ntmps12
  go_wp2
  have hB : Below w.heap.size w (((w.alloc (.cells #[.slice a n c] 28)).alloc (.cells #[.int .i64 k, .int .i64 m, .string s, .string d] 31)).alloc (.cells #[.slice a n c] 28)) := (((Below.refl _ _).alloc (Nat.le_refl _) _).alloc (by simp) _).alloc (by simp; omega) _
  refine bodyPost_ret (v := .tuple #[fdV a n c, .bool true]) (by simp [results, Try.results12, go_sem]) rfl ⟨a, c, S, by rw [HN.out], H.out.below hB, .of_below hB, fun b hb => .inl hb, ?_⟩
  exact (HL.out.below (fun b hb => (HP.out b hb).1) hB).more (fun b hb => ⟨.inl hb, by have := (HP.out b hb).1; have := hB.size; omega, (HP.out b hb).2⟩)

/-- What a step leads to. -/
def stepL (L : List (List Ent)) (k m : Int) (s d : ByteArray) : List (List Ent) :=
  if k = 0 then putF L s m else if k = 1 then dropF L s else if k = 2 then moveF L s d else if k = 3 then [nowL L] else if k = 4 then [L.getD (pickN m L.length) []] else L
theorem step9_any {w : World} {S : List Nat} {f : Addr} {L : List (List Ent)} (h : IsFold w S f L) (hL : okL 400 L) (a : Option Addr) (c : Nat) (P : Nat → Prop) (hP : ∀ b, P b → b < w.heap.size ∧ b ∉ S) (hl : LLs w P a L) (k m : Int) (s d : ByteArray) (m0 : -9223372036854775808 ≤ m) (m1 : m ≤ 9223372036854775807) (hs : s.size ≤ maxLen) (hd : d.size ≤ maxLen) :
    Calls Try.prog 12 #[.pointer (some f), fdV a L.length c, .agg #[.int .i64 k, .int .i64 m, .string s, .string d]] w (StepR w S f P (stepL L k m s d)) := by
  by_cases e0 : k = 0
  · subst e0
    rw [show stepL L 0 m s d = putF L s m from if_pos rfl]
    exact step9_0 h hL a c P hP hl m s d m0 m1 hs hd
  by_cases e1 : k = 1
  · subst e1
    rw [show stepL L 1 m s d = dropF L s by unfold stepL; rw [if_neg (by decide), if_pos rfl]]
    exact step9_1 h hL a c P hP hl m s d m0 m1 hs hd
  by_cases e2 : k = 2
  · subst e2
    rw [show stepL L 2 m s d = moveF L s d by unfold stepL; rw [if_neg (by decide), if_neg (by decide), if_pos rfl]]
    exact step9_2 h hL a c P hP hl m s d m0 m1 hs hd
  by_cases e3 : k = 3
  · subst e3
    rw [show stepL L 3 m s d = [nowL L] by unfold stepL; rw [if_neg (by decide), if_neg (by decide), if_neg (by decide), if_pos rfl]]
    exact step9_3 h hL a c P hP hl m s d
  by_cases e4 : k = 4
  · subst e4
    rw [show stepL L 4 m s d = [L.getD (pickN m L.length) []] by unfold stepL; rw [if_neg (by decide), if_neg (by decide), if_neg (by decide), if_neg (by decide), if_pos rfl]]
    exact step9_4 h hL a c P hP hl m s d m0 m1 hs hd
  · rw [show stepL L k m s d = L by unfold stepL; rw [if_neg e0, if_neg e1, if_neg e2, if_neg e3, if_neg e4]]
    exact step9_5 h a c P hP hl k m s d (beq_eq_false_iff_ne.2 e0) (beq_eq_false_iff_ne.2 e1) (beq_eq_false_iff_ne.2 e2) (beq_eq_false_iff_ne.2 e3) (beq_eq_false_iff_ne.2 e4)
theorem okL_more {M N : Nat} {L : List (List Ent)} (h : okL M L) (hN : M ≤ N) : okL N L := ⟨h.1, Nat.le_trans h.2.1 hN, fun l hl => Nat.le_trans (h.2.2 l hl) hN⟩
theorem okL_app {M : Nat} {L : List (List Ent)} {l : List Ent} (h : okL M L) (hl : l.length ≤ M + 1) : okL (M + 1) (L ++ [l]) :=
  ⟨by simp, by have := h.2.1; simp; omega, fun x hx => by
    rcases List.mem_append.1 hx with g | g
    · have := h.2.2 x g; omega
    · obtain rfl : x = l := by simpa using g
      exact hl⟩
theorem okL_one {M : Nat} {l : List Ent} (hl : l.length ≤ M + 1) : okL (M + 1) [l] := by
  refine ⟨by simp, by simp, fun x hx => ?_⟩
  have e : x = l := by simpa using hx
  rw [e]; exact hl
theorem okL_step {M : Nat} {L : List (List Ent)} (h : okL M L) (k m : Int) (s d : ByteArray) : okL (M + 1) (stepL L k m s d) := by
  have hno := okL_now h
  have hm := okL_more h (Nat.le_add_right M 1)
  unfold stepL
  split
  · unfold putF
    split
    · exact hm
    · exact okL_app h (by rw [withE_len]; omega)
  · split
    · unfold dropF
      split
      · exact okL_app h (by have := withoutE_len (nowL L) s; omega)
      · exact hm
    · split
      · unfold moveF
        split
        · exact hm
        · split
          · exact hm
          · exact okL_app h (by rw [withE_len]; have := withoutE_len (nowL L) s; have := withoutE_len (withoutE (nowL L) s) d; omega)
      · split
        · exact okL_one (by omega)
        · split
          · refine okL_one ?_
            rw [List.getD_eq_getElem?_getD]
            rcases hx : L[pickN m L.length]? with _ | x
            · simp
            · have := h.2.2 x (List.mem_of_getElem? hx)
              simp; omega
          · exact hm
end Go.Proofs.Ytpcbfkcpefcnjaa
