/-
  Joined: LawDisk5, LawDisk6.
-/
import Derived.Test.YtfgecjlccngddaaGreatJLawB
import Derived.Test.YtfgecjlccngddaaGreatJLawC
import Derived.Deep.DeepCutAuto
namespace Go.Proofs.YtfgecjlccngddaaGreat
set_option linter.unusedSimpArgs false
set_option linter.unusedVariables false
open Go.RowKit
set_option linter.unusedVariables false

/-- Nothing has turned but what is new. -/
theorem st11_same {w w2 : World} {S : List Nat} {f : Addr} {P : Nat → Prop} {D : Dsk} {a aL : Option Addr} {c cL n nL : Nat} (hF : IsDk w S f D) (hT : Tps w P a D.tp) (hL : LLs w P aL D.L) (hz : a = none → c = 0) (hn : D.tp.length = n) (hl : D.L.length = nL)
    (hP : ∀ b, P b → b < w.heap.size ∧ b ∉ S) (hb : Below w.heap.size w w2) (hs : w.heap.size + 3 ≤ w2.heap.size) :
    StepK w S f P D (.returned (.tuple #[dskV D.sec a n c aL nL cL D.fu D.calls, .bool true])) (put8 w2 (w.heap.size + 1 + 1) D.sec a n c aL nL cL D.fu D.calls) := by
  subst hn hl
  have hb3 := put8_below hb (show w.heap.size ≤ w.heap.size + 1 + 1 by omega) D.sec a D.tp.length c aL D.L.length cL D.fu D.calls
  have hsz := put8_size w2 (w.heap.size + 1 + 1) D.sec a D.tp.length c aL D.L.length cL D.fu D.calls
  obtain ⟨W', hW⟩ : ∃ W', put8 w2 (w.heap.size + 1 + 1) D.sec a D.tp.length c aL D.L.length cL D.fu D.calls = W' := ⟨_, rfl⟩
  rw [hW] at hb3 hsz ⊢
  refine ⟨_, S, rfl, hF.below hb3, .of_below hb3, fun b hb => .inl hb, ⟨a, c, aL, cL, rfl, ?_, ?_, hz⟩⟩
  · exact (hT.below (fun b hb => (hP b hb).1) hb3).more (fun b hb => ⟨.inl hb, by have := (hP b hb).1; omega, (hP b hb).2⟩)
  · exact (hL.below (fun b hb => (hP b hb).1) hb3).more (fun b hb => ⟨.inl hb, by have := (hP b hb).1; omega, (hP b hb).2⟩)
/-- What a call within has done. -/
theorem st11_call {w X w2 : World} {S S2 : List Nat} {f : Addr} {P : Nat → Prop} {D' : Dsk} {a aL : Option Addr} {c cL n nL : Nat} (hbX : Below w.heap.size w X) (hsX : X.heap.size = w.heap.size + 3) (hS : ∀ b ∈ S, b < w.heap.size)
    (hF : IsDk w2 S2 f D') (ha : Apart S X w2) (hS2 : ∀ b ∈ S2, b ∈ S ∨ X.heap.size ≤ b) (hP : ∀ b, P b → b < w.heap.size)
    (hT : Tps w2 (fun b => (P b ∨ X.heap.size ≤ b) ∧ b < w2.heap.size ∧ b ∉ S2) a D'.tp) (hL : LLs w2 (fun b => (P b ∨ X.heap.size ≤ b) ∧ b < w2.heap.size ∧ b ∉ S2) aL D'.L) (hz : a = none → c = 0) (hn : D'.tp.length = n) (hl : D'.L.length = nL) :
    StepK w S f P D' (.returned (.tuple #[dskV D'.sec a n c aL nL cL D'.fu D'.calls, .bool true])) (put8 w2 (w.heap.size + 1 + 1) D'.sec a n c aL nL cL D'.fu D'.calls) := by
  subst hn hl
  have k3 := put8_apart [w.heap.size + 1 + 1] w2 (w.heap.size + 1 + 1) (by simp) D'.sec a D'.tp.length c aL D'.L.length cL D'.fu D'.calls
  have hsz := put8_size w2 (w.heap.size + 1 + 1) D'.sec a D'.tp.length c aL D'.L.length cL D'.fu D'.calls
  have hc3 : ∀ p : Addr, p.block ≠ w.heap.size + 1 + 1 → (put8 w2 (w.heap.size + 1 + 1) D'.sec a D'.tp.length c aL D'.L.length cL D'.fu D'.calls).cell? p = w2.cell? p := fun p hp => put8_cell hp _ _ _ _ _ _ _ _ _
  obtain ⟨W', hW⟩ : ∃ W', put8 w2 (w.heap.size + 1 + 1) D'.sec a D'.tp.length c aL D'.L.length cL D'.fu D'.calls = W' := ⟨_, rfl⟩
  rw [hW] at k3 hsz hc3 ⊢
  have hne : ∀ b, (P b ∨ X.heap.size ≤ b) → b ≠ w.heap.size + 1 + 1 := fun b hb => by
    rcases hb with hb | hb
    · have := hP b hb; omega
    · omega
  refine ⟨_, S2, rfl, hF.kept k3 (fun b hb hh => ?_), ?_, fun b hb => ?_, ⟨a, c, aL, cL, rfl, ?_, ?_, hz⟩⟩
  · have e : b = w.heap.size + 1 + 1 := by simpa using hh
    rcases hS2 _ hb with g | g
    · have := hS _ g; omega
    · omega
  · refine (((Apart.of_below (S := S) hbX).trans ha (fun x hx => .inl hx)).trans k3 (fun x hx => .inr ?_))
    have e : x = w.heap.size + 1 + 1 := by simpa using hx
    omega
  · rcases hS2 _ hb with g | g
    · exact .inl g
    · exact .inr (by omega)
  · exact (hT.keep (fun p hp => hc3 p (hne _ hp.1))).more (fun b hb => ⟨hb.1.elim .inl (fun g => .inr (by omega)), by rw [hsz]; exact hb.2.1, hb.2.2⟩)
  · exact (hL.keep (fun p hp => hc3 p (hne _ hp.1))).more (fun b hb => ⟨hb.1.elim .inl (fun g => .inr (by omega)), by rw [hsz]; exact hb.2.1, hb.2.2⟩)
set_option maxRecDepth 100000 in
set_option maxHeartbeats 1600000 in
theorem change11_no {w : World} {S : List Nat} {f : Addr} {D : Dsk} {M : Nat} (h : IsDk w S f D) (hD : D.ok M) (hM : M ≤ 198) (a : Option Addr) (c : Nat) (aL : Option Addr) (cL : Nat) (P : Nat → Prop) (hP : ∀ b, P b → b < w.heap.size ∧ b ∉ S) (hT : Tps w P a D.tp) (hL : LLs w P aL D.L) (hz : a = none → c = 0) (n : Int) (s t : ByteArray) (fk fn : Int) (n0 : -9223372036854775808 ≤ n) (n1 : n ≤ 9223372036854775807) (hs : s.size ≤ maxLen) (ht : t.size ≤ maxLen) (f0 : -9223372036854775808 ≤ fk ∧ fk ≤ 9223372036854775807) (f1 : -9223372036854775808 ≤ fn ∧ fn ≤ 9223372036854775807) (k : Int) (k0 : k ≠ 0) (k1 : k ≠ 1) (k2 : k ≠ 2) (k4 : k ≠ 4) (k5 : k ≠ 5) :
    Calls Tryz.prog 58 #[.pointer (some f), dskV D.sec a D.tp.length c aL D.L.length cL D.fu D.calls, .agg (opC k n s t fk fn)] w (StepK w S f P D) := by
  have b0 : (k == 0) = false := beq_eq_false_iff_ne.2 k0
  have b1 : (k == 1) = false := beq_eq_false_iff_ne.2 k1
  have b2 : (k == 2) = false := beq_eq_false_iff_ne.2 k2
  have b4 : (k == 4) = false := beq_eq_false_iff_ne.2 k4
  have b5 : (k == 5) = false := beq_eq_false_iff_ne.2 k5
  have hSlt := h.lt
  have hP1 : ∀ b, P b → b < w.heap.size := fun b hb => (hP b hb).1
  obtain ⟨sec, tp, LL, ⟨p, s0, d0, off⟩, calls⟩ := D
  obtain ⟨nt, hnt⟩ : ∃ x, tp.length = x := ⟨_, rfl⟩
  obtain ⟨nL, hnL⟩ : ∃ x, LL.length = x := ⟨_, rfl⟩
  simp only [hnt, hnL]
  obtain ⟨bs, bl, bz⟩ := Bs11.mk w (dskC sec a nt c aL nL cL ⟨p, s0, d0, off⟩ calls) (opC k n s t fk fn)
  obtain ⟨X, hX⟩ : ∃ X, ((w.alloc (.cells (dskC sec a nt c aL nL cL ⟨p, s0, d0, off⟩ calls) 34)).alloc (.cells (opC k n s t fk fn) 40)).alloc (.cells dskZ 34) = X := ⟨_, rfl⟩
  rw [hX] at bs bl bz
  have HX := Lib.hid hX; have BS := Lib.hid bs; have BL := Lib.hid bl; have BZ := Lib.hid bz; have H := Lib.hid h; have T := Lib.hid hT; have L := Lib.hid hL; have HP := Lib.hid hP; have HNT := Lib.hid hnt; have HNL := Lib.hid hnL; have HZ := Lib.hid hz
  clear bs bl bz h hT hL hP hP1 hSlt hnt hnL hX hD hM hs ht n0 n1 f0 f1 hz k0 k1 k2 k4 k5
  go_enter Tryz.func58, Tryz.ntmps58
  go_wp2_with fail
  rw [show ((w.alloc (.cells #[.int .i64 sec, .slice a nt c, .slice aL nL cL, .int .i64 p, .int .i64 s0, .int .i64 d0, .bool off, .int .i64 calls] 34)).alloc (.cells #[.int .i64 k, .int .i64 n, .string s, .string t, .int .i64 fk, .int .i64 fn] 40)).alloc (.cells #[.int .i64 0, .slice none 0 0, .slice none 0 0, .int .i64 0, .int .i64 0, .int .i64 0, .bool false, .int .i64 0] 34) = X from HX.out]
  refine (few11_any t _).mono ?_
  rintro e w' ⟨rfl, rfl⟩
  have bs0 := BS.out
  obtain ⟨⟨_, _, _⟩, ⟨vb0, vb1, vb2, vb3, vb4, vb5, vb6, vb7, vq0, vq1, vq2, vq3, vq4, vq5, vq6, vq7⟩, ⟨vo0, vo1, vo2, vo3, vo4, vo5⟩, ⟨vk0, vk1, vk2, vk3, vk4, vk5, vk6, vk7, vr0, vr1, vr2, vr3, vr4, vr5, vr6, vr7⟩⟩ := bs0.facts
  clear bs0
  go_wp2
  refine bodyPost_ret (v := .tuple #[dskV sec a nt c aL nL cL ⟨p, s0, d0, off⟩ calls, .bool true]) (by simp [results, Tryz.results58, go_sem, vk0, vk1, vk2, vk3, vk4, vk5, vk6, vk7]) rfl ?_
  exact st11_same (D := ⟨sec, tp, LL, ⟨p, s0, d0, off⟩, calls⟩) H.out T.out L.out HZ.out HNT.out HNL.out HP.out BL.out (Nat.le_of_eq BZ.out.symm)
set_option maxRecDepth 100000 in
set_option maxHeartbeats 1600000 in
theorem step11_7 {w : World} {S : List Nat} {f : Addr} {D : Dsk} {M : Nat} (h : IsDk w S f D) (hD : D.ok M) (hM : M ≤ 198) (a : Option Addr) (c : Nat) (aL : Option Addr) (cL : Nat) (P : Nat → Prop) (hP : ∀ b, P b → b < w.heap.size ∧ b ∉ S) (hT : Tps w P a D.tp) (hL : LLs w P aL D.L) (hz : a = none → c = 0) (n : Int) (s t : ByteArray) (fk fn : Int) (n0 : -9223372036854775808 ≤ n) (n1 : n ≤ 9223372036854775807) (hs : s.size ≤ maxLen) (ht : t.size ≤ maxLen) (f0 : -9223372036854775808 ≤ fk ∧ fk ≤ 9223372036854775807) (f1 : -9223372036854775808 ≤ fn ∧ fn ≤ 9223372036854775807) :
    Calls Tryz.prog 13 #[.pointer (some f), dskV D.sec a D.tp.length c aL D.L.length cL D.fu D.calls, .agg (opC 7 n s t fk fn)] w (StepK w S f P D) := by
  have hD9 := D.ok_more hD (show M ≤ 199 by omega)
  have c1 := fun (W : World) (S : List Nat) (h : IsDk W S f D) => dkread_any h hD9 s hs
  have c2 := fun (W : World) (hPW : ∀ b, P b → b < W.heap.size) (g1 : Tps W P a D.tp) (g2 : LLs W P aL D.L) => rdread_any hD (by omega) a c aL cL s P W hPW g1 g2
  obtain ⟨⟨r, v⟩, hr⟩ : ∃ r, D.read s = r := ⟨_, rfl⟩
  simp only [hr] at c1 c2
  have hSlt := h.lt
  have hP1 : ∀ b, P b → b < w.heap.size := fun b hb => (hP b hb).1
  obtain ⟨sec, tp, LL, ⟨p, s0, d0, off⟩, calls⟩ := D
  obtain ⟨nt, hnt⟩ : ∃ x, tp.length = x := ⟨_, rfl⟩
  obtain ⟨nL, hnL⟩ : ∃ x, LL.length = x := ⟨_, rfl⟩
  simp only [hnt, hnL]
  obtain ⟨bs, bl, bz⟩ := Bs11.mk w (dskC sec a nt c aL nL cL ⟨p, s0, d0, off⟩ calls) (opC 7 n s t fk fn)
  obtain ⟨X, hX⟩ : ∃ X, ((w.alloc (.cells (dskC sec a nt c aL nL cL ⟨p, s0, d0, off⟩ calls) 34)).alloc (.cells (opC 7 n s t fk fn) 40)).alloc (.cells dskZ 34) = X := ⟨_, rfl⟩
  rw [hX] at bs bl bz
  simp only [hnt, hnL] at c2
  have HX := Lib.hid hX; have BS := Lib.hid bs; have BL := Lib.hid bl; have BZ := Lib.hid bz; have H := Lib.hid h; have T := Lib.hid hT; have L := Lib.hid hL; have HP := Lib.hid hP; have HP1 := Lib.hid hP1; have HNT := Lib.hid hnt; have HNL := Lib.hid hnL; have HZ := Lib.hid hz; have C1 := Lib.hid c1; have C2 := Lib.hid c2
  clear c1 c2 bs bl bz h hT hL hP hP1 hSlt hnt hnL hX hD hD9 hM hs ht n0 n1 f0 f1 hz hr
  go_enter Tryz.func13, Tryz.ntmps13
  go_wp2_with fail
  rw [show ((w.alloc (.cells #[.int .i64 sec, .slice a nt c, .slice aL nL cL, .int .i64 p, .int .i64 s0, .int .i64 d0, .bool off, .int .i64 calls] 34)).alloc (.cells #[.int .i64 7, .int .i64 n, .string s, .string t, .int .i64 fk, .int .i64 fn] 40)).alloc (.cells #[.int .i64 0, .slice none 0 0, .slice none 0 0, .int .i64 0, .int .i64 0, .int .i64 0, .bool false, .int .i64 0] 34) = X from HX.out]
  refine (C1.out _ _ (H.out.below BL.out)).mono ?_
  rintro e w1 ⟨rfl, hb1⟩
  have bs1 := BS.out.on hb1
  have BS1 := Lib.hid bs1; have BL1 := Lib.hid (BL.out.trans (hb1.mono BL.out.size))
  obtain ⟨⟨_, _, _⟩, ⟨xb0, xb1, xb2, xb3, xb4, xb5, xb6, xb7, xq0, xq1, xq2, xq3, xq4, xq5, xq6, xq7⟩, ⟨xo0, xo1, xo2, xo3, xo4, xo5⟩, ⟨xk0, xk1, xk2, xk3, xk4, xk5, xk6, xk7, xr0, xr1, xr2, xr3, xr4, xr5, xr6, xr7⟩⟩ := bs1.facts
  clear bs1 hb1
  go_wp2_with fail
  refine (C2.out _ (fun b hb => Nat.lt_of_lt_of_le (HP1.out b hb) BL1.out.size) (T.out.below HP1.out BL1.out) (L.out.below HP1.out BL1.out)).mono ?_
  rintro e w2 ⟨rfl, hb2⟩
  have bs2 := BS1.out.on hb2
  have BS2 := Lib.hid bs2; have BL2 := Lib.hid (BL1.out.trans (hb2.mono BL1.out.size))
  clear xb0 xb1 xb2 xb3 xb4 xb5 xb6 xb7 xq0 xq1 xq2 xq3 xq4 xq5 xq6 xq7 xo0 xo1 xo2 xo3 xo4 xo5 xk0 xk1 xk2 xk3 xk4 xk5 xk6 xk7 xr0 xr1 xr2 xr3 xr4 xr5 xr6 xr7
  obtain ⟨⟨_, _, _⟩, ⟨vb0, vb1, vb2, vb3, vb4, vb5, vb6, vb7, vq0, vq1, vq2, vq3, vq4, vq5, vq6, vq7⟩, ⟨vo0, vo1, vo2, vo3, vo4, vo5⟩, ⟨vk0, vk1, vk2, vk3, vk4, vk5, vk6, vk7, vr0, vr1, vr2, vr3, vr4, vr5, vr6, vr7⟩⟩ := bs2.facts
  clear bs2 hb2
  go_wp2
  refine bodyPost_ret (v := .tuple #[dskV sec a nt c aL nL cL ⟨p, s0, d0, off⟩ calls, .bool true]) (by simp [results, Tryz.results13, go_sem, vk0, vk1, vk2, vk3, vk4, vk5, vk6, vk7]) rfl ?_
  exact st11_same (D := ⟨sec, tp, LL, ⟨p, s0, d0, off⟩, calls⟩) H.out T.out L.out HZ.out HNT.out HNL.out HP.out BL2.out BS2.out.1
set_option maxRecDepth 100000 in
set_option maxHeartbeats 1600000 in
theorem step11_else {w : World} {S : List Nat} {f : Addr} {D : Dsk} {M : Nat} (h : IsDk w S f D) (hD : D.ok M) (hM : M ≤ 198) (a : Option Addr) (c : Nat) (aL : Option Addr) (cL : Nat) (P : Nat → Prop) (hP : ∀ b, P b → b < w.heap.size ∧ b ∉ S) (hT : Tps w P a D.tp) (hL : LLs w P aL D.L) (hz : a = none → c = 0) (n : Int) (s t : ByteArray) (fk fn : Int) (n0 : -9223372036854775808 ≤ n) (n1 : n ≤ 9223372036854775807) (hs : s.size ≤ maxLen) (ht : t.size ≤ maxLen) (f0 : -9223372036854775808 ≤ fk ∧ fk ≤ 9223372036854775807) (f1 : -9223372036854775808 ≤ fn ∧ fn ≤ 9223372036854775807) (k : Int) (k3 : k ≠ 3) (k6 : k ≠ 6) (k7 : k ≠ 7) (k8 : k ≠ 8) (k9 : k ≠ 9) (D2 : Dsk)
    (cc : ∀ (W : World) (Q : Nat → Prop), IsDk W S f D → (∀ b, Q b → b < W.heap.size ∧ b ∉ S) → Tps W Q a D.tp → LLs W Q aL D.L → Calls Tryz.prog 58 #[.pointer (some f), dskV D.sec a D.tp.length c aL D.L.length cL D.fu D.calls, .agg (opC k n s t fk fn)] W (StepK W S f Q D2)) :
    Calls Tryz.prog 13 #[.pointer (some f), dskV D.sec a D.tp.length c aL D.L.length cL D.fu D.calls, .agg (opC k n s t fk fn)] w (StepK w S f P D2) := by
  have b3 : (k == 3) = false := beq_eq_false_iff_ne.2 k3
  have b6 : (k == 6) = false := beq_eq_false_iff_ne.2 k6
  have b7 : (k == 7) = false := beq_eq_false_iff_ne.2 k7
  have b8 : (k == 8) = false := beq_eq_false_iff_ne.2 k8
  have b9 : (k == 9) = false := beq_eq_false_iff_ne.2 k9
  have hSlt := h.lt
  have hP1 : ∀ b, P b → b < w.heap.size := fun b hb => (hP b hb).1
  obtain ⟨sec, tp, LL, ⟨p, s0, d0, off⟩, calls⟩ := D
  obtain ⟨nt, hnt⟩ : ∃ x, tp.length = x := ⟨_, rfl⟩
  obtain ⟨nL, hnL⟩ : ∃ x, LL.length = x := ⟨_, rfl⟩
  simp only [hnt, hnL]
  obtain ⟨bs, bl, bz⟩ := Bs11.mk w (dskC sec a nt c aL nL cL ⟨p, s0, d0, off⟩ calls) (opC k n s t fk fn)
  obtain ⟨X, hX⟩ : ∃ X, ((w.alloc (.cells (dskC sec a nt c aL nL cL ⟨p, s0, d0, off⟩ calls) 34)).alloc (.cells (opC k n s t fk fn) 40)).alloc (.cells dskZ 34) = X := ⟨_, rfl⟩
  rw [hX] at bs bl bz
  simp only [hnt, hnL] at cc
  have hc := cc X P (h.below bl) (fun b hb => ⟨Nat.lt_of_lt_of_le (hP1 b hb) bl.size, (hP b hb).2⟩) (hT.below hP1 bl) (hL.below hP1 bl)
  obtain ⟨sec2, tp2, LL2, ⟨p2, s2, d2, off2⟩, calls2⟩ := D2
  obtain ⟨nt2, hnt2⟩ : ∃ x, tp2.length = x := ⟨_, rfl⟩
  obtain ⟨nL2, hnL2⟩ : ∃ x, LL2.length = x := ⟨_, rfl⟩
  have HX := Lib.hid hX; have BS := Lib.hid bs; have BL := Lib.hid bl; have BZ := Lib.hid bz; have HP1 := Lib.hid hP1; have HS := Lib.hid hSlt; have C := Lib.hid hc; have HN2 := Lib.hid hnt2; have HL2 := Lib.hid hnL2
  clear cc hc bs bl bz h hT hL hP hP1 hSlt hnt hnL hX hD hM hs ht n0 n1 f0 f1 hz k3 k6 k7 k8 k9 hnt2 hnL2
  go_enter Tryz.func13, Tryz.ntmps13
  go_wp2_with fail
  rw [show ((w.alloc (.cells #[.int .i64 sec, .slice a nt c, .slice aL nL cL, .int .i64 p, .int .i64 s0, .int .i64 d0, .bool off, .int .i64 calls] 34)).alloc (.cells #[.int .i64 k, .int .i64 n, .string s, .string t, .int .i64 fk, .int .i64 fn] 40)).alloc (.cells #[.int .i64 0, .slice none 0 0, .slice none 0 0, .int .i64 0, .int .i64 0, .int .i64 0, .bool false, .int .i64 0] 34) = X from HX.out]
  refine C.out.mono ?_
  rintro e w2 ⟨q, S2, rfl, hF, hA, hS2, ⟨a2, c2', aL2, cL2, rfl, hT2, hL2, hz2⟩⟩
  have hbs2 := BS.out.apart hA HS.out
  obtain ⟨⟨_, _, _⟩, ⟨vb0, vb1, vb2, vb3, vb4, vb5, vb6, vb7, vq0, vq1, vq2, vq3, vq4, vq5, vq6, vq7⟩, ⟨vo0, vo1, vo2, vo3, vo4, vo5⟩, ⟨vk0, vk1, vk2, vk3, vk4, vk5, vk6, vk7, vr0, vr1, vr2, vr3, vr4, vr5, vr6, vr7⟩⟩ := hbs2.facts
  have HF := Lib.hid hF; have HA := Lib.hid hA; have HS2 := Lib.hid hS2; have T2 := Lib.hid hT2; have L2 := Lib.hid hL2; have Z2 := Lib.hid hz2
  simp only [HN2.out, HL2.out]
  clear hF hA hS2 hT2 hL2 hz2 hbs2 C
  go_wp2
  refine bodyPost_ret (v := .tuple #[dskV sec2 a2 nt2 c2' aL2 nL2 cL2 ⟨p2, s2, d2, off2⟩ calls2, .bool true]) (by simp [results, Tryz.results13, go_sem, vk0, vk1, vk2, vk3, vk4, vk5, vk6, vk7]) rfl ?_
  exact st11_call (D' := ⟨sec2, tp2, LL2, ⟨p2, s2, d2, off2⟩, calls2⟩) BL.out BZ.out HS.out HF.out HA.out HS2.out HP1.out T2.out L2.out Z2.out HN2.out HL2.out
end Go.Proofs.YtfgecjlccngddaaGreat
namespace Go.Proofs.YtfgecjlccngddaaGreat
set_option linter.unusedSimpArgs false
set_option linter.unusedVariables false
open Go.RowKit
set_option linter.unusedVariables false

theorem cr_draw {X w1 : World} (h : Below X.drew.heap.size X.drew w1) : Below X.heap.size X w1 := ⟨h.os, h.tape, h.output, h.size, h.block⟩
set_option maxRecDepth 100000 in
set_option maxHeartbeats 3200000 in
theorem step11_9 {w : World} {S : List Nat} {f : Addr} {D : Dsk} {M : Nat} (h : IsDk w S f D) (hD : D.ok M) (hM : M ≤ 198) (a : Option Addr) (c : Nat) (aL : Option Addr) (cL : Nat) (P : Nat → Prop) (hP : ∀ b, P b → b < w.heap.size ∧ b ∉ S) (hT : Tps w P a D.tp) (hL : LLs w P aL D.L) (hz : a = none → c = 0) (n : Int) (s t : ByteArray) (fk fn : Int) (n0 : -9223372036854775808 ≤ n) (n1 : n ≤ 9223372036854775807) (hs : s.size ≤ maxLen) (ht : t.size ≤ maxLen) (f0 : -9223372036854775808 ≤ fk ∧ fk ≤ 9223372036854775807) (f1 : -9223372036854775808 ≤ fn ∧ fn ≤ 9223372036854775807) :
    Calls Tryz.prog 13 #[.pointer (some f), dskV D.sec a D.tp.length c aL D.L.length cL D.fu D.calls, .agg (opC 9 n s t fk fn)] w (StepK w S f P (D.crash (fewD t)).1) := by
  have hD9 := D.ok_more hD (show M ≤ 199 by omega)
  have htf := fewD_size t
  have hft : (fewD t).size ≤ maxLen := by unfold maxLen; omega
  have c1 := fun (W : World) (hPW : ∀ b, P b → b < W.heap.size) (g1 : Tps W P a D.tp) (g2 : LLs W P aL D.L) => rdcrash_any (D.ok_up hD) (by omega) (by omega) a c aL cL (fewD t) hft P W hPW g1 g2 hz
  have c2 := fun (W : World) (S : List Nat) (h : IsDk W S f D) => dkcrash_any h hD9 (fewD t) htf
  obtain ⟨D2, hr⟩ : ∃ r, (D.crash (fewD t)).1 = r := ⟨_, rfl⟩
  obtain ⟨v, hv⟩ : ∃ v : Int, (((D.crash (fewD t)).2 : Nat) : Int) = v := ⟨_, rfl⟩
  simp only [hr, hv] at c1 c2 ⊢
  have hSlt := h.lt
  have hP1 : ∀ b, P b → b < w.heap.size := fun b hb => (hP b hb).1
  obtain ⟨sec, tp, LL, ⟨p, s0, d0, off⟩, calls⟩ := D
  obtain ⟨nt, hnt⟩ : ∃ x, tp.length = x := ⟨_, rfl⟩
  obtain ⟨nL, hnL⟩ : ∃ x, LL.length = x := ⟨_, rfl⟩
  simp only [hnt, hnL]
  obtain ⟨bs, bl, bz⟩ := Bs11.mk w (dskC sec a nt c aL nL cL ⟨p, s0, d0, off⟩ calls) (opC 9 n s t fk fn)
  obtain ⟨X, hX⟩ : ∃ X, ((w.alloc (.cells (dskC sec a nt c aL nL cL ⟨p, s0, d0, off⟩ calls) 34)).alloc (.cells (opC 9 n s t fk fn) 40)).alloc (.cells dskZ 34) = X := ⟨_, rfl⟩
  rw [hX] at bs bl bz
  simp only [hnt, hnL] at c1
  obtain ⟨sec2, tp2, LL2, ⟨p2, s2, d2, off2⟩, calls2⟩ := D2
  obtain ⟨nt2, hnt2⟩ : ∃ x, tp2.length = x := ⟨_, rfl⟩
  obtain ⟨nL2, hnL2⟩ : ∃ x, LL2.length = x := ⟨_, rfl⟩
  have HX := Lib.hid hX; have BS := Lib.hid bs; have BL := Lib.hid bl; have BZ := Lib.hid bz; have H := Lib.hid h; have T := Lib.hid hT; have L := Lib.hid hL; have HP := Lib.hid hP; have HP1 := Lib.hid hP1; have HS := Lib.hid hSlt; have C1 := Lib.hid c1; have C2 := Lib.hid c2; have HN2 := Lib.hid hnt2; have HL2 := Lib.hid hnL2
  clear c1 c2 bs bl bz h hT hL hP hP1 hSlt hnt hnL hX hD hD9 hM hs ht n0 n1 f0 f1 hz hr hv htf hft hnt2 hnL2
  go_enter Tryz.func13, Tryz.ntmps13
  go_wp2_with fail
  rw [show ((w.alloc (.cells #[.int .i64 sec, .slice a nt c, .slice aL nL cL, .int .i64 p, .int .i64 s0, .int .i64 d0, .bool off, .int .i64 calls] 34)).alloc (.cells #[.int .i64 9, .int .i64 n, .string s, .string t, .int .i64 fk, .int .i64 fn] 40)).alloc (.cells #[.int .i64 0, .slice none 0 0, .slice none 0 0, .int .i64 0, .int .i64 0, .int .i64 0, .bool false, .int .i64 0] 34) = X from HX.out]
  have bs0 := BS.out
  obtain ⟨⟨_, _, _⟩, ⟨xb0, xb1, xb2, xb3, xb4, xb5, xb6, xb7, xq0, xq1, xq2, xq3, xq4, xq5, xq6, xq7⟩, ⟨xo0, xo1, xo2, xo3, xo4, xo5⟩, ⟨xk0, xk1, xk2, xk3, xk4, xk5, xk6, xk7, xr0, xr1, xr2, xr3, xr4, xr5, xr6, xr7⟩⟩ := bs0.facts
  clear bs0
  go_cut [13] from 87 to 94 (fun u wx => u = .int .i64 v ∧ ∃ w1 a2 c2' aL2 cL2, wx = ((((((((w1.setCell ⟨w.heap.size, 0, none⟩ (.int .i64 sec2)).setCell ⟨w.heap.size, 1, none⟩ (.slice a2 nt2 c2')).setCell ⟨w.heap.size, 2, none⟩ (.slice aL2 nL2 cL2)).setCell ⟨w.heap.size, 3, none⟩ (.int .i64 p2)).setCell ⟨w.heap.size, 4, none⟩ (.int .i64 s2)).setCell ⟨w.heap.size, 5, none⟩ (.int .i64 d2)).setCell ⟨w.heap.size, 6, none⟩ (.bool off2)).setCell ⟨w.heap.size, 7, none⟩ (.int .i64 calls2)) ∧ Below X.heap.size X w1 ∧ Tps w1 (Grow P X.heap.size w1.heap.size) a2 tp2 ∧ LLs w1 (Grow P X.heap.size w1.heap.size) aL2 LL2 ∧ (a2 = none → c2' = 0))
  case first =>
    go_region_with (first
      | (go_at_call 18; refine (few11_any t _).mono ?_; rintro e w' ⟨rfl, rfl⟩)
      | (go_at_call 57; refine (C1.out X.drew (fun b hb => Nat.lt_of_lt_of_le (HP1.out b hb) BL.out.size) (T.out.below HP1.out BL.out.drew) (L.out.below HP1.out BL.out.drew)).mono ?_; rintro e w1 ⟨qv, rfl, ⟨a2, c2', aL2, cL2, rfl, hT2, hL2, hz2⟩, hb1⟩; have hb1 := cr_draw hb1; have hbs1 := BS.out.on hb1; obtain ⟨⟨_, _, _⟩, ⟨yb0, yb1, yb2, yb3, yb4, yb5, yb6, yb7, yq0, yq1, yq2, yq3, yq4, yq5, yq6, yq7⟩, ⟨yo0, yo1, yo2, yo3, yo4, yo5⟩, ⟨yk0, yk1, yk2, yk3, yk4, yk5, yk6, yk7, yr0, yr1, yr2, yr3, yr4, yr5, yr6, yr7⟩⟩ := hbs1.facts; have HB1 := Lib.hid hb1; have T2 := Lib.hid hT2; have L2 := Lib.hid hL2; have Z2 := Lib.hid hz2; simp only [HN2.out, HL2.out]; clear hb1 hT2 hL2 hz2 hbs1))
    all_goals
      go_wp2_with fail
      go_meet
      exact ⟨rfl, w1, a2, c2', aL2, cL2, rfl, HB1.out, T2.out, L2.out, Z2.out⟩
  case rest =>
    obtain ⟨rfl, w1, a2, c2', aL2, cL2, hwc, hb1, hT2, hL2, hz2⟩ := hcut
    clear xb0 xb1 xb2 xb3 xb4 xb5 xb6 xb7 xq0 xq1 xq2 xq3 xq4 xq5 xq6 xq7 xo0 xo1 xo2 xo3 xo4 xo5 xk0 xk1 xk2 xk3 xk4 xk5 xk6 xk7 xr0 xr1 xr2 xr3 xr4 xr5 xr6 xr7
    have hbs1 := BS.out.on hb1
    obtain ⟨Y, hY, hbsY, hbY, hcY, hsY⟩ := put8_world hbs1 (BL.out.trans (hb1.mono BL.out.size)) sec2 a2 nt2 c2' aL2 nL2 cL2 p2 s2 d2 off2 calls2
    rw [hwc, hY]
    clear hwc hY
    have hFY := H.out.below hbY
    have BSY := Lib.hid hbsY; have HBY := Lib.hid hbY; have HCY := Lib.hid hcY; have HSY := Lib.hid hsY; have HFY := Lib.hid hFY
    have HB1 := Lib.hid hb1; have T2 := Lib.hid hT2; have L2 := Lib.hid hL2; have Z2 := Lib.hid hz2
    clear hbs1 hbY hcY hsY hFY hb1 hT2 hL2 hz2
    have hbsZ : Bs11 w (dskC sec2 a2 nt2 c2' aL2 nL2 cL2 ⟨p2, s2, d2, off2⟩ calls2) (opC 9 n s t fk fn) Y := hbsY
    obtain ⟨⟨_, _, _⟩, ⟨zb0, zb1, zb2, zb3, zb4, zb5, zb6, zb7, zq0, zq1, zq2, zq3, zq4, zq5, zq6, zq7⟩, ⟨zo0, zo1, zo2, zo3, zo4, zo5⟩, ⟨zk0, zk1, zk2, zk3, zk4, zk5, zk6, zk7, zr0, zr1, zr2, zr3, zr4, zr5, zr6, zr7⟩⟩ := hbsZ.facts
    clear hbsY hbsZ
    go_wp2_with fail
    go_region_with (first
      | (go_at_call 18; refine (few11_any t _).mono ?_; rintro e w' ⟨rfl, rfl⟩)
      | (go_at_call 12; refine (C2.out _ _ HFY.out).mono ?_; rintro e w2 ⟨rfl, S2, hF2, hA2, hS2⟩; have hbs2 := BSY.out.apart hA2 HS.out; obtain ⟨⟨_, _, _⟩, ⟨vb0, vb1, vb2, vb3, vb4, vb5, vb6, vb7, vq0, vq1, vq2, vq3, vq4, vq5, vq6, vq7⟩, ⟨vo0, vo1, vo2, vo3, vo4, vo5⟩, ⟨vk0, vk1, vk2, vk3, vk4, vk5, vk6, vk7, vr0, vr1, vr2, vr3, vr4, vr5, vr6, vr7⟩⟩ := hbs2.facts; have HF2 := Lib.hid hF2; have HA2 := Lib.hid hA2; have HS2 := Lib.hid hS2; clear hF2 hA2 hS2 hbs2))
    all_goals
      go_wp2
      have hend := st11_end (cL := cL2) (D' := ⟨sec2, tp2, LL2, ⟨p2, s2, d2, off2⟩, calls2⟩) BL.out BZ.out HB1.out HCY.out HBY.out HSY.out T2.out L2.out Z2.out HN2.out HL2.out HP.out HS.out HF2.out HA2.out HS2.out
      exact bodyPost_ret (v := .tuple #[dskV sec2 a2 nt2 c2' aL2 nL2 cL2 ⟨p2, s2, d2, off2⟩ calls2, .bool true]) (by simp [results, Tryz.results13, go_sem, vk0, vk1, vk2, vk3, vk4, vk5, vk6, vk7]) rfl hend
/-- What a step makes of the disk. -/
def stepD (D : Dsk) (k n : Int) (s t : ByteArray) (fk fn : Int) : Dsk :=
  if k = 0 then (D.create s).1 else if k = 1 then (D.append s (fewD t)).1 else if k = 2 then (D.cut s n).1 else if k = 3 then (D.sync s).1 else if k = 4 then (D.rename s t).1 else if k = 5 then (D.remove s).1
  else if k = 6 then (D.syncAll).1 else if k = 8 then (D.fault fk fn).1 else if k = 9 then (D.crash (fewD t)).1 else D
theorem stepD_ok {M : Nat} {D : Dsk} (h : D.ok M) (k n : Int) (s t : ByteArray) (fk fn : Int) (hfn : fn ≤ 9223372036854775807) : (stepD D k n s t fk fn).ok (M + 1) := by
  have hf := fewD_size t
  unfold stepD
  split; · exact D.create_ok h s
  split; · exact D.append_ok h s _ hf
  split; · exact D.cut_ok h s n
  split; · exact D.sync_ok h s
  split; · exact D.rename_ok h s t
  split; · exact D.remove_ok h s
  split; · exact D.syncAll_ok h
  split; · exact D.fault_ok h fk fn hfn
  split; · exact D.crash_ok h _
  exact D.ok_up h
theorem step11_any {w : World} {S : List Nat} {f : Addr} {D : Dsk} {M : Nat} (h : IsDk w S f D) (hD : D.ok M) (hM : M ≤ 198) (a : Option Addr) (c : Nat) (aL : Option Addr) (cL : Nat) (P : Nat → Prop) (hP : ∀ b, P b → b < w.heap.size ∧ b ∉ S) (hT : Tps w P a D.tp) (hL : LLs w P aL D.L) (hz : a = none → c = 0) (n : Int) (s t : ByteArray) (fk fn : Int) (n0 : -9223372036854775808 ≤ n) (n1 : n ≤ 9223372036854775807) (hs : s.size ≤ maxLen) (ht : t.size ≤ maxLen) (f0 : -9223372036854775808 ≤ fk ∧ fk ≤ 9223372036854775807) (f1 : -9223372036854775808 ≤ fn ∧ fn ≤ 9223372036854775807) (k : Int) :
    Calls Tryz.prog 13 #[.pointer (some f), dskV D.sec a D.tp.length c aL D.L.length cL D.fu D.calls, .agg (opC k n s t fk fn)] w (StepK w S f P (stepD D k n s t fk fn)) := by
  by_cases k3 : k = 3
  · subst k3; exact step11_3 h hD hM a c aL cL P hP hT hL hz n s t fk fn n0 n1 hs ht f0 f1
  by_cases k6 : k = 6
  · subst k6; exact step11_6 h hD hM a c aL cL P hP hT hL hz n s t fk fn n0 n1 hs ht f0 f1
  by_cases k7 : k = 7
  · subst k7; exact step11_7 h hD hM a c aL cL P hP hT hL hz n s t fk fn n0 n1 hs ht f0 f1
  by_cases k8 : k = 8
  · subst k8; exact step11_8 h hD hM a c aL cL P hP hT hL hz n s t fk fn n0 n1 hs ht f0 f1
  by_cases k9 : k = 9
  · subst k9; exact step11_9 h hD hM a c aL cL P hP hT hL hz n s t fk fn n0 n1 hs ht f0 f1
  refine step11_else h hD hM a c aL cL P hP hT hL hz n s t fk fn n0 n1 hs ht f0 f1 k k3 k6 k7 k8 k9 _ fun W Q hW hQ gT gL => ?_
  by_cases k0 : k = 0
  · subst k0; exact change11_0 hW hD hM a c aL cL Q hQ gT gL hz n s t fk fn n0 n1 hs ht f0 f1
  by_cases k1 : k = 1
  · subst k1; exact change11_1 hW hD hM a c aL cL Q hQ gT gL hz n s t fk fn n0 n1 hs ht f0 f1
  by_cases k2 : k = 2
  · subst k2; exact change11_2 hW hD hM a c aL cL Q hQ gT gL hz n s t fk fn n0 n1 hs ht f0 f1
  by_cases k4 : k = 4
  · subst k4; exact change11_4 hW hD hM a c aL cL Q hQ gT gL hz n s t fk fn n0 n1 hs ht f0 f1
  by_cases k5 : k = 5
  · subst k5; exact change11_5 hW hD hM a c aL cL Q hQ gT gL hz n s t fk fn n0 n1 hs ht f0 f1
  have e : stepD D k n s t fk fn = D := by
    unfold stepD
    rw [if_neg k0, if_neg k1, if_neg k2, if_neg k3, if_neg k4, if_neg k5, if_neg k6, if_neg k8, if_neg k9]
  rw [e]
  exact change11_no hW hD hM a c aL cL Q hQ gT gL hz n s t fk fn n0 n1 hs ht f0 f1 k k0 k1 k2 k4 k5
end Go.Proofs.YtfgecjlccngddaaGreat
