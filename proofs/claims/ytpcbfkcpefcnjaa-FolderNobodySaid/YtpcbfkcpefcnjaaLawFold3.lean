/-
  A step of the law of layer 9: a folder and its lists go on alike.
-/
import Derived.Test.YtpcbfkcpefcnjaaLawFold2
import Derived.Deep.RegionWith
namespace Go.Proofs.Ytpcbfkcpefcnjaa
open Go.RowKit
set_option linter.unusedVariables false

/-- A step: the folder and the lists are these then, and lie apart. -/
def StepR (w : World) (S : List Nat) (f : Addr) (P : Nat → Prop) (L' : List (List Ent)) (e : Ending) (w' : World) : Prop :=
  ∃ a' c' S', e = .returned (.tuple #[fdV a' L'.length c', .bool true]) ∧ IsFold w' S' f L' ∧ Apart S w w' ∧ (∀ b ∈ S', b ∈ S ∨ w.heap.size ≤ b) ∧ LLs w' (fun b => (P b ∨ w.heap.size ≤ b) ∧ b < w'.heap.size ∧ b ∉ S') a' L'
/-- The boxes of a step. -/
structure St9 (w X : World) (a : Option Addr) (n c : Nat) (k m : Int) (s d : ByteArray) : Prop where
  bel : Below w.heap.size w X
  size : X.heap.size = w.heap.size + 3
  q : X.cell? ⟨w.heap.size, 0, none⟩ = some (.slice a n c)
  o1 : X.cell? ⟨w.heap.size + 1, 1, none⟩ = some (.int .i64 m)
  o2 : X.cell? ⟨w.heap.size + 1, 2, none⟩ = some (.string s)
  o3 : X.cell? ⟨w.heap.size + 1, 3, none⟩ = some (.string d)
  r : X.cell? ⟨w.heap.size + 1 + 1, 0, none⟩ = some (.slice none 0 0)
  z : X.frozen? ⟨w.heap.size + 1 + 1, 0, none⟩ = false
abbrev box9 (w : World) (a : Option Addr) (n c : Nat) (k m : Int) (s d : ByteArray) : World :=
  ((w.alloc (.cells #[.slice a n c] 28)).alloc (.cells #[.int .i64 k, .int .i64 m, .string s, .string d] 31)).alloc (.cells #[.slice none 0 0] 28)
theorem st9_mk (w : World) (a : Option Addr) (n c : Nat) (k m : Int) (s d : ByteArray) : St9 w (box9 w a n c k m s d) a n c k m s d := by
  have hq : (box9 w a n c k m s d).cell? ⟨w.heap.size, 0, none⟩ = some (.slice a n c) :=
    ((((Below.refl (w.heap.size + 1) (w.alloc (.cells #[.slice a n c] 28))).alloc (by simp) (.cells #[.int .i64 k, .int .i64 m, .string s, .string d] 31)).alloc (by simp) (.cells #[.slice none 0 0] 28)).cell (p := ⟨w.heap.size, 0, none⟩) (by simp)).trans (by simp [World.cell?_alloc_new])
  refine ⟨(((Below.refl _ _).alloc (Nat.le_refl _) _).alloc (by simp) _).alloc (by simp; omega) _, by simp, hq, ?_, ?_, ?_, ?_, World.frozen?_alloc_at _ _ _ _ (by show _ = ((w.alloc _).alloc _).heap.size; simp)⟩ <;> simp [box9, World.cell?_alloc_past, World.cell?_alloc_at]
/-- What a step leans on behind the calls. -/
def Bd9 (w : World) (g : Nat) (a' : Option Addr) (n' c' : Nat) (m : Int) (s d : ByteArray) (W : World) : Prop :=
  W.cell? ⟨g, 0, none⟩ = some (.slice a' n' c') ∧ W.cell? ⟨w.heap.size + 1, 1, none⟩ = some (.int .i64 m) ∧ W.cell? ⟨w.heap.size + 1, 2, none⟩ = some (.string s) ∧ W.cell? ⟨w.heap.size + 1, 3, none⟩ = some (.string d) ∧
  W.cell? ⟨w.heap.size + 1 + 1, 0, none⟩ = some (.slice none 0 0) ∧ W.frozen? ⟨w.heap.size + 1 + 1, 0, none⟩ = false
theorem bd9_mk {w X w1 : World} {a a' : Option Addr} {n c n' c' : Nat} {k m : Int} {s d : ByteArray} (h : St9 w X a n c k m s d) (hb : Below X.heap.size X w1) : Bd9 w w1.heap.size a' n' c' m s d (w1.alloc (.cells #[.slice a' n' c'] 28)).drew := by
  have hz := h.size
  have hz1 := hb.size
  have hb2 := hb.trans (((Below.refl w1.heap.size w1).alloc (Nat.le_refl _) (.cells #[.slice a' n' c'] 28)).mono hz1)
  refine ⟨?_, (hb2.cell (by dsimp only; omega)).trans h.o1, (hb2.cell (by dsimp only; omega)).trans h.o2, (hb2.cell (by dsimp only; omega)).trans h.o3, (hb2.cell (by dsimp only; omega)).trans h.r, (hb2.frozen (by dsimp only; omega)).trans h.z⟩
  show (w1.alloc _).cell? _ = _
  simp [World.cell?_alloc_at]
theorem bd9_on {w Y w2 : World} {S : List Nat} {g : Nat} {a' : Option Addr} {n' c' : Nat} {m : Int} {s d : ByteArray} (h : Bd9 w g a' n' c' m s d Y) (hS : ∀ b ∈ S, b < w.heap.size) (ha : Apart S Y w2) (hg : w.heap.size ≤ g) (hgY : g < Y.heap.size) (hY : w.heap.size + 3 ≤ Y.heap.size) : Bd9 w g a' n' c' m s d w2 := by
  obtain ⟨h0, h1, h2, h3, h4, h5⟩ := h
  have ng : g ∉ S := fun hh => by have := hS _ hh; omega
  have n1 : w.heap.size + 1 ∉ S := fun hh => by have := hS _ hh; omega
  have n2 : w.heap.size + 1 + 1 ∉ S := fun hh => by have := hS _ hh; omega
  exact ⟨(ha.cell (p := ⟨g, 0, none⟩) hgY ng).trans h0, (ha.cell (p := ⟨w.heap.size + 1, 1, none⟩) (by dsimp only; omega) n1).trans h1, (ha.cell (p := ⟨w.heap.size + 1, 2, none⟩) (by dsimp only; omega) n1).trans h2, (ha.cell (p := ⟨w.heap.size + 1, 3, none⟩) (by dsimp only; omega) n1).trans h3, (ha.cell (p := ⟨w.heap.size + 1 + 1, 0, none⟩) (by dsimp only; omega) n2).trans h4, (ha.frozen (p := ⟨w.heap.size + 1 + 1, 0, none⟩) (by dsimp only; omega) n2).trans h5⟩
theorem cell_other {w : World} {p q : Addr} (h : p.block ≠ q.block) (u : Value) : (w.setCell q u).cell? p = w.cell? p := World.cell?_setCell_other _ _ _ _ (fun e => h (by rw [e]))
theorem st9_end {w X w1 Y w2 : World} {S S2 : List Nat} {f : Addr} {P : Nat → Prop} {a a' : Option Addr} {n c c' : Nat} {k m : Int} {s d : ByteArray} {L' : List (List Ent)}
    (hst : St9 w X a n c k m s d) (hb1 : Below X.heap.size X w1) (hbY : Below w1.heap.size w1 Y) (hl : LLs w1 (Grow P X.heap.size w1.heap.size) a' L') (hP : ∀ b, P b → b < w.heap.size ∧ b ∉ S) (hS : ∀ b ∈ S, b < w.heap.size)
    (hF : IsFold w2 S2 f L') (ha : Apart S Y w2) (hS2 : ∀ b ∈ S2, b ∈ S ∨ Y.heap.size ≤ b) :
    StepR w S f P L' (.returned (.tuple #[fdV a' L'.length c', .bool true])) (w2.setCell ⟨w.heap.size + 1 + 1, 0, none⟩ (.slice a' L'.length c')) := by
  have hz := hst.size
  have hz1 := hb1.size
  have hzY := hbY.size
  have hz2 := ha.size
  have hsz : (w2.setCell ⟨w.heap.size + 1 + 1, 0, none⟩ (.slice a' L'.length c')).heap.size = w2.heap.size := by simp
  have k3 : Apart [w.heap.size + 1 + 1] w2 (w2.setCell ⟨w.heap.size + 1 + 1, 0, none⟩ (.slice a' L'.length c')) := (Apart.refl [w.heap.size + 1 + 1] w2).setCell (p := ⟨w.heap.size + 1 + 1, 0, none⟩) (.inl (List.mem_singleton.2 rfl)) _
  have hG : ∀ b, Grow P X.heap.size w1.heap.size b → (P b ∨ w.heap.size ≤ b) ∧ b < w1.heap.size ∧ b ∉ S ∧ b ∉ S2 ∧ b ≠ w.heap.size + 1 + 1 := fun b hb => by
    have hlt : b < w1.heap.size := by
      rcases hb with hb | hb
      · have := (hP b hb).1; omega
      · exact hb.2
    have hnS : b ∉ S := fun hh => by
      have := hS _ hh
      rcases hb with hb | hb
      · exact (hP b hb).2 hh
      · omega
    refine ⟨?_, hlt, hnS, fun hh => ?_, ?_⟩
    · rcases hb with hb | hb
      · exact .inl hb
      · exact .inr (by omega)
    · rcases hS2 _ hh with g | g
      · exact hnS g
      · omega
    · rcases hb with hb | hb
      · have := (hP b hb).1; omega
      · omega
  refine ⟨a', c', S2, rfl, hF.kept k3 (fun b hb hh => ?_), ?_, fun b hb => ?_, ?_⟩
  · have e : b = w.heap.size + 1 + 1 := by simpa using hh
    rcases hS2 _ hb with g | g
    · have := hS _ g; omega
    · omega
  · refine (((Apart.of_below (S := S) (hst.bel.trans ((hb1.trans (hbY.mono hz1)).mono (by omega)))).trans ha (fun x hx => .inl hx)).trans k3 (fun x hx => .inr ?_))
    have e : x = w.heap.size + 1 + 1 := by simpa using hx
    omega
  · rcases hS2 _ hb with g | g
    · exact .inl g
    · exact .inr (by omega)
  · refine (hl.keep (fun p hp => ?_)).more (fun b hb => ⟨(hG b hb).1, by rw [hsz]; have := (hG b hb).2.1; omega, (hG b hb).2.2.2.1⟩)
    obtain ⟨_, h1, h2, _, h4⟩ := hG _ hp
    exact (cell_other h4 _).trans ((ha.cell (by omega) h2).trans (hbY.cell h1))

set_option maxRecDepth 100000 in
set_option maxHeartbeats 1600000 in
theorem step9_0 {w : World} {S : List Nat} {f : Addr} {L : List (List Ent)} (h : IsFold w S f L) (hL : okL 400 L) (a : Option Addr) (c : Nat) (P : Nat → Prop) (hP : ∀ b, P b → b < w.heap.size ∧ b ∉ S) (hl : LLs w P a L) (m : Int) (s d : ByteArray) (m0 : -9223372036854775808 ≤ m) (m1 : m ≤ 9223372036854775807) (hs : s.size ≤ maxLen) (hd : d.size ≤ maxLen) :
    Calls Try.prog 12 #[.pointer (some f), fdV a L.length c, .agg #[.int .i64 0, .int .i64 m, .string s, .string d]] w (StepR w S f P (putF L s m)) := by
  have hL5 : okL 500 L := ⟨hL.1, by have := hL.2.1; omega, fun l hl => by have := hL.2.2 l hl; omega⟩
  have hno := okL_now hL
  have hSlt := h.lt
  have hP1 : ∀ b, P b → b < w.heap.size := fun b hb => (hP b hb).1
  have st := st9_mk w a L.length c 0 m s d
  have c1 := fun (W : World) (hPW : ∀ b, P b → b < W.heap.size) (h : LLs W P a L) => rput9_any a L c s m P W hPW h hL.1 (by have := hL.2.1; omega) (by omega)
  have c2 := fun (W : World) (S : List Nat) (h : IsFold W S f L) => foput_any h hL5 s hs m m0 m1
  obtain ⟨L2, hL2⟩ : ∃ L2, putF L s m = L2 := ⟨_, rfl⟩
  obtain ⟨v, hv⟩ : ∃ v, (!(findE (nowL L) s).isSome) = v := ⟨_, rfl⟩
  rw [hL2]
  simp only [hL2] at c1 c2
  simp only [hv] at c1 c2
  obtain ⟨n, hn⟩ : ∃ n, L.length = n := ⟨_, rfl⟩
  simp only [hn] at c1
  rw [hn] at st ⊢
  obtain ⟨X, hX⟩ : ∃ X, box9 w a n c 0 m s d = X := ⟨_, rfl⟩
  have HX := Lib.hid hX
  rw [hX] at st
  have C1 := Lib.hid c1; have C2 := Lib.hid c2; have ST := Lib.hid st; have H := Lib.hid h; have HL := Lib.hid hl; have HP := Lib.hid hP; have HP1 := Lib.hid hP1; have HS := Lib.hid hSlt
  clear c1 c2 st h hl hP hP1 hSlt hn hL2 hv hX hL hL5 hno hs hd m0 m1
  go_enter Try.func12, Try.ntmps12
  go_wp2_with fail
  rw [show ((w.alloc (.cells #[.slice a n c] 28)).alloc (.cells #[.int .i64 0, .int .i64 m, .string s, .string d] 31)).alloc (.cells #[.slice none 0 0] 28) = X from HX.out]
  refine (C1.out _ (fun b hb => Nat.lt_of_lt_of_le (HP1.out b hb) ST.out.bel.size) (HL.out.below HP1.out ST.out.bel)).mono ?_
  rintro e w1 ⟨a2, c2', rfl, hl1, hb1⟩
  obtain ⟨n2, hn2⟩ : ∃ n2, L2.length = n2 := ⟨_, rfl⟩
  rw [hn2]
  go_wp2_with fail
  have hbd := bd9_mk (a' := a2) (n' := n2) (c' := c2') ST.out hb1
  have hbY := ((Below.refl w1.heap.size w1).alloc (Nat.le_refl _) (.cells #[.slice a2 n2 c2'] 28)).drew
  obtain ⟨Y, hY⟩ : ∃ Y, w1.alloc (.cells #[.slice a2 n2 c2'] 28) = Y := ⟨_, rfl⟩
  have sY : w1.heap.size < Y.heap.size := by rw [← hY]; simp
  rw [hY] at hbd hbY ⊢
  have hz1 : w.heap.size + 3 ≤ w1.heap.size := by have := ST.out.size; have := hb1.size; omega
  have hFY := H.out.below (ST.out.bel.trans ((hb1.trans (hbY.mono hb1.size)).mono (by have := ST.out.size; omega)))
  have BD := Lib.hid hbd; have HBY := Lib.hid hbY; have HB1 := Lib.hid hb1; have HL1 := Lib.hid hl1; have HN2 := Lib.hid hn2; have HFY := Lib.hid hFY; have SY := Lib.hid sY; have HZ1 := Lib.hid hz1
  obtain ⟨e0, e1, e2, e3, e4, e5⟩ := hbd
  clear hbY hb1 hl1 hn2 hY hFY sY hz1
  go_region_with (go_at_call 10; refine (C2.out _ _ HFY.out).mono ?_; rintro e w2 ⟨rfl, S2, hF2, hA2, hS2⟩; have hb2 := bd9_on BD.out HS.out hA2 (Nat.le_trans (Nat.le_add_right _ 3) HZ1.out) SY.out (Nat.le_trans HZ1.out (Nat.le_of_lt SY.out)); obtain ⟨y0, y1, y2, y3, y4, y5⟩ := hb2; have HF2 := Lib.hid hF2; have HA2 := Lib.hid hA2; have HS2 := Lib.hid hS2; clear hF2 hA2 hS2)
  all_goals
    go_wp2
    have hend := st9_end (c' := c2') ST.out HB1.out HBY.out HL1.out HP.out HS.out HF2.out HA2.out HS2.out
    rw [HN2.out] at hend
    exact bodyPost_ret (v := .tuple #[fdV a2 n2 c2', .bool true]) (by simp [results, Try.results12, y4, go_sem]) rfl hend
set_option maxRecDepth 100000 in
set_option maxHeartbeats 1600000 in
theorem step9_1 {w : World} {S : List Nat} {f : Addr} {L : List (List Ent)} (h : IsFold w S f L) (hL : okL 400 L) (a : Option Addr) (c : Nat) (P : Nat → Prop) (hP : ∀ b, P b → b < w.heap.size ∧ b ∉ S) (hl : LLs w P a L) (m : Int) (s d : ByteArray) (m0 : -9223372036854775808 ≤ m) (m1 : m ≤ 9223372036854775807) (hs : s.size ≤ maxLen) (hd : d.size ≤ maxLen) :
    Calls Try.prog 12 #[.pointer (some f), fdV a L.length c, .agg #[.int .i64 1, .int .i64 m, .string s, .string d]] w (StepR w S f P (dropF L s)) := by
  have hL5 : okL 500 L := ⟨hL.1, by have := hL.2.1; omega, fun l hl => by have := hL.2.2 l hl; omega⟩
  have hno := okL_now hL
  have hSlt := h.lt
  have hP1 : ∀ b, P b → b < w.heap.size := fun b hb => (hP b hb).1
  have st := st9_mk w a L.length c 1 m s d
  have c1 := fun (W : World) (hPW : ∀ b, P b → b < W.heap.size) (h : LLs W P a L) => rdrop9_any a L c s P W hPW h hL.1 (by have := hL.2.1; omega) (by omega)
  have c2 := fun (W : World) (S : List Nat) (h : IsFold W S f L) => fodrop_any h hL5 s hs
  obtain ⟨L2, hL2⟩ : ∃ L2, dropF L s = L2 := ⟨_, rfl⟩
  obtain ⟨v, hv⟩ : ∃ v, (findE (nowL L) s).isSome = v := ⟨_, rfl⟩
  rw [hL2]
  simp only [hL2] at c1 c2
  simp only [hv] at c1 c2
  obtain ⟨n, hn⟩ : ∃ n, L.length = n := ⟨_, rfl⟩
  simp only [hn] at c1
  rw [hn] at st ⊢
  obtain ⟨X, hX⟩ : ∃ X, box9 w a n c 1 m s d = X := ⟨_, rfl⟩
  have HX := Lib.hid hX
  rw [hX] at st
  have C1 := Lib.hid c1; have C2 := Lib.hid c2; have ST := Lib.hid st; have H := Lib.hid h; have HL := Lib.hid hl; have HP := Lib.hid hP; have HP1 := Lib.hid hP1; have HS := Lib.hid hSlt
  clear c1 c2 st h hl hP hP1 hSlt hn hL2 hv hX hL hL5 hno hs hd m0 m1
  go_enter Try.func12, Try.ntmps12
  go_wp2_with fail
  rw [show ((w.alloc (.cells #[.slice a n c] 28)).alloc (.cells #[.int .i64 1, .int .i64 m, .string s, .string d] 31)).alloc (.cells #[.slice none 0 0] 28) = X from HX.out]
  refine (C1.out _ (fun b hb => Nat.lt_of_lt_of_le (HP1.out b hb) ST.out.bel.size) (HL.out.below HP1.out ST.out.bel)).mono ?_
  rintro e w1 ⟨a2, c2', rfl, hl1, hb1⟩
  obtain ⟨n2, hn2⟩ : ∃ n2, L2.length = n2 := ⟨_, rfl⟩
  rw [hn2]
  go_wp2_with fail
  have hbd := bd9_mk (a' := a2) (n' := n2) (c' := c2') ST.out hb1
  have hbY := ((Below.refl w1.heap.size w1).alloc (Nat.le_refl _) (.cells #[.slice a2 n2 c2'] 28)).drew
  obtain ⟨Y, hY⟩ : ∃ Y, w1.alloc (.cells #[.slice a2 n2 c2'] 28) = Y := ⟨_, rfl⟩
  have sY : w1.heap.size < Y.heap.size := by rw [← hY]; simp
  rw [hY] at hbd hbY ⊢
  have hz1 : w.heap.size + 3 ≤ w1.heap.size := by have := ST.out.size; have := hb1.size; omega
  have hFY := H.out.below (ST.out.bel.trans ((hb1.trans (hbY.mono hb1.size)).mono (by have := ST.out.size; omega)))
  have BD := Lib.hid hbd; have HBY := Lib.hid hbY; have HB1 := Lib.hid hb1; have HL1 := Lib.hid hl1; have HN2 := Lib.hid hn2; have HFY := Lib.hid hFY; have SY := Lib.hid sY; have HZ1 := Lib.hid hz1
  obtain ⟨e0, e1, e2, e3, e4, e5⟩ := hbd
  clear hbY hb1 hl1 hn2 hY hFY sY hz1
  go_region_with (go_at_call 20; refine (C2.out _ _ HFY.out).mono ?_; rintro e w2 ⟨rfl, S2, hF2, hA2, hS2⟩; have hb2 := bd9_on BD.out HS.out hA2 (Nat.le_trans (Nat.le_add_right _ 3) HZ1.out) SY.out (Nat.le_trans HZ1.out (Nat.le_of_lt SY.out)); obtain ⟨y0, y1, y2, y3, y4, y5⟩ := hb2; have HF2 := Lib.hid hF2; have HA2 := Lib.hid hA2; have HS2 := Lib.hid hS2; clear hF2 hA2 hS2)
  all_goals
    go_wp2
    have hend := st9_end (c' := c2') ST.out HB1.out HBY.out HL1.out HP.out HS.out HF2.out HA2.out HS2.out
    rw [HN2.out] at hend
    exact bodyPost_ret (v := .tuple #[fdV a2 n2 c2', .bool true]) (by simp [results, Try.results12, y4, go_sem]) rfl hend
set_option maxRecDepth 100000 in
set_option maxHeartbeats 1600000 in
theorem step9_2 {w : World} {S : List Nat} {f : Addr} {L : List (List Ent)} (h : IsFold w S f L) (hL : okL 400 L) (a : Option Addr) (c : Nat) (P : Nat → Prop) (hP : ∀ b, P b → b < w.heap.size ∧ b ∉ S) (hl : LLs w P a L) (m : Int) (s d : ByteArray) (m0 : -9223372036854775808 ≤ m) (m1 : m ≤ 9223372036854775807) (hs : s.size ≤ maxLen) (hd : d.size ≤ maxLen) :
    Calls Try.prog 12 #[.pointer (some f), fdV a L.length c, .agg #[.int .i64 2, .int .i64 m, .string s, .string d]] w (StepR w S f P (moveF L s d)) := by
  have hL5 : okL 500 L := ⟨hL.1, by have := hL.2.1; omega, fun l hl => by have := hL.2.2 l hl; omega⟩
  have hno := okL_now hL
  have hSlt := h.lt
  have hP1 : ∀ b, P b → b < w.heap.size := fun b hb => (hP b hb).1
  have st := st9_mk w a L.length c 2 m s d
  have c1 := fun (W : World) (hPW : ∀ b, P b → b < W.heap.size) (h : LLs W P a L) => rmove9_any a L c s d P W hPW h hL.1 (by have := hL.2.1; omega) (by omega)
  have c2 := fun (W : World) (S : List Nat) (h : IsFold W S f L) => fomove_any h hL5 s d hs hd
  obtain ⟨L2, hL2⟩ : ∃ L2, moveF L s d = L2 := ⟨_, rfl⟩
  obtain ⟨v, hv⟩ : ∃ v, (findE (nowL L) s).isSome = v := ⟨_, rfl⟩
  rw [hL2]
  simp only [hL2] at c1 c2
  simp only [hv] at c1 c2
  obtain ⟨n, hn⟩ : ∃ n, L.length = n := ⟨_, rfl⟩
  simp only [hn] at c1
  rw [hn] at st ⊢
  obtain ⟨X, hX⟩ : ∃ X, box9 w a n c 2 m s d = X := ⟨_, rfl⟩
  have HX := Lib.hid hX
  rw [hX] at st
  have C1 := Lib.hid c1; have C2 := Lib.hid c2; have ST := Lib.hid st; have H := Lib.hid h; have HL := Lib.hid hl; have HP := Lib.hid hP; have HP1 := Lib.hid hP1; have HS := Lib.hid hSlt
  clear c1 c2 st h hl hP hP1 hSlt hn hL2 hv hX hL hL5 hno hs hd m0 m1
  go_enter Try.func12, Try.ntmps12
  go_wp2_with fail
  rw [show ((w.alloc (.cells #[.slice a n c] 28)).alloc (.cells #[.int .i64 2, .int .i64 m, .string s, .string d] 31)).alloc (.cells #[.slice none 0 0] 28) = X from HX.out]
  refine (C1.out _ (fun b hb => Nat.lt_of_lt_of_le (HP1.out b hb) ST.out.bel.size) (HL.out.below HP1.out ST.out.bel)).mono ?_
  rintro e w1 ⟨a2, c2', rfl, hl1, hb1⟩
  obtain ⟨n2, hn2⟩ : ∃ n2, L2.length = n2 := ⟨_, rfl⟩
  rw [hn2]
  go_wp2_with fail
  have hbd := bd9_mk (a' := a2) (n' := n2) (c' := c2') ST.out hb1
  have hbY := ((Below.refl w1.heap.size w1).alloc (Nat.le_refl _) (.cells #[.slice a2 n2 c2'] 28)).drew
  obtain ⟨Y, hY⟩ : ∃ Y, w1.alloc (.cells #[.slice a2 n2 c2'] 28) = Y := ⟨_, rfl⟩
  have sY : w1.heap.size < Y.heap.size := by rw [← hY]; simp
  rw [hY] at hbd hbY ⊢
  have hz1 : w.heap.size + 3 ≤ w1.heap.size := by have := ST.out.size; have := hb1.size; omega
  have hFY := H.out.below (ST.out.bel.trans ((hb1.trans (hbY.mono hb1.size)).mono (by have := ST.out.size; omega)))
  have BD := Lib.hid hbd; have HBY := Lib.hid hbY; have HB1 := Lib.hid hb1; have HL1 := Lib.hid hl1; have HN2 := Lib.hid hn2; have HFY := Lib.hid hFY; have SY := Lib.hid sY; have HZ1 := Lib.hid hz1
  obtain ⟨e0, e1, e2, e3, e4, e5⟩ := hbd
  clear hbY hb1 hl1 hn2 hY hFY sY hz1
  go_region_with (go_at_call 17; refine (C2.out _ _ HFY.out).mono ?_; rintro e w2 ⟨rfl, S2, hF2, hA2, hS2⟩; have hb2 := bd9_on BD.out HS.out hA2 (Nat.le_trans (Nat.le_add_right _ 3) HZ1.out) SY.out (Nat.le_trans HZ1.out (Nat.le_of_lt SY.out)); obtain ⟨y0, y1, y2, y3, y4, y5⟩ := hb2; have HF2 := Lib.hid hF2; have HA2 := Lib.hid hA2; have HS2 := Lib.hid hS2; clear hF2 hA2 hS2)
  all_goals
    go_wp2
    have hend := st9_end (c' := c2') ST.out HB1.out HBY.out HL1.out HP.out HS.out HF2.out HA2.out HS2.out
    rw [HN2.out] at hend
    exact bodyPost_ret (v := .tuple #[fdV a2 n2 c2', .bool true]) (by simp [results, Try.results12, y4, go_sem]) rfl hend
set_option maxRecDepth 100000 in
set_option maxHeartbeats 1600000 in
theorem step9_4 {w : World} {S : List Nat} {f : Addr} {L : List (List Ent)} (h : IsFold w S f L) (hL : okL 400 L) (a : Option Addr) (c : Nat) (P : Nat → Prop) (hP : ∀ b, P b → b < w.heap.size ∧ b ∉ S) (hl : LLs w P a L) (m : Int) (s d : ByteArray) (m0 : -9223372036854775808 ≤ m) (m1 : m ≤ 9223372036854775807) (hs : s.size ≤ maxLen) (hd : d.size ≤ maxLen) :
    Calls Try.prog 12 #[.pointer (some f), fdV a L.length c, .agg #[.int .i64 4, .int .i64 m, .string s, .string d]] w (StepR w S f P ([L.getD (pickN m L.length) []])) := by
  have hL5 : okL 500 L := ⟨hL.1, by have := hL.2.1; omega, fun l hl => by have := hL.2.2 l hl; omega⟩
  have hno := okL_now hL
  have hSlt := h.lt
  have hP1 : ∀ b, P b → b < w.heap.size := fun b hb => (hP b hb).1
  have st := st9_mk w a L.length c 4 m s d
  have c1 := fun (W : World) (hPW : ∀ b, P b → b < W.heap.size) (h : LLs W P a L) => rcrash9_any a L c m P W hPW h hL.1 (by have := hL.2.1; omega) m0 m1
  have c2 := fun (W : World) (S : List Nat) (h : IsFold W S f L) => focrash_any h hL5 m m0 m1
  obtain ⟨L2, hL2⟩ : ∃ L2, [L.getD (pickN m L.length) []] = L2 := ⟨_, rfl⟩
  obtain ⟨v, hv⟩ : ∃ v, pickN m L.length = v := ⟨_, rfl⟩
  rw [hL2]
  simp only [hL2] at c1 c2
  simp only [hv] at c1 c2
  obtain ⟨n, hn⟩ : ∃ n, L.length = n := ⟨_, rfl⟩
  simp only [hn] at c1
  rw [hn] at st ⊢
  obtain ⟨X, hX⟩ : ∃ X, box9 w a n c 4 m s d = X := ⟨_, rfl⟩
  have HX := Lib.hid hX
  rw [hX] at st
  have C1 := Lib.hid c1; have C2 := Lib.hid c2; have ST := Lib.hid st; have H := Lib.hid h; have HL := Lib.hid hl; have HP := Lib.hid hP; have HP1 := Lib.hid hP1; have HS := Lib.hid hSlt
  clear c1 c2 st h hl hP hP1 hSlt hn hL2 hv hX hL hL5 hno hs hd m0 m1
  go_enter Try.func12, Try.ntmps12
  go_wp2_with fail
  rw [show ((w.alloc (.cells #[.slice a n c] 28)).alloc (.cells #[.int .i64 4, .int .i64 m, .string s, .string d] 31)).alloc (.cells #[.slice none 0 0] 28) = X from HX.out]
  refine (C1.out _ (fun b hb => Nat.lt_of_lt_of_le (HP1.out b hb) ST.out.bel.size) (HL.out.below HP1.out ST.out.bel)).mono ?_
  rintro e w1 ⟨a2, c2', rfl, hl1, hb1⟩
  obtain ⟨n2, hn2⟩ : ∃ n2, L2.length = n2 := ⟨_, rfl⟩
  rw [hn2]
  go_wp2_with fail
  have hbd := bd9_mk (a' := a2) (n' := n2) (c' := c2') ST.out hb1
  have hbY := ((Below.refl w1.heap.size w1).alloc (Nat.le_refl _) (.cells #[.slice a2 n2 c2'] 28)).drew
  obtain ⟨Y, hY⟩ : ∃ Y, w1.alloc (.cells #[.slice a2 n2 c2'] 28) = Y := ⟨_, rfl⟩
  have sY : w1.heap.size < Y.heap.size := by rw [← hY]; simp
  rw [hY] at hbd hbY ⊢
  have hz1 : w.heap.size + 3 ≤ w1.heap.size := by have := ST.out.size; have := hb1.size; omega
  have hFY := H.out.below (ST.out.bel.trans ((hb1.trans (hbY.mono hb1.size)).mono (by have := ST.out.size; omega)))
  have BD := Lib.hid hbd; have HBY := Lib.hid hbY; have HB1 := Lib.hid hb1; have HL1 := Lib.hid hl1; have HN2 := Lib.hid hn2; have HFY := Lib.hid hFY; have SY := Lib.hid sY; have HZ1 := Lib.hid hz1
  obtain ⟨e0, e1, e2, e3, e4, e5⟩ := hbd
  clear hbY hb1 hl1 hn2 hY hFY sY hz1
  go_region_with (go_at_call 18; refine (C2.out _ _ HFY.out).mono ?_; rintro e w2 ⟨rfl, S2, hF2, hA2, hS2⟩; have hb2 := bd9_on BD.out HS.out hA2 (Nat.le_trans (Nat.le_add_right _ 3) HZ1.out) SY.out (Nat.le_trans HZ1.out (Nat.le_of_lt SY.out)); obtain ⟨y0, y1, y2, y3, y4, y5⟩ := hb2; have HF2 := Lib.hid hF2; have HA2 := Lib.hid hA2; have HS2 := Lib.hid hS2; clear hF2 hA2 hS2)
  all_goals
    go_wp2
    have hend := st9_end (c' := c2') ST.out HB1.out HBY.out HL1.out HP.out HS.out HF2.out HA2.out HS2.out
    rw [HN2.out] at hend
    exact bodyPost_ret (v := .tuple #[fdV a2 n2 c2', .bool true]) (by simp [results, Try.results12, y4, go_sem]) rfl hend
end Go.Proofs.Ytpcbfkcpefcnjaa
