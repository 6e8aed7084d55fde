/-
  Contracts of the copy of a row, Kids, Leaf, even.
-/
import Derived.Test.YtephlcdanokolaaKnotDev1
import Derived.Test.YtephlcdanokolaaKnotClone
import Derived.Deep.RegionHeld3
namespace Go.Proofs.Ytephlcdanokolaa
open Go.RowKit
set_option linter.unusedVariables false
set_option linter.unusedSimpArgs false

theorem ptr_info16 : (Try.prog.info? 44).map (fun i => (i.zero, i.size, i.bytes)) = some (some (.pointer none), 1, 8) := by kernel_rfl
theorem kclone_row {g o n c : Nat} {l : List Value} {w : World} (hl : l.length = n) (hn : n ≤ 1000000) (hr : PRow w g o l) (h1 : ∀ u ∈ l, u.oneCell' = true) :
    Calls Try.prog 71 #[.slice (some ⟨g, o, none⟩) n c] w fun e w' => ∃ g' c', e = .returned (.slice (some ⟨g', 0, none⟩) n c') ∧ n ≤ c' ∧ w.heap.size ≤ g' ∧ PRow w' g' 0 l ∧ Below w.heap.size w w' := by
  obtain ⟨i0, hi, hz0, hz1, hz2⟩ := info_parts ptr_info16
  refine (AnyE.slices_Clone Try.knClone i0 (.pointer none) 1 8 hi hz0 hz1 hz2 rfl (by decide) (fun w => by exact Try.sizeOf44 w) g o n c l w (by omega) (by unfold maxLen; omega) (by omega) (fun j u hj => ?_) h1).mono ?_
  · obtain ⟨hj1, rfl⟩ := List.getElem?_eq_some_iff.1 hj
    exact hr.2 j hj1
  · rintro e w' ⟨v', rfl, hown, hne, hb⟩
    rcases hown.2 with ⟨rfl, h0⟩ | ⟨g', cap, cur, rfl, hb', hB, hc, hm, hcs, ht⟩
    · exact absurd rfl hne
    · have hlt := (Array.getElem?_eq_some_iff.1 hB).1
      refine ⟨g', cap, rfl, hc, hb', ⟨hlt, fun j hj => ?_⟩, hb⟩
      have := hown.cells (g := g') rfl j _ (List.getElem?_eq_getElem hj)
      rwa [show (⟨g', 0, none⟩ : Addr).add j = ⟨g', 0 + j, none⟩ by unfold Addr.add; split <;> simp_all] at this
theorem kclone_nil (w : World) : Calls Try.prog 71 #[.slice none 0 0] w fun e w' => e = .returned (.slice none 0 0) ∧ w' = w := AnyE.slices_Clone_nil Try.knClone 0 0 w

set_option maxRecDepth 100000 in
theorem kids_nil (w : World) : Calls Try.prog 50 #[.pointer none] w fun e w' => e = .returned (.slice none 0 0) ∧ Below w.heap.size w w' := by
  go_enter Try.func50, Try.ntmps50
  go_wp2
  go_ret
  exact ⟨rfl, Below.refl _ _⟩
set_option maxRecDepth 100000 in
theorem kids_leaf {lv a b c : Int} {f s : ByteArray} {g : Nat} {t : TypeId} {w : World} (hB : Blk w g (kc7 lv a b c f s (.slice none 0 0)) t) :
    Calls Try.prog 50 #[.pointer (some ⟨g, 0, none⟩)] w fun e w' => e = .returned (.slice none 0 0) ∧ Below w.heap.size w w' := by
  obtain ⟨-, -, -, -, -, -, c6⟩ := hB.seven
  have ck := kclone_nil w
  have CK := Lib.hid ck
  clear hB ck
  go_enter Try.func50, Try.ntmps50
  go_wp2_with fail
  refine CK.out.mono ?_; rintro e w1 ⟨rfl, rfl⟩
  go_wp2
  go_ret
  exact ⟨rfl, Below.refl _ _⟩
/-- A row is answered that the call has made. -/
def RetRow (w : World) (l : List Value) (e : Ending) (w' : World) : Prop := ∃ g c, e = .returned (.slice (some ⟨g, 0, none⟩) l.length c) ∧ l.length ≤ c ∧ w.heap.size ≤ g ∧ PRow w' g 0 l ∧ Below w.heap.size w w'
set_option maxRecDepth 100000 in
theorem kids_row {lv a b c : Int} {f s : ByteArray} {g r n k : Nat} {l : List Value} {t : TypeId} {w : World} (hB : Blk w g (kc7 lv a b c f s (.slice (some ⟨r, 0, none⟩) n k)) t) (hl : l.length = n) (hn : n ≤ 1000000) (hr : PRow w r 0 l) (h1 : ∀ u ∈ l, u.oneCell' = true) :
    Calls Try.prog 50 #[.pointer (some ⟨g, 0, none⟩)] w (RetRow w l) := by
  obtain ⟨-, -, -, -, -, -, c6⟩ := hB.seven
  have ck := kclone_row (c := k) hl hn hr h1
  have CK := Lib.hid ck; have HL := Lib.hid hl
  clear hB ck hr h1 hl
  go_enter Try.func50, Try.ntmps50
  go_wp2_with fail
  refine CK.out.mono ?_; rintro e w1 ⟨g', c', rfl, q1, q2, q3, q4⟩
  have HQ := Lib.hid (show n ≤ c' ∧ w.heap.size ≤ g' ∧ PRow w1 g' 0 l ∧ Below w.heap.size w w1 from ⟨q1, q2, q3, q4⟩)
  clear q1 q2 q3 q4
  go_wp2
  go_ret
  have q := HQ.out
  exact ⟨g', c', by rw [HL.out]; rfl, by rw [HL.out]; exact q.1, q.2⟩

set_option maxRecDepth 100000 in
set_option maxHeartbeats 400000 in
theorem leaf_no (s : ByteArray) (hs : s.size ≤ maxLen) (hf : fitsB s = false) (w : World) :
    Calls Try.prog 66 #[.string s] w fun e w' => e = .returned (.pointer none) ∧ Below w.heap.size w w' := by
  have cf := fits_any s hs
  rw [hf] at cf
  have CF := Lib.hid cf
  clear cf hs hf
  go_enter Try.func66, Try.ntmps66
  go_wp2_with fail
  refine (CF.out _).mono ?_; rintro e w1 ⟨rfl, hb1⟩
  go_wp2
  go_ret
  exact ⟨rfl, hb1⟩
set_option maxRecDepth 100000 in
set_option maxHeartbeats 400000 in
theorem leaf_yes (s : ByteArray) (hs : s.size ≤ maxLen) (hf : fitsB s = true) (w : World) :
    Calls Try.prog 66 #[.string s] w fun e w' => ∃ b, e = .returned (pv b) ∧ w.heap.size ≤ b ∧ Blk w' b (kcs 1 s s s (.slice none 0 0)) 89 ∧ Below w.heap.size w w' := by
  have cf := fits_any s hs
  have ct := tof_any s hs
  rw [hf] at cf
  obtain ⟨x, hx⟩ : ∃ x, runes s.data.toList = x := ⟨_, rfl⟩
  obtain ⟨y, hy⟩ : ∃ y, lines s.data.toList = y := ⟨_, rfl⟩
  unfold kcs
  rw [hx, hy] at ct ⊢
  have CF := Lib.hid cf; have CT := Lib.hid ct
  clear cf hs hf ct hx hy
  go_enter Try.func66, Try.ntmps66
  go_wp2_with fail
  refine (CF.out _).mono ?_; rintro e w1 ⟨rfl, hb1⟩
  go_wp2_with fail
  refine (CT.out _).mono ?_; rintro e w2 ⟨rfl, hb2⟩
  have HB := Lib.hid (hb1.trans (hb2.mono hb1.size))
  clear hb1 hb2
  go_wp2
  go_ret
  exact ⟨_, rfl, HB.out.size, Blk.new _ _ _, HB.out.alloc HB.out.size _⟩
/-- The height of what an address leads to. -/
def Hgt (w : World) (p : Option Addr) (h : Int) : Prop :=
  (p = none ∧ h = -1) ∨ ∃ (b : Nat) (lv x y z : Int) (f s : ByteArray) (kv : Value) (t : TypeId), p = some ⟨b, 0, none⟩ ∧ h = lv - 1 ∧ 0 ≤ lv ∧ lv ≤ 1000000 ∧ Blk w b (kc7 lv x y z f s kv) t
theorem Hgt.on {w w' : World} {p : Option Addr} {h : Int} (k : Hgt w p h) (hb : Below w.heap.size w w') : Hgt w' p h := by
  rcases k with k | ⟨b, lv, x, y, z, f, s, kv, t, h1, h2, h3, h4, h5⟩
  · exact .inl k
  · exact .inr ⟨b, lv, x, y, z, f, s, kv, t, h1, h2, h3, h4, h5.onto hb⟩
theorem Hgt.ge {w : World} {p : Option Addr} {h : Int} (k : Hgt w p h) : -1 ≤ h ∧ h ≤ 1000000 := by
  rcases k with k | ⟨b, lv, x, y, z, f, s, kv, t, h1, h2, h3, h4, h5⟩ <;> omega
theorem KnotW.hgt {w : World} {B : Nat → Prop} {h b : Nat} {L : List ByteArray} (k : KnotW w B h b L) (hh : h ≤ 1000) : Hgt w (some ⟨b, 0, none⟩) h := by
  obtain ⟨kv, -, hB⟩ := k.cells
  exact .inr ⟨b, _, _, _, _, _, _, kv, _, rfl, by omega, by omega, by omega, hB⟩
theorem Hgt.call {w : World} {p : Option Addr} {h : Int} (k : Hgt w p h) :
    Calls Try.prog 26 #[.pointer p] w fun e w' => e = .returned (.int .i64 h) ∧ Below w.heap.size w w' := by
  rcases k with ⟨rfl, rfl⟩ | ⟨b, lv, x, y, z, f, s, kv, t, rfl, rfl, h3, h4, h5⟩
  · exact height_nil w
  · exact height_blk h5 h3 h4
/-- .. in whatever world comes later. -/
theorem Hgt.later {w : World} {p : Option Addr} {h : Int} (k : Hgt w p h) : ∀ W, Below w.heap.size w W → Calls Try.prog 26 #[.pointer p] W fun e w' => e = .returned (.int .i64 h) ∧ Below w.heap.size w w' :=
  fun W hb => onward hb (k.on hb).call
/-- Whether all are of one height, and calls made them. -/
def evenP (hs : Nat → Int) (n : Nat) : Prop := ∀ k, k < n → 0 ≤ hs k ∧ hs k = hs 0
def RetEven (w : World) (hs : Nat → Int) (n : Nat) (e : Ending) (w' : World) : Prop := ∃ b : Bool, e = .returned (.bool b) ∧ (b = true ↔ evenP hs n) ∧ Below w.heap.size w w'
theorem even_end {hs : Nat → Int} {n k : Nat} (h : k < n) (hc : hs k < 0 ∨ ¬ hs k = hs 0) : ¬ evenP hs n := fun g => by have := g k h; omega
theorem even_next {hs : Nat → Int} {k : Nat} (h : evenP hs k) (h0 : 0 ≤ hs k) (h1 : hs k = hs 0) : evenP hs (k + 1) := fun j hj => by
  rcases Nat.lt_or_ge j k with g | g
  · exact h j g
  · obtain rfl : j = k := by omega
    exact ⟨h0, h1⟩
set_option maxRecDepth 100000 in
set_option maxHeartbeats 1600000 in
theorem even_any {g o n c : Nat} {ps : List (Option Addr)} {hs : Nat → Int} {w : World} (hl : ps.length = n) (hn : n ≤ 1000000) (hr : PRow w g o (ps.map Value.pointer)) (hh : ∀ k (h : k < ps.length), Hgt w ps[k] (hs k)) :
    Calls Try.prog 85 #[.slice (some ⟨g, o, none⟩) n c] w (RetEven w hs n) := by
  have HL := Lib.hid hl; have HR := Lib.hid hr; have HH := Lib.hid hh
  clear hl hr hh
  go_enter Try.func85, Try.ntmps85
  go_wp2
  go_loopw [7] (fun i wr => ∃ k : Nat, k ≤ n ∧ i = .int .i64 k ∧ evenP hs k ∧ Below w.heap.size w wr) (fun i _ => n - (intOf i).toNat)
  case atStart => exact ⟨0, Nat.zero_le _, rfl, fun k h => absurd h (Nat.not_lt_zero k), Below.refl _ _⟩
  case round =>
    obtain ⟨k, hk, rfl, hE, hbel⟩ := hrel
    by_cases hlt : k < n
    · have hkl : k < ps.length := by rw [HL.out]; exact hlt
      have h0l : 0 < ps.length := by omega
      have q0 := (HR.out.on hbel).2 k (by rw [List.length_map]; exact hkl)
      have r0 := (HR.out.on hbel).2 0 (by rw [List.length_map]; exact h0l)
      rw [List.getElem_map] at q0 r0
      rw [Nat.add_zero] at r0
      have kp := (HH.out k hkl).later
      have k0 := (HH.out 0 h0l).later
      have hge := (HH.out k hkl).ge
      have hge0 := (HH.out 0 h0l).ge
      have hend := @even_end hs n k hlt
      have hnext := @even_next hs k hE
      obtain ⟨p, hp⟩ : ∃ p, ps[k] = p := ⟨_, rfl⟩
      obtain ⟨p0, hp0⟩ : ∃ p, ps[0] = p := ⟨_, rfl⟩
      obtain ⟨h, hhk⟩ : ∃ h, hs k = h := ⟨_, rfl⟩
      obtain ⟨h0, hh0⟩ : ∃ h, hs 0 = h := ⟨_, rfl⟩
      rw [hp] at q0 kp
      rw [hp0] at r0 k0
      rw [hhk] at kp hge hend hnext
      rw [hh0] at k0 hge0 hend hnext
      have hlo : g < wr.drew.heap.size := (HR.out.on hbel).1
      have HB := Lib.hid hbel.drew; have KP := Lib.hid kp; have K0 := Lib.hid k0; have HE := Lib.hid hend; have HNX := Lib.hid hnext
      have r1 : wr.drew.cell? ⟨g, o, none⟩ = some (.pointer p0) := r0
      have HG := Lib.hid HR.out.1
      have b0 : (0 : Int) < (n : Int) := by omega
      have b3 : 0 < n := by omega
      have b1 : (k : Int) < (n : Int) := by omega
      have b2 : (0 : Int) ≤ (k : Int) := by omega
      clear kp k0 hp hp0 hhk hh0 hend hnext hE hbel r0 hlo h0l hkl hk
      -- GEN EVEN
      have R1 := Lib.hid ((HB.out.cell (p := ⟨g, o, none⟩) HG.out).symm.trans r1)
      rcases Int.lt_or_le h 0 with hneg | hneg
      · have HN := Lib.hid (HE.out (.inl hneg))
        have d1 : decide (h < 0) = true := decide_eq_true hneg
        go_wp2_with fail
        refine wp_region_held_drew (S := (fun w' : World => Below w.heap.size w w' ∧ w'.cell? ⟨g, o, none⟩ = some (.pointer p0))) (by kernel_rfl) ⟨HB.out, r1⟩ (fun hHeld => ?_)
        refine wpAnyH_take (i := 0) (v := ?_) (by simp only [List.getElem?_toArray, List.getElem?_cons_succ, List.getElem?_cons_zero]; rfl) (by kernel_rfl) (by kernel_rfl) (by kernel_rfl) (fun _ _ _ h => by exact h) (Or.inl ⟨by rfl, ?_⟩) (by assumption) ?_
        rotate_left
        · (intro w hSw; (try dsimp only at hSw); go_simp; try with_reducible rfl)
        try simp only [Act.put, List.setIfInBounds_toArray, List.set_cons_zero, List.set_cons_succ]
        refine wpAnyH_ready (rs := [1]) (by kernel_rfl) (by simp) ?_
        refine AllReadyH.cons (by simp only [List.getElem?_toArray, List.getElem?_cons_succ, List.getElem?_cons_zero]; rfl) (fun K hK => ?_) AllReadyH.nil
        go_simp
        (go_at_call 26; refine (KP.out _ HB.out).mono ?_; rintro e w1 ⟨rfl, hb1⟩; have HB1 := Lib.hid hb1)
        try go_wp2_with fail
        refine hK.out _ _ ?_ (fun hHeld => ?_)
        · exact ⟨HB1.out, (HB1.out.cell (p := ⟨g, o, none⟩) HG.out).trans R1.out⟩
        clear hK K
        try simp only [Act.put, List.setIfInBounds_toArray, List.set_cons_zero, List.set_cons_succ]
        refine wpAnyH_take (i := 2) (v := ?_) (by simp only [List.getElem?_toArray, List.getElem?_cons_succ, List.getElem?_cons_zero]; rfl) (by kernel_rfl) (by kernel_rfl) (by kernel_rfl) (fun _ _ _ h => by exact h) (Or.inl ⟨by rfl, ?_⟩) (by assumption) ?_
        rotate_left
        · (intro w hSw; (try dsimp only at hSw); go_simp; try with_reducible rfl)
        try simp only [Act.put, List.setIfInBounds_toArray, List.set_cons_zero, List.set_cons_succ]
        refine wpAnyH_take (i := 3) (v := ?_) (by simp only [List.getElem?_toArray, List.getElem?_cons_succ, List.getElem?_cons_zero]; rfl) (by kernel_rfl) (by kernel_rfl) (by kernel_rfl) (fun _ _ _ h => by exact h) (Or.inl ⟨by rfl, ?_⟩) (by assumption) ?_
        rotate_left
        · (intro w hSw; (try dsimp only at hSw); go_simp; try with_reducible rfl)
        try simp only [Act.put, List.setIfInBounds_toArray, List.set_cons_zero, List.set_cons_succ]
        refine wpAnyH_take (i := 4) (v := undef) (by simp only [List.getElem?_toArray, List.getElem?_cons_succ, List.getElem?_cons_zero]; rfl) (by kernel_rfl) (by kernel_rfl) (by kernel_rfl) (fun _ _ _ h => by exact h) (Or.inr ⟨by rfl, rfl⟩) (by assumption) ?_
        try simp only [Act.put, List.setIfInBounds_toArray, List.set_cons_zero, List.set_cons_succ]
        refine wpAnyH_take (i := 5) (v := undef) (by simp only [List.getElem?_toArray, List.getElem?_cons_succ, List.getElem?_cons_zero]; rfl) (by kernel_rfl) (by kernel_rfl) (by kernel_rfl) (fun _ _ _ h => by exact h) (Or.inr ⟨by rfl, rfl⟩) (by assumption) ?_
        try simp only [Act.put, List.setIfInBounds_toArray, List.set_cons_zero, List.set_cons_succ]
        refine wpAnyH_take (i := 6) (v := undef) (by simp only [List.getElem?_toArray, List.getElem?_cons_succ, List.getElem?_cons_zero]; rfl) (by kernel_rfl) (by kernel_rfl) (by kernel_rfl) (fun _ _ _ h => by exact h) (Or.inr ⟨by rfl, rfl⟩) (by assumption) ?_
        try simp only [Act.put, List.setIfInBounds_toArray, List.set_cons_zero, List.set_cons_succ]
        refine wpAnyH_take (i := 7) (v := undef) (by simp only [List.getElem?_toArray, List.getElem?_cons_succ, List.getElem?_cons_zero]; rfl) (by kernel_rfl) (by kernel_rfl) (by kernel_rfl) (fun _ _ _ h => by exact h) (Or.inr ⟨by rfl, rfl⟩) (by assumption) ?_
        try simp only [Act.put, List.setIfInBounds_toArray, List.set_cons_zero, List.set_cons_succ]
        refine wpAnyH_take (i := 8) (v := undef) (by simp only [List.getElem?_toArray, List.getElem?_cons_succ, List.getElem?_cons_zero]; rfl) (by kernel_rfl) (by kernel_rfl) (by kernel_rfl) (fun _ _ _ h => by exact h) (Or.inr ⟨by rfl, rfl⟩) (by assumption) ?_
        try simp only [Act.put, List.setIfInBounds_toArray, List.set_cons_zero, List.set_cons_succ]
        refine wpAnyH_take (i := 9) (v := undef) (by simp only [List.getElem?_toArray, List.getElem?_cons_succ, List.getElem?_cons_zero]; rfl) (by kernel_rfl) (by kernel_rfl) (by kernel_rfl) (fun _ _ _ h => by exact h) (Or.inr ⟨by rfl, rfl⟩) (by assumption) ?_
        try simp only [Act.put, List.setIfInBounds_toArray, List.set_cons_zero, List.set_cons_succ]
        refine wpAnyH_take (i := 10) (v := undef) (by simp only [List.getElem?_toArray, List.getElem?_cons_succ, List.getElem?_cons_zero]; rfl) (by kernel_rfl) (by kernel_rfl) (by kernel_rfl) (fun _ _ _ h => by exact h) (Or.inr ⟨by rfl, rfl⟩) (by assumption) ?_
        try simp only [Act.put, List.setIfInBounds_toArray, List.set_cons_zero, List.set_cons_succ]
        refine wpAnyH_take (i := 11) (v := ?_) (by simp only [List.getElem?_toArray, List.getElem?_cons_succ, List.getElem?_cons_zero]; rfl) (by kernel_rfl) (by kernel_rfl) (by kernel_rfl) (fun _ _ _ h => by exact h) (Or.inl ⟨by rfl, ?_⟩) (by assumption) ?_
        rotate_left
        · (intro w hSw; (try dsimp only at hSw); go_simp; try with_reducible rfl)
        try simp only [Act.put, List.setIfInBounds_toArray, List.set_cons_zero, List.set_cons_succ]
        refine wpAnyH_done (by kernel_rfl) ?_ _
        go_wp2_with fail
        go_ret
        exact ⟨false, rfl, ⟨(fun h => Bool.noConfusion h), fun h => absurd h HN.out⟩, HB1.out⟩
      · have d1 : decide (h < 0) = false := decide_eq_false (by omega)
        by_cases heq : h = h0
        · have HN := Lib.hid (HNX.out hneg heq)
          subst heq
          clear hneg
          go_wp2_with fail
          refine wp_region_held_drew (S := (fun w' : World => Below w.heap.size w w' ∧ w'.cell? ⟨g, o, none⟩ = some (.pointer p0))) (by kernel_rfl) ⟨HB.out, r1⟩ (fun hHeld => ?_)
          refine wpAnyH_take (i := 0) (v := ?_) (by simp only [List.getElem?_toArray, List.getElem?_cons_succ, List.getElem?_cons_zero]; rfl) (by kernel_rfl) (by kernel_rfl) (by kernel_rfl) (fun _ _ _ h => by exact h) (Or.inl ⟨by rfl, ?_⟩) (by assumption) ?_
          rotate_left
          · (intro w hSw; (try dsimp only at hSw); go_simp; try with_reducible rfl)
          try simp only [Act.put, List.setIfInBounds_toArray, List.set_cons_zero, List.set_cons_succ]
          refine wpAnyH_ready (rs := [1]) (by kernel_rfl) (by simp) ?_
          refine AllReadyH.cons (by simp only [List.getElem?_toArray, List.getElem?_cons_succ, List.getElem?_cons_zero]; rfl) (fun K hK => ?_) AllReadyH.nil
          go_simp
          (go_at_call 26; refine (KP.out _ HB.out).mono ?_; rintro e w1 ⟨rfl, hb1⟩; have HB1 := Lib.hid hb1)
          try go_wp2_with fail
          refine hK.out _ _ ?_ (fun hHeld => ?_)
          · exact ⟨HB1.out, (HB1.out.cell (p := ⟨g, o, none⟩) HG.out).trans R1.out⟩
          clear hK K
          try simp only [Act.put, List.setIfInBounds_toArray, List.set_cons_zero, List.set_cons_succ]
          refine wpAnyH_take (i := 2) (v := ?_) (by simp only [List.getElem?_toArray, List.getElem?_cons_succ, List.getElem?_cons_zero]; rfl) (by kernel_rfl) (by kernel_rfl) (by kernel_rfl) (fun _ _ _ h => by exact h) (Or.inl ⟨by rfl, ?_⟩) (by assumption) ?_
          rotate_left
          · (intro w hSw; (try dsimp only at hSw); go_simp; try with_reducible rfl)
          try simp only [Act.put, List.setIfInBounds_toArray, List.set_cons_zero, List.set_cons_succ]
          refine wpAnyH_take (i := 3) (v := ?_) (by simp only [List.getElem?_toArray, List.getElem?_cons_succ, List.getElem?_cons_zero]; rfl) (by kernel_rfl) (by kernel_rfl) (by kernel_rfl) (fun _ _ _ h => by exact h) (Or.inl ⟨by rfl, ?_⟩) (by assumption) ?_
          rotate_left
          · (intro w hSw; (try dsimp only at hSw); go_simp; try with_reducible rfl)
          try simp only [Act.put, List.setIfInBounds_toArray, List.set_cons_zero, List.set_cons_succ]
          refine wpAnyH_take (i := 4) (v := ?_) (by simp only [List.getElem?_toArray, List.getElem?_cons_succ, List.getElem?_cons_zero]; rfl) (by kernel_rfl) (by kernel_rfl) (by kernel_rfl) (fun _ _ _ h => by exact h) (Or.inl ⟨by rfl, ?_⟩) (by assumption) ?_
          rotate_left
          · (intro w hSw; (try dsimp only at hSw); go_simp; try with_reducible rfl)
          try simp only [Act.put, List.setIfInBounds_toArray, List.set_cons_zero, List.set_cons_succ]
          refine wpAnyH_take (i := 6) (v := ?_) (by simp only [List.getElem?_toArray, List.getElem?_cons_succ, List.getElem?_cons_zero]; rfl) (by kernel_rfl) (by kernel_rfl) (by kernel_rfl) (fun _ _ _ h => by exact h) (Or.inl ⟨by rfl, ?_⟩) (by assumption) ?_
          rotate_left
          · (intro w hSw; (try dsimp only at hSw); go_simp; try with_reducible rfl)
          try simp only [Act.put, List.setIfInBounds_toArray, List.set_cons_zero, List.set_cons_succ]
          refine wpAnyH_take (i := 7) (v := ?_) (by simp only [List.getElem?_toArray, List.getElem?_cons_succ, List.getElem?_cons_zero]; rfl) (by kernel_rfl) (by kernel_rfl) (by kernel_rfl) (fun _ _ _ h => by exact h) (Or.inl ⟨by rfl, ?_⟩) (by assumption) ?_
          rotate_left
          · (intro w hSw; (try dsimp only at hSw); go_simp; try with_reducible rfl)
          try simp only [Act.put, List.setIfInBounds_toArray, List.set_cons_zero, List.set_cons_succ]
          refine wpAnyH_take (i := 8) (v := ?_) (by simp only [List.getElem?_toArray, List.getElem?_cons_succ, List.getElem?_cons_zero]; rfl) (by kernel_rfl) (by kernel_rfl) (by kernel_rfl) (fun _ _ _ h => by exact h) (Or.inl ⟨by rfl, ?_⟩) (by assumption) ?_
          rotate_left
          · (intro w hSw; (try dsimp only at hSw); go_simp; try with_reducible rfl)
          try simp only [Act.put, List.setIfInBounds_toArray, List.set_cons_zero, List.set_cons_succ]
          refine wpAnyH_ready (rs := [5]) (by kernel_rfl) (by simp) ?_
          refine AllReadyH.cons (by simp only [List.getElem?_toArray, List.getElem?_cons_succ, List.getElem?_cons_zero]; rfl) (fun K hK => ?_) AllReadyH.nil
          go_simp
          (go_at_call 26; refine (KP.out _ HB1.out).mono ?_; rintro e w2 ⟨rfl, hb2⟩; have HB2 := Lib.hid hb2)
          try go_wp2_with fail
          refine hK.out _ _ ?_ (fun hHeld => ?_)
          · exact ⟨HB2.out, (HB2.out.cell (p := ⟨g, o, none⟩) HG.out).trans R1.out⟩
          clear hK K
          try simp only [Act.put, List.setIfInBounds_toArray, List.set_cons_zero, List.set_cons_succ]
          refine wpAnyH_ready (rs := [9]) (by kernel_rfl) (by simp) ?_
          refine AllReadyH.cons (by simp only [List.getElem?_toArray, List.getElem?_cons_succ, List.getElem?_cons_zero]; rfl) (fun K hK => ?_) AllReadyH.nil
          go_simp
          (go_at_call 26; refine (K0.out _ HB2.out).mono ?_; rintro e w3 ⟨rfl, hb3⟩; have HB3 := Lib.hid hb3)
          try go_wp2_with fail
          refine hK.out _ _ ?_ (fun hHeld => ?_)
          · exact ⟨HB3.out, (HB3.out.cell (p := ⟨g, o, none⟩) HG.out).trans R1.out⟩
          clear hK K
          try simp only [Act.put, List.setIfInBounds_toArray, List.set_cons_zero, List.set_cons_succ]
          refine wpAnyH_take (i := 10) (v := ?_) (by simp only [List.getElem?_toArray, List.getElem?_cons_succ, List.getElem?_cons_zero]; rfl) (by kernel_rfl) (by kernel_rfl) (by kernel_rfl) (fun _ _ _ h => by exact h) (Or.inl ⟨by rfl, ?_⟩) (by assumption) ?_
          rotate_left
          · (intro w hSw; (try dsimp only at hSw); go_simp; try with_reducible rfl)
          try simp only [Act.put, List.setIfInBounds_toArray, List.set_cons_zero, List.set_cons_succ]
          refine wpAnyH_take (i := 11) (v := ?_) (by simp only [List.getElem?_toArray, List.getElem?_cons_succ, List.getElem?_cons_zero]; rfl) (by kernel_rfl) (by kernel_rfl) (by kernel_rfl) (fun _ _ _ h => by exact h) (Or.inl ⟨by rfl, ?_⟩) (by assumption) ?_
          rotate_left
          · (intro w hSw; (try dsimp only at hSw); go_simp; try with_reducible rfl)
          try simp only [Act.put, List.setIfInBounds_toArray, List.set_cons_zero, List.set_cons_succ]
          refine wpAnyH_done (by kernel_rfl) ?_ _
          go_wp2_with fail
          go_roundw
          case rel => exact ⟨k + 1, by omega, by go_num, HN.out, HB3.out⟩
          case measure => simp [intOf]; omega
        · have HN := Lib.hid (HE.out (.inr heq))
          have e1 : (h == h0) = false := by simpa using heq
          clear hneg
          go_wp2_with fail
          refine wp_region_held_drew (S := (fun w' : World => Below w.heap.size w w' ∧ w'.cell? ⟨g, o, none⟩ = some (.pointer p0))) (by kernel_rfl) ⟨HB.out, r1⟩ (fun hHeld => ?_)
          refine wpAnyH_take (i := 0) (v := ?_) (by simp only [List.getElem?_toArray, List.getElem?_cons_succ, List.getElem?_cons_zero]; rfl) (by kernel_rfl) (by kernel_rfl) (by kernel_rfl) (fun _ _ _ h => by exact h) (Or.inl ⟨by rfl, ?_⟩) (by assumption) ?_
          rotate_left
          · (intro w hSw; (try dsimp only at hSw); go_simp; try with_reducible rfl)
          try simp only [Act.put, List.setIfInBounds_toArray, List.set_cons_zero, List.set_cons_succ]
          refine wpAnyH_ready (rs := [1]) (by kernel_rfl) (by simp) ?_
          refine AllReadyH.cons (by simp only [List.getElem?_toArray, List.getElem?_cons_succ, List.getElem?_cons_zero]; rfl) (fun K hK => ?_) AllReadyH.nil
          go_simp
          (go_at_call 26; refine (KP.out _ HB.out).mono ?_; rintro e w1 ⟨rfl, hb1⟩; have HB1 := Lib.hid hb1)
          try go_wp2_with fail
          refine hK.out _ _ ?_ (fun hHeld => ?_)
          · exact ⟨HB1.out, (HB1.out.cell (p := ⟨g, o, none⟩) HG.out).trans R1.out⟩
          clear hK K
          try simp only [Act.put, List.setIfInBounds_toArray, List.set_cons_zero, List.set_cons_succ]
          refine wpAnyH_take (i := 2) (v := ?_) (by simp only [List.getElem?_toArray, List.getElem?_cons_succ, List.getElem?_cons_zero]; rfl) (by kernel_rfl) (by kernel_rfl) (by kernel_rfl) (fun _ _ _ h => by exact h) (Or.inl ⟨by rfl, ?_⟩) (by assumption) ?_
          rotate_left
          · (intro w hSw; (try dsimp only at hSw); go_simp; try with_reducible rfl)
          try simp only [Act.put, List.setIfInBounds_toArray, List.set_cons_zero, List.set_cons_succ]
          refine wpAnyH_take (i := 3) (v := ?_) (by simp only [List.getElem?_toArray, List.getElem?_cons_succ, List.getElem?_cons_zero]; rfl) (by kernel_rfl) (by kernel_rfl) (by kernel_rfl) (fun _ _ _ h => by exact h) (Or.inl ⟨by rfl, ?_⟩) (by assumption) ?_
          rotate_left
          · (intro w hSw; (try dsimp only at hSw); go_simp; try with_reducible rfl)
          try simp only [Act.put, List.setIfInBounds_toArray, List.set_cons_zero, List.set_cons_succ]
          refine wpAnyH_take (i := 4) (v := ?_) (by simp only [List.getElem?_toArray, List.getElem?_cons_succ, List.getElem?_cons_zero]; rfl) (by kernel_rfl) (by kernel_rfl) (by kernel_rfl) (fun _ _ _ h => by exact h) (Or.inl ⟨by rfl, ?_⟩) (by assumption) ?_
          rotate_left
          · (intro w hSw; (try dsimp only at hSw); go_simp; try with_reducible rfl)
          try simp only [Act.put, List.setIfInBounds_toArray, List.set_cons_zero, List.set_cons_succ]
          refine wpAnyH_take (i := 6) (v := ?_) (by simp only [List.getElem?_toArray, List.getElem?_cons_succ, List.getElem?_cons_zero]; rfl) (by kernel_rfl) (by kernel_rfl) (by kernel_rfl) (fun _ _ _ h => by exact h) (Or.inl ⟨by rfl, ?_⟩) (by assumption) ?_
          rotate_left
          · (intro w hSw; (try dsimp only at hSw); go_simp; try with_reducible rfl)
          try simp only [Act.put, List.setIfInBounds_toArray, List.set_cons_zero, List.set_cons_succ]
          refine wpAnyH_take (i := 7) (v := ?_) (by simp only [List.getElem?_toArray, List.getElem?_cons_succ, List.getElem?_cons_zero]; rfl) (by kernel_rfl) (by kernel_rfl) (by kernel_rfl) (fun _ _ _ h => by exact h) (Or.inl ⟨by rfl, ?_⟩) (by assumption) ?_
          rotate_left
          · (intro w hSw; (try dsimp only at hSw); go_simp; try with_reducible rfl)
          try simp only [Act.put, List.setIfInBounds_toArray, List.set_cons_zero, List.set_cons_succ]
          refine wpAnyH_take (i := 8) (v := ?_) (by simp only [List.getElem?_toArray, List.getElem?_cons_succ, List.getElem?_cons_zero]; rfl) (by kernel_rfl) (by kernel_rfl) (by kernel_rfl) (fun _ _ _ h => by exact h) (Or.inl ⟨by rfl, ?_⟩) (by assumption) ?_
          rotate_left
          · (intro w hSw; (try dsimp only at hSw); go_simp; try with_reducible rfl)
          try simp only [Act.put, List.setIfInBounds_toArray, List.set_cons_zero, List.set_cons_succ]
          refine wpAnyH_ready (rs := [5]) (by kernel_rfl) (by simp) ?_
          refine AllReadyH.cons (by simp only [List.getElem?_toArray, List.getElem?_cons_succ, List.getElem?_cons_zero]; rfl) (fun K hK => ?_) AllReadyH.nil
          go_simp
          (go_at_call 26; refine (KP.out _ HB1.out).mono ?_; rintro e w2 ⟨rfl, hb2⟩; have HB2 := Lib.hid hb2)
          try go_wp2_with fail
          refine hK.out _ _ ?_ (fun hHeld => ?_)
          · exact ⟨HB2.out, (HB2.out.cell (p := ⟨g, o, none⟩) HG.out).trans R1.out⟩
          clear hK K
          try simp only [Act.put, List.setIfInBounds_toArray, List.set_cons_zero, List.set_cons_succ]
          refine wpAnyH_ready (rs := [9]) (by kernel_rfl) (by simp) ?_
          refine AllReadyH.cons (by simp only [List.getElem?_toArray, List.getElem?_cons_succ, List.getElem?_cons_zero]; rfl) (fun K hK => ?_) AllReadyH.nil
          go_simp
          (go_at_call 26; refine (K0.out _ HB2.out).mono ?_; rintro e w3 ⟨rfl, hb3⟩; have HB3 := Lib.hid hb3)
          try go_wp2_with fail
          refine hK.out _ _ ?_ (fun hHeld => ?_)
          · exact ⟨HB3.out, (HB3.out.cell (p := ⟨g, o, none⟩) HG.out).trans R1.out⟩
          clear hK K
          try simp only [Act.put, List.setIfInBounds_toArray, List.set_cons_zero, List.set_cons_succ]
          refine wpAnyH_take (i := 10) (v := ?_) (by simp only [List.getElem?_toArray, List.getElem?_cons_succ, List.getElem?_cons_zero]; rfl) (by kernel_rfl) (by kernel_rfl) (by kernel_rfl) (fun _ _ _ h => by exact h) (Or.inl ⟨by rfl, ?_⟩) (by assumption) ?_
          rotate_left
          · (intro w hSw; (try dsimp only at hSw); go_simp; try with_reducible rfl)
          try simp only [Act.put, List.setIfInBounds_toArray, List.set_cons_zero, List.set_cons_succ]
          refine wpAnyH_take (i := 11) (v := ?_) (by simp only [List.getElem?_toArray, List.getElem?_cons_succ, List.getElem?_cons_zero]; rfl) (by kernel_rfl) (by kernel_rfl) (by kernel_rfl) (fun _ _ _ h => by exact h) (Or.inl ⟨by rfl, ?_⟩) (by assumption) ?_
          rotate_left
          · (intro w hSw; (try dsimp only at hSw); go_simp; try with_reducible rfl)
          try simp only [Act.put, List.setIfInBounds_toArray, List.set_cons_zero, List.set_cons_succ]
          refine wpAnyH_done (by kernel_rfl) ?_ _
          go_wp2_with fail
          go_ret
          exact ⟨false, rfl, ⟨(fun h => Bool.noConfusion h), fun h => absurd h HN.out⟩, HB3.out⟩
      -- END GEN EVEN
    · obtain rfl : k = n := by omega
      have HE := Lib.hid hE; have HB := Lib.hid hbel
      clear hE hbel
      go_wp2
      go_ret
      exact ⟨true, rfl, ⟨fun _ => HE.out, fun _ => rfl⟩, HB.out⟩
end Go.Proofs.Ytephlcdanokolaa
