/-
  The laws on marks (layer 22): what comes in, lives, MarksFinds.
-/
import Derived.Test.YtimlfgjljnkbcaaMarkDev2
import Derived.Test.YtimlfgjljnkbcaaMarkDev3
import Derived.Test.YtimlfgjljnkbcaaMarkRef2
namespace Go.Proofs.Ytimlfgjljnkbcaa
open Go.RowKit Go.ChangeShapes Go.WideShapes Go.Deep
set_option linter.unusedVariables false

section
variable {H : Type} {enc : TypeId × Value → H} {w : World} {base : Nat} {spare : Nat → Bool} {held : Bool}
set_option maxRecDepth 100000 in
/-- Marks that come in: where they lie, and their room. -/
theorem open_marks {r : Reach} {b0 : Nat} {v : Value} {d : DataW H} {p : List MemPlace} (hv : Value.okWide Try.prog w r b0 22 v) (h : DataW.Trod enc Try.prog w base spare held 22 v d p) (_ : ∀ x ∈ p, x.block < w.heap.size) :
    ∃ (a : Option Addr) (l : List Mrk) (c : Nat), v = .slice a l.length c ∧ Pcs w ⟨a, l, c⟩ ∧ (l.length ≤ c ∧ c ≤ maxLen) ∧ ∀ x ∈ l, x.fits := by
  rcases open_row Try.underlying22 hv h with rfl | ⟨a, len, cap, rfl, hlc, hcm, hx⟩
  · exact ⟨none, [], 0, rfl, ⟨fun k hk => absurd hk (by simp), fun _ => rfl⟩, ⟨Nat.le_refl _, Nat.zero_le _⟩, fun x hx => absurd hx (by simp)⟩
  · obtain ⟨V, hV⟩ := choose_lt (α := Mrk) (p := fun i x => x.fits ∧ w.cells? base (a.add (i * Try.prog.cellsOf 30)) (Try.prog.cellsOf 30) = some [.string x.name, .int .i64 x.p]) (fun i hi => by
      obtain ⟨cs, n, x, h1, h2⟩ := hx i hi
      obtain ⟨c, hf, rfl⟩ := trod_mrk h2
      exact ⟨c, hf, h1⟩)
    have hlen : ((List.range len).map V).length = len := by simp
    refine ⟨some a, (List.range len).map V, cap, by rw [hlen], ⟨fun k hk => ?_, fun e => by cases e⟩, ⟨by rw [hlen]; exact hlc, hcm⟩, fun x hx => ?_⟩
    · have hk' : k < len := by rw [hlen] at hk; exact hk
      have h1 := (hV k hk').2
      rw [cells_mrk] at h1
      obtain ⟨_, hc⟩ := cells_get h1
      have hbl : (a.add (k * 2)).block = a.block := by unfold Addr.add; split <;> rfl
      have q0 := hc 0 (by simp)
      have q1 := hc 1 (by simp)
      refine ⟨a, rfl, ?_, ?_, ?_⟩
      · have := World.block_lt_of_cell? w _ q0
        rwa [show ((a.add (k * 2)).add 0).block = (a.add (k * 2)).block by unfold Addr.add; simp, hbl] at this
      · simpa [Addr.add] using q0
      · simpa [Addr.add] using q1
    · obtain ⟨i, hi, rfl⟩ := List.mem_map.1 hx
      exact (hV i (List.mem_range.1 hi)).1
end

theorem few_any (a : Option Addr) (n c : Nat) (w : World) : Calls Try.prog 7 #[.slice a n c] w fun e w' => e = .returned (.bool (decide (n ≤ 40))) ∧ w = w' := by
  obtain ⟨r, hr⟩ : ∃ r, decide (n ≤ 40) = r := ⟨_, rfl⟩
  rw [hr]
  have HR := Lib.hid hr; clear hr
  go_enter Try.func7, Try.ntmps7
  go_wp2
  go_ret
  exact ⟨ret_bool (by rw [← HR.out]; exact decide_eq_decide.2 (by omega)), rfl⟩

theorem live_rise22 : riseM [⟨⟨#[97]⟩, 1⟩, ⟨⟨#[99]⟩, 2⟩] = true := by decide +kernel
theorem live_set22 : setM [⟨⟨#[97]⟩, 1⟩, ⟨⟨#[99]⟩, 2⟩] ⟨⟨#[98]⟩, 3⟩ = ([⟨⟨#[97]⟩, 1⟩, ⟨⟨#[98]⟩, 3⟩, ⟨⟨#[99]⟩, 2⟩], 0) := by decide +kernel

set_option maxRecDepth 100000 in
set_option maxHeartbeats 800000 in
theorem lives22_any (w : World) : Calls Try.prog 8 #[] w fun e w' => e = .returned (.bool true) ∧ Below w.heap.size w w' := by
  have hp : Pcs (w.alloc (.cells #[.string ⟨#[97]⟩, .int .i64 1, .string ⟨#[99]⟩, .int .i64 2] 30)) ⟨some ⟨w.heap.size, 0, none⟩, [⟨⟨#[97]⟩, 1⟩, ⟨⟨#[99]⟩, 2⟩], 2⟩ :=
    ⟨fun k hk => by
      match k, hk with
      | 0, _ => exact ⟨_, rfl, by simp, by simp [Addr.add, World.cell?_alloc_new], by simp [Addr.add, World.cell?_alloc_new]⟩
      | 1, _ => exact ⟨_, rfl, by simp, by simp [Addr.add, World.cell?_alloc_new], by simp [Addr.add, World.cell?_alloc_new]⟩, fun e => by cases e⟩
  have cs := mset_any _ _ _ ⟨⟨#[98]⟩, 3⟩ _ hp (by decide) (by decide) (by decide) (by decide) live_rise22
  rw [live_set22] at cs
  have hb0 : Below w.heap.size w (w.alloc (.cells #[.string ⟨#[97]⟩, .int .i64 1, .string ⟨#[99]⟩, .int .i64 2] 30)) := (Below.refl w.heap.size w).alloc (Nat.le_refl _) _
  have CS := Lib.hid cs; have HB := Lib.hid hb0
  clear cs hp hb0
  go_enter Try.func8, Try.ntmps8
  go_wp2_with fail
  refine CS.out.mono ?_
  rintro e w1 ⟨a3, c3, rfl, hm, hb⟩
  obtain ⟨ad, e1, -, q1, -⟩ := hm 1 (by decide)
  obtain ⟨ad2, e2, -, q2, -⟩ := hm 2 (by decide)
  subst e1
  obtain rfl : ad = ad2 := by injection e2
  have r1 : w1.cell? ⟨ad.block, ad.off + 2, none⟩ = some (.string ⟨#[98]⟩) := by simpa [Addr.add] using q1
  have r2 : w1.cell? ⟨ad.block, ad.off + 4, none⟩ = some (.string ⟨#[99]⟩) := by simpa [Addr.add] using q2
  have HB1 := Lib.hid (HB.out.trans (hb.mono HB.out.size))
  clear hm hb q1 q2 e2
  go_wp2
  go_ret
  exact ⟨rfl, HB1.out⟩

set_option maxRecDepth 100000 in
set_option maxHeartbeats 1600000 in
theorem marksFinds_walk (a : Option Addr) (l : List Mrk) (c : Nat) (name text : ByteArray) (w : World) (fp : Pcs w ⟨a, l, c⟩) (fl : l.length ≤ c ∧ c ≤ maxLen) (ff : ∀ x ∈ l, x.fits) (hn : name.size ≤ maxLen) (ht : text.size ≤ maxLen) :
    Calls Try.prog 3 #[.slice a l.length c, .string name, .string text] w fun e w' => e = .returned (.bool true) ∧ Below w.heap.size w w' := by
  clear hn
  unfold maxLen at ht
  have cfew := few_any a l.length c
  by_cases h1 : l.length ≤ 40
  case neg =>
    rw [decide_eq_false h1] at cfew
    obtain ⟨n, hn⟩ : ∃ n, l.length = n := ⟨_, rfl⟩
    rw [hn] at cfew ⊢
    have CF := Lib.hid cfew
    clear cfew hn fp fl ff h1
    go_enter Try.func3, Try.ntmps3
    go_wp2_with (first
      | (go_at_call 7; refine (CF.out _).mono ?_; rintro e w1 ⟨rfl, rfl⟩)
      | (go_at_call 8; refine (lives22_any _).mono ?_; rintro e w1 ⟨rfl, hb1⟩))
    go_ret
    exact ⟨rfl, hb1⟩
  rw [decide_eq_true h1] at cfew
  by_cases h2 : 600 < text.size
  · obtain ⟨n, hn⟩ : ∃ n, l.length = n := ⟨_, rfl⟩
    rw [hn] at cfew ⊢
    have CF := Lib.hid cfew
    clear cfew hn fp fl ff h1
    go_enter Try.func3, Try.ntmps3
    go_wp2_with (first
      | (go_at_call 7; refine (CF.out _).mono ?_; rintro e w1 ⟨rfl, rfl⟩)
      | (go_at_call 8; refine (lives22_any _).mono ?_; rintro e w1 ⟨rfl, hb1⟩))
    go_ret
    exact ⟨rfl, hb1⟩
  have hsz : ∀ x ∈ l, x.name.size ≤ maxLen := fun x hx => (ff x hx).1
  have c1 := fun W (hW : Below w.heap.size w W) => mfound_any a l c name _ W (fp.later hW).row (fun _ h => h) (by omega)
  have c2 := fun W (hW : Below w.heap.size w W) => rfind22_any a l c name _ W (fp.later hW).row (by omega)
  have c3 := fun W (hW : Below w.heap.size w W) => mright_any a l c text _ W (fp.later hW).row (fun _ h => h) hsz (by unfold maxLen; omega) (by omega)
  have c4 := fun W (hW : Below w.heap.size w W) => rright22_any a l c text _ W (fp.later hW).row (fun _ h => h) (by omega) hsz (by omega)
  obtain ⟨n, hn⟩ : ∃ n, l.length = n := ⟨_, rfl⟩
  rw [hn] at cfew c1 c2 c3 c4 ⊢
  obtain ⟨⟨p, q⟩, hpq⟩ : ∃ r, fndM l name = r := ⟨_, rfl⟩
  rw [hpq] at c1 c2
  obtain ⟨r, hr⟩ : ∃ r, rightM l text = r := ⟨_, rfl⟩
  rw [hr] at c3 c4
  have CF := Lib.hid cfew; have C1 := Lib.hid c1; have C2 := Lib.hid c2; have C3 := Lib.hid c3; have C4 := Lib.hid c4
  clear cfew hn fp fl ff h1 c1 c2 c3 c4 hpq hr hsz
  go_enter Try.func3, Try.ntmps3
  go_wp2_with fail
  refine (CF.out _).mono ?_; rintro e w0 ⟨rfl, rfl⟩
  go_wp2_with fail
  refine (C1.out _ (Below.refl _ _)).mono ?_; rintro e w1 ⟨rfl, hb1⟩
  have HB1 := Lib.hid hb1; clear hb1
  go_wp2_with fail
  refine (C2.out _ HB1.out).mono ?_; rintro e w2 ⟨rfl, rfl⟩
  go_wp2_with fail
  refine (C3.out _ HB1.out).mono ?_; rintro e w2 ⟨rfl, hb2⟩
  have HB2 := Lib.hid (HB1.out.trans (hb2.mono HB1.out.size)); clear hb2
  go_wp2_with fail
  refine (C4.out _ HB2.out).mono ?_; rintro e w3 ⟨rfl, hb3⟩
  have HB3 := Lib.hid (HB2.out.trans (hb3.mono HB2.out.size)); clear hb3
  go_wp2_with fail
  refine (lives22_any _).mono ?_; rintro e w4 ⟨rfl, hb4⟩
  have HB4 := Lib.hid (HB3.out.trans (hb4.mono HB3.out.size)); clear hb4
  go_wp2
  go_ret
  exact ⟨rfl, HB4.out⟩
end Go.Proofs.Ytimlfgjljnkbcaa
