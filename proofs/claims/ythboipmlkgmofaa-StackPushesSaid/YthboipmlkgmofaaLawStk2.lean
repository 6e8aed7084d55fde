/-
  The laws on stacks (layer 24), second part: lives, StackGoes.
-/
import Derived.Test.YthboipmlkgmofaaLawStk
namespace Go.Proofs.Ythboipmlkgmofaa
open Go.RowKit
set_option linter.unusedVariables false
set_option linter.unusedSimpArgs false

theorem live_push24 : pushL (lsP []) [⟨0, ⟨#[]⟩, ⟨#[97]⟩⟩] = [[⟨0, ⟨#[]⟩, ⟨#[97]⟩⟩]] := rfl
theorem live_goes24 : goes16 invL ⟨#[97]⟩ [[⟨0, ⟨#[]⟩, ⟨#[97]⟩⟩]] = true := by decide +kernel
theorem live_not24 : goes16 id ⟨#[97]⟩ [[⟨0, ⟨#[]⟩, ⟨#[97]⟩⟩], []] = false := by decide +kernel

set_option maxRecDepth 100000 in
set_option maxHeartbeats 1600000 in
theorem lives24_any (w : World) : Calls Try.prog 6 #[] w fun e w' => e = .returned (.bool true) ∧ Below w.heap.size w w' := by
  obtain ⟨i0, hi, hz0, hz1, hz2⟩ := info_parts step_info
  have c1 := stk_pop_none none 0 w
  have C1 := Lib.hid c1
  clear c1
  go_enter Try.func6, Try.ntmps6
  go_wp2_with fail
  refine C1.out.mono ?_
  rintro e w1 ⟨rfl, hb1⟩
  have HB1 := Lib.hid (hb1.alloc hb1.size (.cells #[.slice none 0 0] 25))
  have hp : EPcs ((w1.alloc (.cells #[.slice none 0 0] 25)).alloc (.cells #[.int .i64 0, .string ⟨#[]⟩, .string ⟨#[97]⟩] 38)) ⟨some ⟨(w1.heap.size + 1), 0, none⟩, [⟨0, ⟨#[]⟩, ⟨#[97]⟩⟩], 1⟩ := ⟨fun k hk => by
      match k, hk with
      | 0, _ => exact ⟨_, rfl, by simp, by simp [Addr.add, World.cell?_alloc_new], by simp [Addr.add, World.cell?_alloc_new], by simp [Addr.add, World.cell?_alloc_new]⟩, fun e => by cases e⟩
  have c2 := stk_push_any none [] 0 ⟨some ⟨(w1.heap.size + 1), 0, none⟩, [⟨0, ⟨#[]⟩, ⟨#[97]⟩⟩], 1⟩ _ (SPcs.empty _) hp (by decide) (fun x hx => absurd hx (by simp)) (Nat.le_of_ble_eq_true rfl)
  simp only at c2
  rw [live_push24] at c2
  have HB2 := Lib.hid (HB1.out.alloc HB1.out.size (.cells #[.int .i64 0, .string ⟨#[]⟩, .string ⟨#[97]⟩] 38))
  have C2 := Lib.hid c2
  clear c2 hp hb1
  go_wp2_with fail
  refine C2.out.mono ?_
  rintro e w3 ⟨a3, c3, l3, rfl, hl3, hr3, ⟨g3, rfl, hg3, hq3⟩, ho3, hb3⟩
  have hlen : l3.length = 1 := by rw [← lsP_len, hl3]; rfl
  have hb : ∀ x ∈ l3, x.l.length ≤ 100000 ∧ Edtz x.l 4294967296 := fun x hx => by
    have h : x.l ∈ lsP l3 := List.mem_map_of_mem hx
    rw [hl3] at h
    obtain h := List.mem_singleton.1 h
    rw [h]
    exact ⟨by decide, fun y hy => by obtain rfl := List.mem_singleton.1 hy; exact ⟨by decide, by decide⟩⟩
  have c3' := undoes_any ⟨#[97]⟩ (some ⟨g3, 0, none⟩) l3 c3 w3 hr3.in (by decide) (by omega) hb
  rw [hl3, live_goes24] at c3'
  rw [hlen] at c3' ho3 ⊢
  have C3 := Lib.hid c3'; have HO3 := Lib.hid ho3; have HB3 := Lib.hid (HB2.out.trans (hb3.mono HB2.out.size)); have HR3 := Lib.hid hr3
  clear c3' ho3 hb3 hr3
  go_wp2_with fail
  refine C3.out.mono ?_
  rintro e w4 ⟨rfl, hb4⟩
  have HO4 := Lib.hid (own_mono (own_on HO3.out hb4) HB2.out.size)
  have hb4' := hb4
  have HB4 := Lib.hid (HB3.out.trans (hb4.mono HB3.out.size))
  clear hb4
  have HA4 := Lib.hid (fun x hx => ((hq3 x hx).below hb4').below ((Below.refl w4.heap.size w4).alloc (Nat.le_refl _) (.cells #[.slice none 0 0] 25)))
  have HB5 := Lib.hid (HB4.out.alloc HB4.out.size (.cells #[.slice none 0 0] 25))
  have HL := Lib.hid hl3; have HN := Lib.hid hlen
  clear hl3 hlen hq3 hb hb4'
  go_wp2_with (at_builtin; refine wpList_append_srcw _ (by rfl) (.tmp 26) (.tmp 28) 22 rfl w.heap.size 25 i0 _ 1 24 Try.underlying22 hi hz0 hz1 hz2 rfl (by decide) (.slice (some ⟨g3, 0, none⟩) 1 c3) 1 (sflat l3) rfl (HO4.out.alloc _) (.slice (some ⟨w4.heap.size, 0, none⟩) 1 1) 1 [.slice none 0 0] rfl (src_one (Blk.new w4 _ _)) (by unfold maxLen; decide) (by decide) HB5.out.size ?_)
  intro v6 w6 ho6 hg6
  have hb6 := HB5.out.grown hg6 HB5.out.size (own_block HO4.out)
  have ha6 : SAll w6 (l3 ++ [nilS]) := fun x hx => by
    rcases List.mem_append.1 hx with h | h
    · exact ((HA4.out x h).grown hg6).in
    · obtain rfl := List.mem_singleton.1 h
      exact EPcs.empty _
  have e6 : sflat l3 ++ [.slice none 0 0] = sflat (l3 ++ [nilS]) := by rw [sflat_app]; rfl
  have n6 : (l3 ++ [nilS]).length = 2 := by rw [List.length_append, HN.out]; rfl
  have l6 : lsP (l3 ++ [nilS]) = [[⟨0, ⟨#[]⟩, ⟨#[97]⟩⟩], []] := by rw [lsP_app, HL.out]; rfl
  rw [e6, ← n6] at ho6
  obtain ⟨a6, c6, ev, hr6⟩ := own_srow ho6 ha6
  rw [n6] at ev
  subst ev
  have hb7 : ∀ x ∈ l3 ++ [nilS], x.l.length ≤ 100000 ∧ Edtz x.l 4294967296 := fun x hx => by
    have h : x.l ∈ lsP (l3 ++ [nilS]) := List.mem_map_of_mem hx
    rw [l6] at h
    simp at h
    rcases h with h | h
    · rw [h]
      exact ⟨by decide, fun y hy => by obtain rfl := List.mem_singleton.1 hy; exact ⟨by decide, by decide⟩⟩
    · rw [h]
      exact ⟨by decide, fun y hy => absurd hy (by simp)⟩
  have c7 := redoes_any ⟨#[97]⟩ a6 _ c6 w6 hr6.in (by decide) (by omega) hb7
  rw [l6, live_not24, n6] at c7
  have C7 := Lib.hid c7; have HB6 := Lib.hid hb6
  clear c7 hb6 ha6 ho6 hg6 hr6 hb7 e6 n6 l6 HA4
  go_wp2_with fail
  refine C7.out.mono ?_
  rintro e w7 ⟨rfl, hb7⟩
  have HB7 := Lib.hid (HB6.out.trans (hb7.mono HB6.out.size))
  clear hb7
  go_wp2
  go_ret
  exact ⟨rfl, HB7.out⟩

theorem Edtz.up {l : List Edt} {b d : Nat} (h : Edtz l b) (hb : b ≤ d) : Edtz l d := fun x hx => by have := h x hx; omega

set_option maxRecDepth 100000 in
set_option maxHeartbeats 1600000 in
theorem stackGoes_walk (t : ByteArray) (a : Option Addr) (l : List EPc) (c : Nat) (w : World) (ht : t.size ≤ maxLen) (fp : SPcs w ⟨a, l, c⟩) (ff : ∀ x ∈ l, (x.l.length ≤ x.c ∧ x.c ≤ maxLen) ∧ ∀ y ∈ x.l, y.fits) :
    Calls Try.prog 4 #[.string t, .slice a l.length c] w fun e w' => e = .returned (.bool true) ∧ Below w.heap.size w w' := by
  have cf := few24_any a l c w fp (fun x hx => (ff x hx).1)
  unfold maxLen at ht
  by_cases h1 : 600 < t.size
  · have h2 : (600 : Int) < (t.size : Int) := by omega
    obtain ⟨n, hn⟩ : ∃ n, l.length = n := ⟨_, rfl⟩
    rw [hn]
    clear cf fp ff hn h1
    go_enter Try.func4, Try.ntmps4
    go_wp2_with fail
    refine (lives24_any _).mono ?_; rintro e w1 ⟨rfl, hb1⟩
    go_wp2
    go_ret
    exact ⟨rfl, hb1⟩
  have h2 : (t.size : Int) ≤ 600 := by omega
  cases hfe : fewS l
  · rw [hfe] at cf
    obtain ⟨n, hn⟩ : ∃ n, l.length = n := ⟨_, rfl⟩
    rw [hn] at cf ⊢
    have CF := Lib.hid cf
    clear cf fp ff hn h1 hfe
    go_enter Try.func4, Try.ntmps4
    go_wp2_with fail
    refine CF.out.mono ?_; rintro e w0 ⟨rfl, hb0⟩
    have HB0 := Lib.hid hb0; clear hb0
    go_wp2_with fail
    refine (lives24_any _).mono ?_; rintro e w1 ⟨rfl, hb1⟩
    have HB := Lib.hid (HB0.out.trans (hb1.mono HB0.out.size)); clear hb1
    go_wp2
    go_ret
    exact ⟨rfl, HB.out⟩
  rw [hfe] at cf
  obtain ⟨hl, hz⟩ := fewS_z hfe
  have hz2 : ∀ x ∈ l, x.l.length ≤ 100000 ∧ Edtz x.l 4294967296 := fun x hx => ⟨Nat.le_trans (hz x hx).1 (by decide), (hz x hx).2.up (by decide)⟩
  have c1 := fun W (h : Below w.heap.size w W) => undoes_any t a l c W (fp.later h) (by omega) (by omega) hz2
  have c2 := fun W (h : Below w.heap.size w W) => rundoes_any t a l c W (fp.later h) (by omega) (by omega) hz2
  have c3 := fun W (h : Below w.heap.size w W) => redoes_any t a l c W (fp.later h) (by omega) (by omega) hz2
  have c4 := fun W (h : Below w.heap.size w W) => rredoes_any t a l c W (fp.later h) (by omega) (by omega) hz2
  obtain ⟨r1, hr1⟩ : ∃ r, goes16 invL t (lsP l) = r := ⟨_, rfl⟩
  obtain ⟨r2, hr2⟩ : ∃ r, goes16 id t (lsP l) = r := ⟨_, rfl⟩
  obtain ⟨n, hn⟩ : ∃ n, l.length = n := ⟨_, rfl⟩
  rw [hr1, hn] at c1 c2
  rw [hr2, hn] at c3 c4
  rw [hn] at cf ⊢
  have CF := Lib.hid cf; have C1 := Lib.hid c1; have C2 := Lib.hid c2; have C3 := Lib.hid c3; have C4 := Lib.hid c4
  clear cf fp ff hn h1 hfe hl hz hz2 c1 c2 c3 c4 hr1 hr2
  go_enter Try.func4, Try.ntmps4
  go_wp2_with fail
  refine CF.out.mono ?_; rintro e w0 ⟨rfl, hb0⟩
  have HB0 := Lib.hid hb0; clear hb0
  go_wp2_with fail
  refine (C1.out _ HB0.out).mono ?_; rintro e w1 ⟨rfl, hb1⟩
  have HB1 := Lib.hid (HB0.out.trans (hb1.mono HB0.out.size)); clear hb1
  go_wp2_with fail
  refine (C2.out _ HB1.out).mono ?_; rintro e w2 ⟨rfl, hb2⟩
  have HB2 := Lib.hid (HB1.out.trans (hb2.mono HB1.out.size)); clear hb2
  go_wp2_with fail
  refine (C3.out _ HB2.out).mono ?_; rintro e w3 ⟨rfl, hb3⟩
  have HB3 := Lib.hid (HB2.out.trans (hb3.mono HB2.out.size)); clear hb3
  go_wp2_with fail
  refine (C4.out _ HB3.out).mono ?_; rintro e w4 ⟨rfl, hb4⟩
  have HB4 := Lib.hid (HB3.out.trans (hb4.mono HB3.out.size)); clear hb4
  go_wp2_with fail
  refine (lives24_any _).mono ?_; rintro e w5 ⟨rfl, hb5⟩
  have HB5 := Lib.hid (HB4.out.trans (hb5.mono HB4.out.size)); clear hb5
  go_wp2
  go_ret
  exact ⟨by simp, HB5.out⟩
end Go.Proofs.Ythboipmlkgmofaa
