/-
  Contracts of the program's folder (layer 9), sixth part: a new one, a copy, the numbers.
-/
import Derived.Test.YtpcbfkcpefcnjaaFoldDev5
namespace Go.Proofs.Ytpcbfkcpefcnjaa
open Go.RowKit
set_option linter.unusedVariables false

theorem new_fold (w : World) : Fold (((w.alloc (.map #[] 0)).alloc (.map #[] 0)).alloc (.cells #[.map (some w.heap.size), .map (some (w.heap.size + 1)), .slice none 0 0] 51)) (w.heap.size + 2) w.heap.size (w.heap.size + 1) (.slice none 0 0) [] [] ∧
    Below w.heap.size w (((w.alloc (.map #[] 0)).alloc (.map #[] 0)).alloc (.cells #[.map (some w.heap.size), .map (some (w.heap.size + 1)), .slice none 0 0] 51)) := by
  have s1 : (w.alloc (.map #[] 0)).heap.size = w.heap.size + 1 := by simp
  have s2 : ((w.alloc (.map #[] 0)).alloc (.map #[] 0)).heap.size = w.heap.size + 2 := by simp
  have m1 := (MapE.made w).box (.map #[] 0) |>.box (.cells #[.map (some w.heap.size), .map (some (w.heap.size + 1)), .slice none 0 0] 51)
  have m2 := (MapE.made (w.alloc (.map #[] 0))).box (.cells #[.map (some w.heap.size), .map (some (w.heap.size + 1)), .slice none 0 0] 51)
  rw [s1] at m2
  have hb := (MapKept.heap_alloc ((w.alloc (.map #[] 0)).alloc (.map #[] 0)) (.cells #[.map (some w.heap.size), .map (some (w.heap.size + 1)), .slice none 0 0] 51)).1
  rw [s2] at hb
  exact ⟨⟨hb, m1, m2, World.ownsRow_nil _ _ _ _, by omega, okE_nil, trivial, fun _ => rfl⟩, (((Below.refl _ w).alloc (Nat.le_refl _) _).alloc (by simp) _).alloc (by simp; omega) _⟩
set_option maxRecDepth 100000 in
set_option maxHeartbeats 400000 in
theorem fonew_f (w : World) : Calls Try.prog 7 #[] w fun e w' => e = .returned (.pointer (some ⟨w.heap.size + 2, 0, none⟩)) ∧ Fold w' (w.heap.size + 2) w.heap.size (w.heap.size + 1) (.slice none 0 0) [] [] ∧ Below w.heap.size w w' := by
  have hmk := fun (w : World) => run_makeMap (P := Try.prog) 48 w
  go_enter Try.func7, Try.ntmps7
  go_wp2
  go_ret
  exact ⟨rfl, new_fold w⟩

theorem one_flat (cs : List Chg) : ∀ u ∈ Chg.flat cs, u.oneCell' = true := by
  intro u hu
  obtain ⟨c, _, h⟩ := List.mem_flatMap.1 hu
  exact one_chg _ _ _ _ u h
theorem own_base {w : World} {base base' : Nat} {e : TypeId} {size : Nat} {v : Value} {n : Nat} {xs : List Value} (h : w.ownsRow base e size v n xs) (hb : base' ≤ base) : w.ownsRow base' e size v n xs := by
  refine ⟨h.1, ?_⟩
  rcases h.2 with h | ⟨g, cap, cur, rfl, h1, r⟩
  · exact .inl h
  · exact .inr ⟨g, cap, cur, rfl, Nat.le_trans hb h1, r⟩
theorem foclonec_any {w : World} {v : Value} {cs : List Chg} (h : w.ownsRow 0 60 4 v cs.length (Chg.flat cs)) (hnv : cs = [] → v = .slice none 0 0) (hcs : cs.length ≤ 1000000) :
    Calls Try.prog 26 #[v] w fun e w' => ∃ v', e = .returned v' ∧ w'.ownsRow w.heap.size 60 4 v' cs.length (Chg.flat cs) ∧ (cs = [] → v' = .slice none 0 0) ∧ Below w.heap.size w w' := by
  obtain ⟨i0, hi, hz0, hz1, hz2⟩ := info_parts chg_info
  rcases own_form h with ⟨rfl, h0⟩ | ⟨g, cap, rfl, h1, h2⟩
  · have hnil : cs = [] := List.length_eq_zero_iff.1 h0
    subst hnil
    refine (AnyE.slices_Clone_nil Try.foClone 0 0 w).mono ?_
    rintro e w' ⟨rfl, rfl⟩
    exact ⟨_, rfl, World.ownsRow_nil _ _ _ _, fun _ => rfl, Below.refl _ _⟩
  · have hcells : ∀ j u, (Chg.flat cs)[j]? = some u → w.cell? ⟨g, 0 + j, none⟩ = some u := fun j u hu => by
      have := h.cells (g := g) rfl j u hu
      rw [add_flat] at this
      rw [Nat.zero_add]
      exact this
    refine (AnyE.slices_Clone Try.foClone i0 _ 4 48 hi hz0 hz1 hz2 rfl (by decide) Try.sizeOf60 g 0 cs.length cap (Chg.flat cs) w (Chg.flat_len cs) (by unfold maxLen; omega) (by omega) hcells (one_flat cs)).mono ?_
    rintro e w' ⟨v', rfl, hr, hv, hb⟩
    exact ⟨v', rfl, hr, (fun hnil => by have := hnv hnil; cases this), hb⟩
/-- What a copy in the making leaves as it was. -/
def Cp9 (w : World) (a bn bk : Nat) (v : Value) (w' : World) : Prop := Below w.heap.size w w' ∧ w'.cell? ⟨a, 0, none⟩ = some (.map (some bn)) ∧ w'.cell? ⟨a, 1, none⟩ = some (.map (some bk)) ∧ w'.cell? ⟨a, 2, none⟩ = some v
theorem cp9_start {w : World} {a bn bk : Nat} {v : Value} {cs : List Chg} {l : List Ent} (h : Fold w a bn bk v cs l) : Cp9 w a bn bk v w.drew := by
  obtain ⟨c0, c1, c2, f0, f1, f2⟩ := blk3 h.blk
  exact ⟨(Below.refl _ _).drew, c0, c1, c2⟩
theorem cp9_on {w w' w1 : World} {a bn bk : Nat} {v : Value} (h : Cp9 w a bn bk v w') (ha : a < w.heap.size) (hb : Below w'.heap.size w' w1) : Cp9 w a bn bk v w1 :=
  ⟨h.1.trans (hb.mono h.1.size), (hb.cell (p := ⟨a, 0, none⟩) (Nat.lt_of_lt_of_le ha h.1.size)).trans h.2.1, (hb.cell (p := ⟨a, 1, none⟩) (Nat.lt_of_lt_of_le ha h.1.size)).trans h.2.2.1, (hb.cell (p := ⟨a, 2, none⟩) (Nat.lt_of_lt_of_le ha h.1.size)).trans h.2.2.2⟩
theorem cp9_box {w w' : World} {a bn bk : Nat} {v : Value} (h : Cp9 w a bn bk v w') (ha : a < w.heap.size) (o : Obj) : Cp9 w a bn bk v (w'.alloc o) := cp9_on h ha ((Below.refl _ _).alloc (Nat.le_refl _) _)
theorem map_on {w w1 : World} {b : Nat} {l : List Ent} (h : Hid (MapE w b l)) (hb : Below w.heap.size w w1) : Hid (MapE w1 b l) := Lib.hid (h.out.keep (hb.block b h.out.lt))
theorem row_on {w w1 : World} {base : Nat} {e : TypeId} {size : Nat} {v : Value} {n : Nat} {xs : List Value} (h : Hid (w.ownsRow base e size v n xs)) (hb : Below w.heap.size w w1) : Hid (w1.ownsRow base e size v n xs) := Lib.hid (own_keep h.out (fun g hg => hb.block g (h.out.lt g hg).2))
theorem copy_end {w W : World} {a bn bk nn nk B : Nat} {v v' : Value} {cs : List Chg} {l : List Ent} (h : Fold w a bn bk v cs l) (hn : MapE W nn (allE l cs)) (hk : MapE W nk l) (hr : W.ownsRow B 60 4 v' cs.length (Chg.flat cs)) (hv : cs = [] → v' = .slice none 0 0)
    (hb : Below w.heap.size w W) (h1 : w.heap.size ≤ nn) (h2 : w.heap.size ≤ nk) (h3 : nn ≠ nk) (h4 : w.heap.size ≤ B) :
    Fold (W.alloc (.cells #[.map (some nn), .map (some nk), v'] 51)) W.heap.size nn nk v' cs l ∧ (∀ b ∈ foS W.heap.size nn nk v', w.heap.size ≤ b) ∧ Below w.heap.size w (W.alloc (.cells #[.map (some nn), .map (some nk), v'] 51)) := by
  refine ⟨⟨(MapKept.heap_alloc W _).1, hn.box _, hk.box _, own_base (hr.alloc _) (Nat.zero_le _), h3, h.oke, h.may, hv⟩, fun b hb' => ?_, hb.alloc hb.size _⟩
  rcases (foS_mem b).1 hb' with rfl | rfl | rfl | g
  · exact hb.size
  · exact h1
  · exact h2
  · exact Nat.le_trans h4 (hr.lt b g).1
set_option maxRecDepth 100000 in
set_option maxHeartbeats 3200000 in
theorem focopy_f {w : World} {a bn bk : Nat} {v : Value} {cs : List Chg} {l : List Ent} (h : Fold w a bn bk v cs l) (hcs : cs.length ≤ 1000000) :
    Calls Try.prog 9 #[.pointer (some ⟨a, 0, none⟩)] w fun e w' => ∃ a' nn nk v', e = .returned (.pointer (some ⟨a', 0, none⟩)) ∧ Fold w' a' nn nk v' cs l ∧ (∀ b ∈ foS a' nn nk v', w.heap.size ≤ b) ∧ Below w.heap.size w w' := by
  have CM := Lib.hid (fomade_yes h)
  have S0 := Lib.hid (cp9_start h)
  have H := Lib.hid h; have HA := Lib.hid (h.lt a ((foS_mem a).2 (.inl rfl))); have HC := Lib.hid hcs
  have NEb := Lib.hid h.ne
  obtain ⟨c0, c1, c2, f0, f1, f2⟩ := blk3 h.blk
  clear h hcs
  go_enter Try.func9, Try.ntmps9
  go_wp2_with (go_at_call 24; refine CM.out.mono ?_; rintro e w' ⟨rfl, rfl⟩)
  go_region_held3 (fun w' => Below w.heap.size w w' ∧ w'.cell? ⟨a, 0, none⟩ = some (.map (some bn)) ∧ w'.cell? ⟨a, 1, none⟩ = some (.map (some bk)) ∧ w'.cell? ⟨a, 2, none⟩ = some v)
    (first | exact S0.out | exact cp9_on (by assumption) HA.out hb1 | exact cp9_box (by assumption) HA.out _)
    (first
      | (go_at_call 25; refine (foclone_any (H.out.now.keep ((show Cp9 w a bn bk v _ by assumption).1.block bn H.out.now.lt))).mono ?_; rintro e w3 ⟨rfl, hm, hz, hb1⟩; have ZN := Lib.hid hz; (try (have ZN2 := Lib.hid hb1.size)); (try replace HK := map_on HK hb1); (try replace HR := row_on HR hb1); have HN := Lib.hid hm; have BN := Lib.hid (show Cp9 w a bn bk v _ by assumption).1.size; clear hm hz)
      | (go_at_call 25; refine (foclone_any (H.out.kept.keep ((show Cp9 w a bn bk v _ by assumption).1.block bk H.out.kept.lt))).mono ?_; rintro e w4 ⟨rfl, hm, hz, hb1⟩; have ZK := Lib.hid hz; (try replace HN := map_on HN hb1); (try replace HR := row_on HR hb1); have HK := Lib.hid hm; have BK := Lib.hid (show Cp9 w a bn bk v _ by assumption).1.size; clear hm hz)
      | (go_at_call 26; refine (foclonec_any (own_keep H.out.row (fun g hg => (show Cp9 w a bn bk v _ by assumption).1.block g (H.out.row.lt g hg).2)) H.out.nil HC.out).mono ?_; rintro e w5 ⟨v', rfl, hr, hv, hb1⟩; obtain ⟨a5, c5, rfl⟩ := own_slice (sz := 3) hr; (try replace HN := map_on HN hb1); (try replace HK := map_on HK hb1); have HR := Lib.hid hr; have HV := Lib.hid hv; have ZR := Lib.hid hb1.size; have BR := Lib.hid (show Cp9 w a bn bk v _ by assumption).1.size; have BW := Lib.hid ((show Cp9 w a bn bk v _ by assumption).1.trans (hb1.mono (show Cp9 w a bn bk v _ by assumption).1.size)); clear hr hv))
  go_wp2
  go_ret
  exact ⟨_, _, _, _, rfl, copy_end H.out HN.out HK.out HR.out HV.out BW.out (Nat.le_refl _) BK.out (by have := ZN.out; have h2 : w.drew.heap.size = w.heap.size := rfl; omega) BR.out⟩
end Go.Proofs.Ytpcbfkcpefcnjaa
