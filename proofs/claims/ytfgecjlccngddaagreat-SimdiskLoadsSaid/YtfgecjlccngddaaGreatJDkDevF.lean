/-
  Joined: DkUse, DkDev14, DkDev15.
-/
import Derived.Test.YtfgecjlccngddaaGreatJDkDevE
import Derived.Deep.RegionHeld
import Derived.Test.YtfgecjlccngddaaGreatJDiskRefE
namespace Go.Proofs.YtfgecjlccngddaaGreat
set_option linter.unusedSimpArgs false
set_option linter.unusedVariables false
open Go.RowKit
set_option linter.unusedVariables false
theorem cell_far {w : World} {bu bc : Nat} {v : Value} (u : Value) (hne : bu ≠ bc) (h : w.cell? ⟨bc, 0, none⟩ = some v) : (w.setCell ⟨bu, 0, none⟩ u).cell? ⟨bc, 0, none⟩ = some v :=
  (World.cell?_setCell_far w ⟨bu, 0, none⟩ ⟨bc, 0, none⟩ u hne).trans h
set_option maxRecDepth 100000 in
set_option maxHeartbeats 3200000 in
theorem duse_c {w : World} {F : FuncId} {recv : Value} {bu bc us u : Nat} {ch : ByteArray} {Q : World → Prop} (c0 : w.cell? ⟨bu, 0, none⟩ = some (.int .i64 us)) (c1 : w.cell? ⟨bc, 0, none⟩ = some (.string ch)) (f0 : w.frozen? ⟨bu, 0, none⟩ = false)
    (hne : bu ≠ bc) (hu : us + u ≤ 4611686018427387904) (hs : ch.size ≤ 4611686018427387904) (eF : ∀ args w, (callFunc F args).run Tryz.prog w = .ok (.enter F args) w)
    (cF : Calls Tryz.prog F #[recv, .string (ch.extract (min us ch.size) ch.size)] w.drew fun e w' => e = .returned (.int .i64 u) ∧ Q w')
    (hQ : ∀ w', Q w' → w'.cell? ⟨bu, 0, none⟩ = some (.int .i64 us) ∧ w'.cell? ⟨bc, 0, none⟩ = some (.string ch) ∧ w'.frozen? ⟨bu, 0, none⟩ = false) :
    Calls Tryz.prog 49 #[.func (.func F) #[recv] #[], .pointer (some ⟨bu, 0, none⟩), .pointer (some ⟨bc, 0, none⟩)] w fun e w' => e = .returned (.tuple #[]) ∧ ∃ w2, Q w2 ∧ w' = w2.setCell ⟨bu, 0, none⟩ (.int .i64 (us + u : Nat)) := by
  obtain ⟨k, hk⟩ : ∃ k, min us ch.size = k := ⟨_, rfl⟩
  have hk1 : k ≤ ch.size := by omega
  have hm : min (us : Int) (ch.size : Int) = (k : Int) := by omega
  rw [hk] at cF
  have hw : wrap64 ((us : Int) + (u : Int)) = ((us + u : Nat) : Int) := by unfold wrap64; omega
  have hw2 : IntKind.i64.wrap ((us : Int) + (u : Int)) = ((us + u : Nat) : Int) := by rw [show ((us : Int) + (u : Int)) = ((us + u : Nat) : Int) from by omega]; exact IntWalk.i64_in _ (by omega)
  have d0 : w.drew.cell? ⟨bu, 0, none⟩ = some (.int .i64 us) := c0
  have d1 : w.drew.cell? ⟨bc, 0, none⟩ = some (.string ch) := c1
  have HNE := Lib.hid hne; have CF := Lib.hid cF; have HQ := Lib.hid hQ
  have hk2 : (k : Int) ≤ (ch.size : Int) := by omega
  clear cF hQ hk hne
  go_enter Tryz.func49, Tryz.ntmps49
  go_wp2_with fail
  -- USE BEGIN
  refine wp_region_held_drew (S := fun w' : World => w'.cell? ⟨bc, 0, none⟩ = some (.string ch)) (by kernel_rfl) d1 (fun hHeld => ?_)
  refine wpAnyH_take (i := 1) (v := ?_) (by simp only [List.getElem?_toArray, List.getElem?_cons_succ, List.getElem?_cons_zero]; rfl) (by kernel_rfl) (by kernel_rfl) (by kernel_rfl) (fun _ _ _ h => by exact h) (Or.inl ⟨by rfl, ?_⟩) (by assumption) ?_
  rotate_left
  · (intro w hSw; (try dsimp only at hSw); go_simp; try with_reducible rfl)
  try simp only [Act.put, List.setIfInBounds_toArray, List.set_cons_zero, List.set_cons_succ]
  refine wpAnyH_take (i := 2) (v := ?_) (by simp only [List.getElem?_toArray, List.getElem?_cons_succ, List.getElem?_cons_zero]; rfl) (by kernel_rfl) (by kernel_rfl) (by kernel_rfl) (fun _ _ _ h => by exact h) (Or.inl ⟨by rfl, ?_⟩) (by assumption) ?_
  rotate_left
  · (intro w hSw; (try dsimp only at hSw); go_simp; try with_reducible rfl)
  try simp only [Act.put, List.setIfInBounds_toArray, List.set_cons_zero, List.set_cons_succ]
  refine wpAnyH_take (i := 4) (v := ?_) (by simp only [List.getElem?_toArray, List.getElem?_cons_succ, List.getElem?_cons_zero]; rfl) (by kernel_rfl) (by kernel_rfl) (by kernel_rfl) (fun _ _ _ h => by exact h) (Or.inl ⟨by rfl, ?_⟩) (by assumption) ?_
  rotate_left
  · (intro w hSw; (try dsimp only at hSw); go_simp; try with_reducible rfl)
  try simp only [Act.put, List.setIfInBounds_toArray, List.set_cons_zero, List.set_cons_succ]
  refine wpAnyH_take (i := 5) (v := ?_) (by simp only [List.getElem?_toArray, List.getElem?_cons_succ, List.getElem?_cons_zero]; rfl) (by kernel_rfl) (by kernel_rfl) (by kernel_rfl) (fun _ _ _ h => by exact h) (Or.inl ⟨by rfl, ?_⟩) (by assumption) ?_
  rotate_left
  · (intro w hSw; (try dsimp only at hSw); go_simp; try with_reducible rfl)
  try simp only [Act.put, List.setIfInBounds_toArray, List.set_cons_zero, List.set_cons_succ]
  refine wpAnyH_ready (rs := [0, 3]) (by kernel_rfl) (by simp) ?_
  refine AllReadyH.cons (by simp only [List.getElem?_toArray, List.getElem?_cons_succ, List.getElem?_cons_zero]; rfl) (fun K hK => ?_) ?_
  · go_simp
    refine hK.out _ _ ?_ (fun hHeld => ?_)
    · first | exact d1 | exact g1 | exact cell_far _ HNE.out g1
    clear hK K
    try simp only [Act.put, List.setIfInBounds_toArray, List.set_cons_zero, List.set_cons_succ]
    refine wpAnyH_ready (rs := [3]) (by kernel_rfl) (by simp) ?_
    refine AllReadyH.cons (by simp only [List.getElem?_toArray, List.getElem?_cons_succ, List.getElem?_cons_zero]; rfl) (fun K hK => ?_) ?_
    · go_simp
      refine hK.out _ _ ?_ (fun hHeld => ?_)
      · first | exact d1 | exact g1 | exact cell_far _ HNE.out g1
      clear hK K
      try simp only [Act.put, List.setIfInBounds_toArray, List.set_cons_zero, List.set_cons_succ]
      refine wpAnyH_take (i := 6) (v := ?_) (by simp only [List.getElem?_toArray, List.getElem?_cons_succ, List.getElem?_cons_zero]; rfl) (by kernel_rfl) (by kernel_rfl) (by kernel_rfl) (fun _ _ _ h => by exact h) (Or.inl ⟨by rfl, ?_⟩) (by assumption) ?_
      rotate_left
      · (intro w hSw; (try dsimp only at hSw); go_simp; try with_reducible rfl)
      try simp only [Act.put, List.setIfInBounds_toArray, List.set_cons_zero, List.set_cons_succ]
      refine wpAnyH_take (i := 7) (v := ?_) (by simp only [List.getElem?_toArray, List.getElem?_cons_succ, List.getElem?_cons_zero]; rfl) (by kernel_rfl) (by kernel_rfl) (by kernel_rfl) (fun _ _ _ h => by exact h) (Or.inl ⟨by rfl, ?_⟩) (by assumption) ?_
      rotate_left
      · (intro w hSw; (try dsimp only at hSw); go_simp; try with_reducible rfl)
      try simp only [Act.put, List.setIfInBounds_toArray, List.set_cons_zero, List.set_cons_succ]
      refine wpAnyH_ready (rs := [8]) (by kernel_rfl) (by simp) ?_
      refine AllReadyH.cons (by simp only [List.getElem?_toArray, List.getElem?_cons_succ, List.getElem?_cons_zero]; rfl) (fun K hK => ?_) ?_
      · go_simp
        (go_at_fn F; refine CF.out.mono ?_; rintro e w2 ⟨rfl, hq⟩; obtain ⟨g0, g1, g2⟩ := HQ.out w2 hq; have HQ2 := Lib.hid hq; clear hq)
        try go_wp2_with fail
        refine hK.out _ _ ?_ (fun hHeld => ?_)
        · first | exact d1 | exact g1 | exact cell_far _ HNE.out g1
        clear hK K
        try simp only [Act.put, List.setIfInBounds_toArray, List.set_cons_zero, List.set_cons_succ]
        refine wpAnyH_take (i := 9) (v := ?_) (by simp only [List.getElem?_toArray, List.getElem?_cons_succ, List.getElem?_cons_zero]; rfl) (by kernel_rfl) (by kernel_rfl) (by kernel_rfl) (fun _ _ _ h => by exact h) (Or.inl ⟨by rfl, ?_⟩) (by assumption) ?_
        rotate_left
        · (intro w hSw; (try dsimp only at hSw); go_simp; try with_reducible rfl)
        try simp only [Act.put, List.setIfInBounds_toArray, List.set_cons_zero, List.set_cons_succ]
        refine wpAnyH_ready (rs := [10]) (by kernel_rfl) (by simp) ?_
        refine AllReadyH.cons (by simp only [List.getElem?_toArray, List.getElem?_cons_succ, List.getElem?_cons_zero]; rfl) (fun K hK => ?_) ?_
        · go_simp
          refine hK.out _ _ ?_ (fun hHeld => ?_)
          · first | exact d1 | exact g1 | exact cell_far _ HNE.out g1
          clear hK K
          try simp only [Act.put, List.setIfInBounds_toArray, List.set_cons_zero, List.set_cons_succ]
          refine wpAnyH_done (by kernel_rfl) ?_ _
          go_wp2
          go_end0
          exact ⟨rfl, w2, HQ2.out, rfl⟩
        exact AllReadyH.nil
      exact AllReadyH.nil
    exact AllReadyH.nil
  refine AllReadyH.cons (by simp only [List.getElem?_toArray, List.getElem?_cons_succ, List.getElem?_cons_zero]; rfl) (fun K hK => ?_) ?_
  · go_simp
    refine hK.out _ _ ?_ (fun hHeld => ?_)
    · first | exact d1 | exact g1 | exact cell_far _ HNE.out g1
    clear hK K
    try simp only [Act.put, List.setIfInBounds_toArray, List.set_cons_zero, List.set_cons_succ]
    refine wpAnyH_take (i := 6) (v := ?_) (by simp only [List.getElem?_toArray, List.getElem?_cons_succ, List.getElem?_cons_zero]; rfl) (by kernel_rfl) (by kernel_rfl) (by kernel_rfl) (fun _ _ _ h => by exact h) (Or.inl ⟨by rfl, ?_⟩) (by assumption) ?_
    rotate_left
    · (intro w hSw; (try dsimp only at hSw); go_simp; try with_reducible rfl)
    try simp only [Act.put, List.setIfInBounds_toArray, List.set_cons_zero, List.set_cons_succ]
    refine wpAnyH_take (i := 7) (v := ?_) (by simp only [List.getElem?_toArray, List.getElem?_cons_succ, List.getElem?_cons_zero]; rfl) (by kernel_rfl) (by kernel_rfl) (by kernel_rfl) (fun _ _ _ h => by exact h) (Or.inl ⟨by rfl, ?_⟩) (by assumption) ?_
    rotate_left
    · (intro w hSw; (try dsimp only at hSw); go_simp; try with_reducible rfl)
    try simp only [Act.put, List.setIfInBounds_toArray, List.set_cons_zero, List.set_cons_succ]
    refine wpAnyH_ready (rs := [0, 8]) (by kernel_rfl) (by simp) ?_
    refine AllReadyH.cons (by simp only [List.getElem?_toArray, List.getElem?_cons_succ, List.getElem?_cons_zero]; rfl) (fun K hK => ?_) ?_
    · go_simp
      refine hK.out _ _ ?_ (fun hHeld => ?_)
      · first | exact d1 | exact g1 | exact cell_far _ HNE.out g1
      clear hK K
      try simp only [Act.put, List.setIfInBounds_toArray, List.set_cons_zero, List.set_cons_succ]
      refine wpAnyH_ready (rs := [8]) (by kernel_rfl) (by simp) ?_
      refine AllReadyH.cons (by simp only [List.getElem?_toArray, List.getElem?_cons_succ, List.getElem?_cons_zero]; rfl) (fun K hK => ?_) ?_
      · go_simp
        (go_at_fn F; refine CF.out.mono ?_; rintro e w2 ⟨rfl, hq⟩; obtain ⟨g0, g1, g2⟩ := HQ.out w2 hq; have HQ2 := Lib.hid hq; clear hq)
        try go_wp2_with fail
        refine hK.out _ _ ?_ (fun hHeld => ?_)
        · first | exact d1 | exact g1 | exact cell_far _ HNE.out g1
        clear hK K
        try simp only [Act.put, List.setIfInBounds_toArray, List.set_cons_zero, List.set_cons_succ]
        refine wpAnyH_take (i := 9) (v := ?_) (by simp only [List.getElem?_toArray, List.getElem?_cons_succ, List.getElem?_cons_zero]; rfl) (by kernel_rfl) (by kernel_rfl) (by kernel_rfl) (fun _ _ _ h => by exact h) (Or.inl ⟨by rfl, ?_⟩) (by assumption) ?_
        rotate_left
        · (intro w hSw; (try dsimp only at hSw); go_simp; try with_reducible rfl)
        try simp only [Act.put, List.setIfInBounds_toArray, List.set_cons_zero, List.set_cons_succ]
        refine wpAnyH_ready (rs := [10]) (by kernel_rfl) (by simp) ?_
        refine AllReadyH.cons (by simp only [List.getElem?_toArray, List.getElem?_cons_succ, List.getElem?_cons_zero]; rfl) (fun K hK => ?_) ?_
        · go_simp
          refine hK.out _ _ ?_ (fun hHeld => ?_)
          · first | exact d1 | exact g1 | exact cell_far _ HNE.out g1
          clear hK K
          try simp only [Act.put, List.setIfInBounds_toArray, List.set_cons_zero, List.set_cons_succ]
          refine wpAnyH_done (by kernel_rfl) ?_ _
          go_wp2
          go_end0
          exact ⟨rfl, w2, HQ2.out, rfl⟩
        exact AllReadyH.nil
      exact AllReadyH.nil
    refine AllReadyH.cons (by simp only [List.getElem?_toArray, List.getElem?_cons_succ, List.getElem?_cons_zero]; rfl) (fun K hK => ?_) ?_
    · go_simp
      (go_at_fn F; refine CF.out.mono ?_; rintro e w2 ⟨rfl, hq⟩; obtain ⟨g0, g1, g2⟩ := HQ.out w2 hq; have HQ2 := Lib.hid hq; clear hq)
      try go_wp2_with fail
      refine hK.out _ _ ?_ (fun hHeld => ?_)
      · first | exact d1 | exact g1 | exact cell_far _ HNE.out g1
      clear hK K
      try simp only [Act.put, List.setIfInBounds_toArray, List.set_cons_zero, List.set_cons_succ]
      refine wpAnyH_ready (rs := [0]) (by kernel_rfl) (by simp) ?_
      refine AllReadyH.cons (by simp only [List.getElem?_toArray, List.getElem?_cons_succ, List.getElem?_cons_zero]; rfl) (fun K hK => ?_) ?_
      · go_simp
        refine hK.out _ _ ?_ (fun hHeld => ?_)
        · first | exact d1 | exact g1 | exact cell_far _ HNE.out g1
        clear hK K
        try simp only [Act.put, List.setIfInBounds_toArray, List.set_cons_zero, List.set_cons_succ]
        refine wpAnyH_take (i := 9) (v := ?_) (by simp only [List.getElem?_toArray, List.getElem?_cons_succ, List.getElem?_cons_zero]; rfl) (by kernel_rfl) (by kernel_rfl) (by kernel_rfl) (fun _ _ _ h => by exact h) (Or.inl ⟨by rfl, ?_⟩) (by assumption) ?_
        rotate_left
        · (intro w hSw; (try dsimp only at hSw); go_simp; try with_reducible rfl)
        try simp only [Act.put, List.setIfInBounds_toArray, List.set_cons_zero, List.set_cons_succ]
        refine wpAnyH_ready (rs := [10]) (by kernel_rfl) (by simp) ?_
        refine AllReadyH.cons (by simp only [List.getElem?_toArray, List.getElem?_cons_succ, List.getElem?_cons_zero]; rfl) (fun K hK => ?_) ?_
        · go_simp
          refine hK.out _ _ ?_ (fun hHeld => ?_)
          · first | exact d1 | exact g1 | exact cell_far _ HNE.out g1
          clear hK K
          try simp only [Act.put, List.setIfInBounds_toArray, List.set_cons_zero, List.set_cons_succ]
          refine wpAnyH_done (by kernel_rfl) ?_ _
          go_wp2
          go_end0
          exact ⟨rfl, w2, HQ2.out, rfl⟩
        exact AllReadyH.nil
      exact AllReadyH.nil
    exact AllReadyH.nil
  exact AllReadyH.nil
  -- USE END
end Go.Proofs.YtfgecjlccngddaaGreat
namespace Go.Proofs.YtfgecjlccngddaaGreat
set_option linter.unusedSimpArgs false
set_option linter.unusedVariables false
open Go.RowKit
set_option linter.unusedVariables false

theorem ext_min (c : ByteArray) (u : Nat) : c.extract (min u c.size) c.size = c.extract u c.size := by
  by_cases h : u ≤ c.size
  · rw [show min u c.size = u by omega]
  · rw [show min u c.size = c.size by omega]
    exact str_ext (by rw [extract_list, extract_list, show c.size - u = 0 by omega, Nat.sub_self]; simp)
section
variable {w w' : World} {ad bm : Nat} {an af : Addr} {Sn Sf : List Nat} {ids : List Int} {blk : Int → Nat} {born : Nat} {D : Dsk}
set_option maxRecDepth 100000 in
set_option maxHeartbeats 800000 in
theorem dnames_0 (h : DkM w ad bm an af Sn Sf ids blk born D) (hL : okL 500 D.L) (c : ByteArray) (hc : c.size = 0) :
    Calls Tryz.prog 50 #[.pointer (some ⟨ad, 0, none⟩), .string c] w fun e w' => e = .returned (.int .i64 (1 : Nat)) ∧
      ∃ Sn', DkM w' ad bm an af Sn' Sf ids blk born { D with L := [D.L.getD (pickN (firstB c) D.L.length) []] } ∧ Apart Sn w w' ∧ ∀ b ∈ Sn', b ∈ Sn ∨ w.heap.size ≤ b := by
  rw [firstB_0 hc]
  obtain ⟨d0, d1, d2, d3, d4, d5⟩ := h.cells
  have CF := Lib.hid (focrash_any h.fold hL 0 (by decide) (by decide)); have H := Lib.hid h
  have he : c = ⟨#[]⟩ := str_ext (List.eq_nil_of_length_eq_zero (by simpa using hc))
  subst he
  clear h hL hc
  go_enter Tryz.func50, Tryz.ntmps50
  go_wp2_with fail
  refine CF.out.mono ?_
  rintro e w2 ⟨rfl, Sn', hF, hA, hS⟩
  have HE := Lib.hid (⟨Sn', H.out.onFold hF hA hS, hA, hS⟩ : ∃ Sn', DkM w2 ad bm an af Sn' Sf ids blk born { D with L := [D.L.getD (pickN 0 D.L.length) []] } ∧ Apart Sn w w2 ∧ ∀ b ∈ Sn', b ∈ Sn ∨ w.heap.size ≤ b)
  clear hF hA hS
  go_wp2
  go_ret
  exact ⟨rfl, HE.out⟩
set_option maxRecDepth 100000 in
set_option maxHeartbeats 800000 in
theorem dnames_1 (h : DkM w ad bm an af Sn Sf ids blk born D) (hL : okL 500 D.L) (c : ByteArray) (hc : 0 < c.size) :
    Calls Tryz.prog 50 #[.pointer (some ⟨ad, 0, none⟩), .string c] w fun e w' => e = .returned (.int .i64 (1 : Nat)) ∧
      ∃ Sn', DkM w' ad bm an af Sn' Sf ids blk born { D with L := [D.L.getD (pickN (firstB c) D.L.length) []] } ∧ Apart Sn w w' ∧ ∀ b ∈ Sn', b ∈ Sn ∨ w.heap.size ≤ b := by
  rw [firstB_1 hc]
  obtain ⟨d0, d1, d2, d3, d4, d5⟩ := h.cells
  have hlt : (c[0]'hc).toNat < 256 := UInt8.toNat_lt _
  have CF := Lib.hid (focrash_any h.fold hL ((c[0]'hc).toNat : Nat) (by omega) (by omega)); have H := Lib.hid h
  have hne : c.toList.isEmpty = false := by rw [isEmpty_size]; exact decide_eq_false (by omega)
  have hc2 : (0 : Int) < (c.size : Int) := by omega
  clear h hL hlt
  go_enter Tryz.func50, Tryz.ntmps50
  go_wp2_with fail
  (try rw [wrap64_byte])
  refine CF.out.mono ?_
  rintro e w2 ⟨rfl, Sn', hF, hA, hS⟩
  have HE := Lib.hid (⟨Sn', H.out.onFold hF hA hS, hA, hS⟩ : ∃ Sn', DkM w2 ad bm an af Sn' Sf ids blk born { D with L := [D.L.getD (pickN ((c[0]'hc).toNat : Nat) D.L.length) []] } ∧ Apart Sn w w2 ∧ ∀ b ∈ Sn', b ∈ Sn ∨ w.heap.size ≤ b)
  clear hF hA hS
  go_wp2
  go_ret
  exact ⟨rfl, HE.out⟩
theorem dnames_any (h : DkM w ad bm an af Sn Sf ids blk born D) (hL : okL 500 D.L) (c : ByteArray) :
    Calls Tryz.prog 50 #[.pointer (some ⟨ad, 0, none⟩), .string c] w fun e w' => e = .returned (.int .i64 (1 : Nat)) ∧
      ∃ Sn', DkM w' ad bm an af Sn' Sf ids blk born { D with L := [D.L.getD (pickN (firstB c) D.L.length) []] } ∧ Apart Sn w w' ∧ ∀ b ∈ Sn', b ∈ Sn ∨ w.heap.size ≤ b := by
  by_cases hc : c.size = 0
  · exact dnames_0 h hL c hc
  · exact dnames_1 h hL c (by omega)
end
end Go.Proofs.YtfgecjlccngddaaGreat
namespace Go.Proofs.YtfgecjlccngddaaGreat
set_option linter.unusedSimpArgs false
set_option linter.unusedVariables false
open Go.RowKit
set_option linter.unusedVariables false

theorem Ints.apart {w w' : World} {S : List Nat} {B : Nat} {a : Option Addr} {l : List Int} (h : Ints w B a l) (hB : B ≤ w.heap.size) (ha : Apart S w w') (hn : ∀ ad, a = some ad → ad.block ∉ S) : Ints w' B a l := fun k hk => by
  obtain ⟨ad, e, hl, hc⟩ := h k hk
  have hb : (ad.add k).block = ad.block := by unfold Addr.add; split <;> rfl
  exact ⟨ad, e, hl, (ha.cell (by rw [hb]; omega) (by rw [hb]; exact hn ad e)).trans hc⟩
/-- The disk in the midst of a crash: k of its tapes have crashed. -/
def Dsk.crs (D : Dsk) (ch : ByteArray) (pk : List Ent) (k : Nat) : Dsk := ⟨D.sec, (crashK ch (idsK D.L) D.tp k).1, [pk], Fus.new, D.calls⟩
structure Crs (w : World) (S0 : List Nat) (ad bm : Nat) (an af : Addr) (Sn Sf : List Nat) (blk : Int → Nat) (D : Dsk) (pk : List Ent) (ch : ByteArray) (bu bc B : Nat) (av : Option Addr) (k : Nat) (wr : World) : Prop where
  dk : DkM wr ad bm an af Sn Sf (idsK D.L) blk D.tp.length (D.crs ch pk k)
  cu : Blk wr bu #[.int .i64 (crashK ch (idsK D.L) D.tp k).2] 3
  cc : Blk wr bc #[.string ch] 9
  row : Ints wr B av (idsK D.L)
  ap : Apart S0 w wr
/-- What lies apart from a disk's blocks. -/
structure Far (ad bm : Nat) (Sn Sf : List Nat) (ids : List Int) (blk : Int → Nat) (b : Nat) : Prop where
  out : b ∉ dkS ad bm Sn Sf ids blk
theorem Crs.step {w wr w5 : World} {S0 : List Nat} {ad bm : Nat} {an af : Addr} {Sn Sf : List Nat} {blk : Int → Nat} {D : Dsk} {pk : List Ent} {ch : ByteArray} {bu bc B : Nat} {av : Option Addr} {k : Nat}
    (h : Crs w S0 ad bm an af Sn Sf blk D pk ch bu bc B av k wr) (hk : k < (idsK D.L).length) {i : Int} (hi : (idsK D.L)[k] = i) {x : ByteArray} {u : Nat} (hx : mixOf ((D.crs ch pk k).t i).k ((D.crs ch pk k).t i).n (ch.extract (crashK ch (idsK D.L) D.tp k).2 ch.size) = x)
    (hu : mixUs ((D.crs ch pk k).t i).k ((D.crs ch pk k).t i).n (ch.extract (crashK ch (idsK D.L) D.tp k).2 ch.size) = u)
    (ht : Tap w5 (blk i) x x) (ha : Apart [blk i] wr.drew w5) (hub : bu ∉ dkS ad bm Sn Sf (idsK D.L) blk) (huc : bu ≠ bc) (hcb : bc ∉ dkS ad bm Sn Sf (idsK D.L) blk) (hB : B ≤ wr.heap.size)
    (hav : ∀ ad', av = some ad' → ad'.block ∉ dkS ad bm Sn Sf (idsK D.L) blk ∧ ad'.block ≠ bu) (hS : ∀ b ∈ dkS ad bm Sn Sf (idsK D.L) blk, b ∈ S0 ∨ w.heap.size ≤ b) (hbu : w.heap.size ≤ bu) :
    Crs w S0 ad bm an af Sn Sf blk D pk ch bu bc B av (k + 1) (w5.setCell ⟨bu, 0, none⟩ (.int .i64 ((crashK ch (idsK D.L) D.tp k).2 + u : Nat))) := by
  have hmem : i ∈ idsK D.L := hi ▸ List.getElem_mem hk
  have hbi : blk i ∈ dkS ad bm Sn Sf (idsK D.L) blk := mem_dkS.2 (.inr (.inr (.inr (.inr ⟨i, hmem, rfl⟩))))
  have hs := crashK_succ ch (idsK D.L) D.tp k hk ((D.crs ch pk k).t i) (by rw [hi]; rfl)
  rw [hi, hx, hu] at hs
  have e1 : D.crs ch pk (k + 1) = (D.crs ch pk k).set i ⟨x, x⟩ := by unfold Dsk.crs Dsk.set; rw [hs]
  have ha' : Apart [blk i] wr w5 := ⟨ha.os, ha.tape, ha.output, ha.size, ha.block⟩
  have no : ∀ b, b ∉ dkS ad bm Sn Sf (idsK D.L) blk → b ∉ [blk i] := fun b hb g => hb (by rw [List.mem_singleton.1 g]; exact hbi)
  have hset : Apart [bu] w5 (w5.setCell ⟨bu, 0, none⟩ (.int .i64 ((crashK ch (idsK D.L) D.tp k).2 + u : Nat))) := (Apart.refl [bu] w5).setCell (p := ⟨bu, 0, none⟩) (.inl (by simp)) _
  have d5 := h.dk.drew.onTape hmem ht ha
  have kcu : Blk w5 bu #[.int .i64 (crashK ch (idsK D.L) D.tp k).2] 3 := (ha'.block bu h.cu.lt (no bu hub)).trans h.cu
  have kcc : Blk w5 bc #[.string ch] 9 := (ha'.block bc h.cc.lt (no bc hcb)).trans h.cc
  refine ⟨?_, ?_, (hset.block bc kcc.lt (fun g => huc (List.mem_singleton.1 g).symm)).trans kcc, ?_, ?_⟩
  · rw [e1]
    exact d5.kept hset fun b hb g => hub (by rw [← List.mem_singleton.1 g]; exact hb)
  · rw [hs]
    have := kcu.set 0 (.int .i64 ((crashK ch (idsK D.L) D.tp k).2 + u : Nat))
    simpa using this
  · have r5 : Ints w5 B av (idsK D.L) := h.row.apart hB ha' fun ad' e => no _ (hav ad' e).1
    exact r5.apart (Nat.le_trans hB ha'.size) hset fun ad' e g => (hav ad' e).2 (List.mem_singleton.1 g)
  · exact (h.ap.trans ha' (fun b hb => by rw [List.mem_singleton.1 hb]; exact hS _ hbi)).trans hset (fun b hb => by rw [List.mem_singleton.1 hb]; exact .inr hbu)
theorem eNames : ∀ args w, (callFunc 50 args).run Tryz.prog w = .ok (.enter 50 args) w := enters_of Tryz.func50 (by kernel_rfl) rfl
theorem eTCrash : ∀ args w, (callFunc 51 args).run Tryz.prog w = .ok (.enter 51 args) w := enters_of Tryz.func51 (by kernel_rfl) rfl
section
variable {w w' : World} {ad bm : Nat} {an af : Addr} {Sn Sf : List Nat} {ids : List Int} {blk : Int → Nat} {born : Nat} {D : Dsk}
set_option maxRecDepth 100000 in
set_option maxHeartbeats 1600000 in
theorem dcrash_b (h : DkM w ad bm an af Sn Sf (idsK D.L) blk D.tp.length D) (hD : D.ok 199) (ch : ByteArray) (hch : ch.size ≤ 200) :
    Calls Tryz.prog 12 #[.pointer (some ⟨ad, 0, none⟩), .string ch] w (UpdK w (dkS ad bm Sn Sf (idsK D.L) blk) ⟨ad, 0, none⟩ (D.crash ch).1 (.int .i64 ((D.crash ch).2 : Nat))) := by
  obtain ⟨w0, hw0⟩ : ∃ w0, w0 = w.alloc (.cells #[.string ch] 9) := ⟨_, rfl⟩
  have hb0 : Below w.heap.size w w0 := by rw [hw0]; exact (Below.refl _ w).alloc (Nat.le_refl _) _
  have k0 : Blk w0 w.heap.size #[.string ch] 9 := by rw [hw0]; exact Blk.new w _ _
  have h0 := h.below hb0
  have hlt := h.lt
  obtain ⟨c0, c1, c2, c3, c4, c5⟩ := h0.cells
  have CM := Lib.hid (dmade_yes h0); have CR := Lib.hid (freset_any h0.fuse); have H0 := Lib.hid h0; have HB := Lib.hid hb0; have K0 := Lib.hid k0; have HD := Lib.hid hD; have HLT := Lib.hid hlt; have HCH := Lib.hid hch
  clear h h0 hb0 k0 hD hlt hch c0 c1 c2 c4 c5
  subst hw0
  go_enter Tryz.func12, Tryz.ntmps12
  go_wp2_with fail
  refine CM.out.mono ?_
  rintro e w' ⟨rfl, rfl⟩
  go_wp2_with fail
  refine CR.out.mono ?_
  rintro e w1 ⟨rfl, Sf1, hF1, hA1, hS1⟩
  have h1 := H0.out.onFuse hF1 hA1 hS1
  have b1 : Apart (dkS ad bm Sn Sf (idsK D.L) blk) w w1 := (Apart.of_below HB.out).trans hA1 (fun x hx => .inl (mem_dkS.2 (.inr (.inr (.inr (.inl hx))))))
  have s1 : ∀ b ∈ dkS ad bm Sn Sf1 (idsK D.L) blk, b ∈ dkS ad bm Sn Sf (idsK D.L) blk ∨ w.heap.size ≤ b := fun b hb => (ask_S hS1 b hb).imp id (Nat.le_trans HB.out.size)
  have k1 : Blk w1 w.heap.size #[.string ch] 9 := (hA1.block _ K0.out.lt (fun g => by have := HLT.out _ (mem_dkS.2 (.inr (.inr (.inr (.inl g))))); omega)).trans K0.out
  have f1 : w.heap.size ∉ Sf1 := fun g => by
    rcases hS1 _ g with k | k
    · have := HLT.out _ (mem_dkS.2 (.inr (.inr (.inr (.inl k))))); omega
    · have := K0.out.lt; omega
  obtain ⟨d0, d1, d2, d3, d4, d5⟩ := h1.cells
  have CI := Lib.hid (foids_row h1.fold (Dsk.okL (D := D) HD.out)); have H1 := Lib.hid h1; have B1 := Lib.hid b1; have S1 := Lib.hid s1; have K1 := Lib.hid k1; have F1 := Lib.hid f1
  clear hF1 hA1 hS1 h1 b1 s1 k1 f1 d0 d1 d3 d4 d5 c3
  go_wp2_with fail
  refine CI.out.mono ?_
  rintro e w2 ⟨v, rfl, ho, hb2⟩
  obtain ⟨av, cv, rfl, hrow, hav⟩ := own_intsF ho
  obtain ⟨N, hN⟩ : ∃ N, (idsK D.L).length = N := ⟨_, rfl⟩
  have HROW := Lib.hid hrow; have HAV := Lib.hid hav; have HB2 := Lib.hid hb2; have HN := Lib.hid hN
  rw [hN]
  clear ho hrow hav hb2 hN d2
  go_upto_region 7 with fail
  obtain ⟨w3, hw3⟩ : ∃ w3, w3 = w2.alloc (.cells #[.int .i64 0] 3) := ⟨_, rfl⟩
  obtain ⟨bu, hbu⟩ : ∃ bu, w2.heap.size = bu := ⟨_, rfl⟩
  obtain ⟨pk, hpk⟩ : ∃ pk, D.L.getD (pickN (firstB ch) D.L.length) [] = pk := ⟨_, rfl⟩
  have hb3 : Below w2.heap.size w2 w3 := by rw [hw3]; exact (Below.refl _ _).alloc (Nat.le_refl _) _
  have hb13 : Below w1.heap.size w1 w3 := HB2.out.trans (hb3.mono HB2.out.size)
  have h3 := H1.out.below hb13
  have ku : Blk w3 bu #[.int .i64 0] 3 := by rw [hw3, ← hbu]; exact Blk.new _ _ _
  have kc : Blk w3 w.heap.size #[.string ch] 9 := K1.out.onto hb13
  have z1 := B1.out.size
  have z2 := HB2.out.size
  have z3 : w3.heap.size = bu + 1 := by rw [hw3, ← hbu]; simp
  have r3 : Ints w3 bu av (idsK D.L) := by have := HROW.out.apart (Nat.le_refl _) (Apart.of_below (S := []) hb3) (by simp); rw [hbu] at this; exact this
  have hub : bu ∉ dkS ad bm Sn Sf1 (idsK D.L) blk := fun g => by have := H1.out.lt bu g; omega
  have hcb : w.heap.size ∉ dkS ad bm Sn Sf1 (idsK D.L) blk := fun g => by
    rcases mem_dkS.1 g with k | k | k | k | k
    · have := HLT.out _ (mem_dkS.2 (.inl k)); omega
    · have := HLT.out _ (mem_dkS.2 (.inr (.inl k))); omega
    · have := HLT.out _ (mem_dkS.2 (.inr (.inr (.inl k)))); omega
    · exact F1.out k
    · have := HLT.out _ (mem_dkS.2 (.inr (.inr (.inr (.inr k))))); omega
  have kcl : w.heap.size < w1.heap.size := K1.out.lt
  have hneq : bu ≠ w.heap.size := by omega
  have eext : ch.extract (min 0 ch.size) ch.size = ch := by rw [ext_min]; exact str_ext (by rw [extract_list, List.drop_zero, Nat.sub_zero]; exact List.take_of_length_le (by simp))
  have CU := duse_c (Q := fun w' => ∃ Sn', DkM w' ad bm an af Sn' Sf1 (idsK D.L) blk D.tp.length ⟨D.sec, D.tp, [D.L.getD (pickN (firstB ch) D.L.length) []], Fus.new, D.calls⟩ ∧ Apart Sn w3.drew w' ∧ ∀ b ∈ Sn', b ∈ Sn ∨ w3.drew.heap.size ≤ b) (F := 50) (recv := .pointer (some ⟨ad, 0, none⟩)) (us := 0) (u := 1) (ku.cell 0 _ rfl) (kc.cell 0 _ rfl) (ku.free 0) hneq (by omega) (by have := HCH.out; omega) eNames (by rw [eext]; exact dnames_any h3.drew (Dsk.okL (D := D) HD.out) ch)
    (fun w' ⟨Sn', _, hA, _⟩ => by
      have n1 : bu ∉ Sn := fun g => hub (mem_dkS.2 (.inr (.inr (.inl g))))
      have n2 : w.heap.size ∉ Sn := fun g => hcb (mem_dkS.2 (.inr (.inr (.inl g))))
      have q1 : Blk w' bu #[.int .i64 0] 3 := (hA.block bu ku.lt n1).trans ku
      have q2 : Blk w' w.heap.size #[.string ch] 9 := (hA.block w.heap.size kc.lt n2).trans kc
      exact ⟨q1.cell 0 _ rfl, q2.cell 0 _ rfl, q1.free 0⟩)
  rw [show (D.L.getD (pickN (firstB ch) D.L.length) []) = pk from hpk] at CU
  have CU := Lib.hid CU; have H3 := Lib.hid h3; have KU := Lib.hid ku; have KC := Lib.hid kc; have R3 := Lib.hid r3; have HUB := Lib.hid hub; have HCB := Lib.hid hcb; have HNEQ := Lib.hid hneq; have HW3 := Lib.hid hw3; have HBU := Lib.hid hbu; have HPK := Lib.hid hpk; have HB13 := Lib.hid hb13; have Z1 := Lib.hid z1; have Z2 := Lib.hid z2; have Z3 := Lib.hid z3; have KCL := Lib.hid kcl
  rw [← HW3.out, HBU.out]
  clear hb3 hb13 h3 ku kc z1 z2 z3 r3 hub hcb hneq eext hw3 hbu hpk kcl
  go_wp2_with fail
  refine CU.out.mono ?_
  rintro e w5 ⟨rfl, w4, ⟨Sn1, hd4, ha4, hs4⟩, rfl⟩
  have n1 : bu ∉ Sn := fun g => HUB.out (mem_dkS.2 (.inr (.inr (.inl g))))
  have n2 : w.heap.size ∉ Sn := fun g => HCB.out (mem_dkS.2 (.inr (.inr (.inl g))))
  have l3 : w3.drew.heap.size = bu + 1 := Z3.out
  have sub : ∀ b ∈ dkS ad bm Sn1 Sf1 (idsK D.L) blk, b ∈ dkS ad bm Sn Sf1 (idsK D.L) blk ∨ bu + 1 ≤ b := fun b hb => by
    rcases mem_dkS.1 hb with g | g | g | g | g
    · exact .inl (mem_dkS.2 (.inl g))
    · exact .inl (mem_dkS.2 (.inr (.inl g)))
    · rcases hs4 b g with k | k
      · exact .inl (mem_dkS.2 (.inr (.inr (.inl k))))
      · exact .inr (by omega)
    · exact .inl (mem_dkS.2 (.inr (.inr (.inr (.inl g)))))
    · exact .inl (mem_dkS.2 (.inr (.inr (.inr (.inr g)))))
  have hwb : w.heap.size ≤ bu := by have h1 := Z1.out; have h2 := Z2.out; have := HBU.out; omega
  have hub1 : bu ∉ dkS ad bm Sn1 Sf1 (idsK D.L) blk := fun g => by
    rcases sub bu g with k | k
    · exact HUB.out k
    · omega
  have hcb1 : w.heap.size ∉ dkS ad bm Sn1 Sf1 (idsK D.L) blk := fun g => by
    rcases sub _ g with k | k
    · exact HCB.out k
    · omega
  have hav1 : ∀ ad', av = some ad' → ∀ k, k < (idsK D.L).length → ad'.block ∉ dkS ad bm Sn1 Sf1 (idsK D.L) blk ∧ ad'.block ≠ bu := fun ad' e k hk => by
    have h1 := HAV.out ad' e
    obtain ⟨ad2, e2, hlt2, _⟩ := R3.out k hk
    rw [e] at e2
    cases e2
    refine ⟨fun g => ?_, by omega⟩
    rcases sub _ g with m | m
    · have := H1.out.lt _ m; omega
    · omega
  have hS1' : ∀ b ∈ dkS ad bm Sn1 Sf1 (idsK D.L) blk, b ∈ dkS ad bm Sn Sf (idsK D.L) blk ∨ w.heap.size ≤ b := fun b hb => by
    rcases sub b hb with k | k
    · exact S1.out b k
    · exact .inr (by omega)
  have qu : Blk w4 bu #[.int .i64 0] 3 := (ha4.block bu KU.out.lt n1).trans KU.out
  have qc : Blk w4 w.heap.size #[.string ch] 9 := (ha4.block w.heap.size KC.out.lt n2).trans KC.out
  have hset : Apart [bu] w4 (w4.setCell ⟨bu, 0, none⟩ (.int .i64 ((0 + 1 : Nat) : Int))) := (Apart.refl [bu] w4).setCell (p := ⟨bu, 0, none⟩) (.inl (by simp)) _
  have hne := HNEQ.out
  have h0 : Crs w (dkS ad bm Sn Sf (idsK D.L) blk) ad bm an af Sn1 Sf1 blk D pk ch bu w.heap.size bu av 0 (w4.setCell ⟨bu, 0, none⟩ (.int .i64 ((0 + 1 : Nat) : Int))) := by
    have a13 : Apart (dkS ad bm Sn Sf (idsK D.L) blk) w w3.drew := (B1.out.trans (S' := []) (.of_below HB13.out) (by simp)).drew
    refine ⟨DkM.kept (D := D.crs ch pk 0) hd4 hset fun b hb g => hub1 (by rw [← List.mem_singleton.1 g]; exact hb), (show Blk (w4.setCell ⟨bu, 0, none⟩ (.int .i64 ((0 + 1 : Nat) : Int))) bu #[.int .i64 1] 3 by simpa using qu.set 0 (.int .i64 ((0 + 1 : Nat) : Int))), (hset.block w.heap.size qc.lt (fun g => hne (List.mem_singleton.1 g).symm)).trans qc, ?_, ?_⟩
    · have r4 : Ints w4 bu av (idsK D.L) := fun k hk => (Ints.apart (w := w3.drew) R3.out (by omega) ha4 (fun ad' e g => by
        have h1 := HAV.out ad' e
        have := H1.out.lt _ (mem_dkS.2 (.inr (.inr (.inl g))))
        omega)) k hk
      exact fun k hk => (r4.apart (by have := qu.lt; omega) hset (fun ad' e g => (hav1 ad' e k hk).2 (List.mem_singleton.1 g))) k hk
    · exact (a13.trans ha4 (fun b hb => S1.out b (mem_dkS.2 (.inr (.inr (.inl hb)))))).trans hset (fun b hb => by rw [List.mem_singleton.1 hb]; exact .inr hwb)
  have HC0 := Lib.hid h0; have HUB1 := Lib.hid hub1; have HCB1 := Lib.hid hcb1; have HAV1 := Lib.hid hav1; have HSS := Lib.hid hS1'; have HWB := Lib.hid hwb; have HL3 := Lib.hid (show bu < w4.heap.size from qu.lt)
  obtain ⟨wS, hwS⟩ : ∃ wS, wS = w4.setCell ⟨bu, 0, none⟩ (.int .i64 ((0 + 1 : Nat) : Int)) := ⟨_, rfl⟩
  have HWS := Lib.hid hwS
  have hpos : w4.heap.size = wS.heap.size := by rw [hwS]; simp
  have HPOS := Lib.hid hpos
  rw [← hwS] at h0
  have HC0 := Lib.hid h0
  have hN6 : N ≤ 1000000 := by have h1 := ids_few (M := 199) (D := D) HD.out (by omega); have h2 := HN.out; omega
  rw [← hwS]
  clear h0 hub1 hcb1 hav1 hS1' hwb qu qc hset hne n1 n2 l3 sub hd4 ha4 hs4 hwS hpos
  go_wp2_with fail
  go_loopw [30] (fun i wr => ∃ k : Nat, k ≤ N ∧ i = .int .i64 k ∧ Crs w (dkS ad bm Sn Sf (idsK D.L) blk) ad bm an af Sn1 Sf1 blk D pk ch bu w.heap.size bu av k wr ∧ bu < wr.heap.size) (fun i _ => N - (intOf i).toNat)
  case atStart => exact ⟨0, Nat.zero_le _, rfl, HC0.out, by have := HL3.out; have := HPOS.out; omega⟩
  case round =>
    obtain ⟨k, hk, rfl, hcr, hbl⟩ := hrel
    by_cases hlt : k < N
    · have hkl : k < (idsK D.L).length := by rw [HN.out]; exact hlt
      obtain ⟨i, hi⟩ : ∃ i, (idsK D.L)[k] = i := ⟨_, rfl⟩
      have hmem : i ∈ idsK D.L := hi ▸ List.getElem_mem hkl
      obtain ⟨adI, rfl, hIb, hIc⟩ := hcr.row k hkl
      rw [hi] at hIc
      obtain ⟨v1, v2⟩ := HAV1.out adI rfl k hkl
      obtain ⟨q1, q2, q3⟩ := crK_all HD.out ch k (Nat.le_of_lt hkl)
      have hg : ((D.crs ch pk k).t i).k.size ≤ 200 * 199 ∧ ((D.crs ch pk k).t i).n.size ≤ 200 * 199 := getD_mem q2 _
      have hus := mixZ_used ((D.crs ch pk k).t i).k ((D.crs ch pk k).t i).n (ch.extract (crashK ch (idsK D.L) D.tp k).2 ch.size)
      obtain ⟨u, hu⟩ : ∃ u, mixUs ((D.crs ch pk k).t i).k ((D.crs ch pk k).t i).n (ch.extract (crashK ch (idsK D.L) D.tp k).2 ch.size) = u := ⟨_, rfl⟩
      obtain ⟨x, hx⟩ : ∃ x, mixOf ((D.crs ch pk k).t i).k ((D.crs ch pk k).t i).n (ch.extract (crashK ch (idsK D.L) D.tp k).2 ch.size) = x := ⟨_, rfl⟩
      have hmul : 200 * 199 * k ≤ 39800 * 1000000 := Nat.mul_le_mul (by omega) (by have := ids_few (M := 199) (D := D) HD.out (by omega); omega)
      have hbi : blk i ∈ dkS ad bm Sn1 Sf1 (idsK D.L) blk := mem_dkS.2 (.inr (.inr (.inr (.inr ⟨i, hmem, rfl⟩))))
      have CT := tcrash_yes (hcr.dk.drew.taps i hmem) (by omega) (by omega) (ch.extract (min (crashK ch (idsK D.L) D.tp k).2 ch.size) ch.size)
      rw [ext_min, hx, hu] at CT
      rw [hu] at hus
      have CU := duse_c (Q := fun w' => Tap w' (blk i) x x ∧ Apart [blk i] wr.drew w') (F := 51) (recv := .pointer (some ⟨blk i, 0, none⟩)) (us := (crashK ch (idsK D.L) D.tp k).2) (u := u) (hcr.cu.cell 0 _ rfl) (hcr.cc.cell 0 _ rfl) (hcr.cu.free 0) HNEQ.out (by omega) (by have := HCH.out; omega) eTCrash
        (by rw [ext_min]; exact CT)
        (fun w' ⟨_, hA⟩ => by
          have g1 : Blk w' bu #[.int .i64 (crashK ch (idsK D.L) D.tp k).2] 3 := (hA.block bu hcr.cu.lt (fun g => HUB1.out (by rw [List.mem_singleton.1 g]; exact hbi))).trans hcr.cu
          have g2 : Blk w' w.heap.size #[.string ch] 9 := (hA.block w.heap.size hcr.cc.lt (fun g => HCB1.out (by rw [List.mem_singleton.1 g]; exact hbi))).trans hcr.cc
          exact ⟨g1.cell 0 _ rfl, g2.cell 0 _ rfl, g1.free 0⟩)
      have hlook := hcr.dk.map.look hmem
      obtain ⟨d0, d1, d2, d3, d4, d5⟩ := hcr.dk.cells
      have CU := Lib.hid CU; have HCR := Lib.hid hcr; have HI := Lib.hid hi; have HX := Lib.hid hx; have HU := Lib.hid hu; have HBL := Lib.hid hbl; have HKL := Lib.hid hkl
      have e0 : (0 : Int) ≤ (k : Int) := by omega
      have e1 : (k : Int) < (N : Int) := by omega
      clear hcr hx hu hbl CT hg hus hmul q1 q2 q3 v1 v2 hIb hbi d0 d2 d3 d4 d5
      go_wp2_with (go_at_call 49; refine CU.out.mono ?_; rintro e w6 ⟨rfl, w5, ⟨ht5, ha5⟩, rfl⟩; have HT5 := Lib.hid ht5; have HA5 := Lib.hid ha5; clear ht5 ha5)
      go_roundw
      case rel => exact ⟨k + 1, by omega, by go_num, HCR.out.step HKL.out HI.out HX.out HU.out HT5.out HA5.out HUB1.out HNEQ.out HCB1.out (Nat.le_of_lt HBL.out) (fun ad' e => HAV1.out ad' e k HKL.out) HSS.out HWB.out, by have h1 := HBL.out; have h2 : wr.drew.heap.size ≤ w5.heap.size := HA5.out.size; have h3 : wr.drew.heap.size = wr.heap.size := rfl; simp; omega⟩
      case measure => simp [intOf]; omega
    · obtain rfl : k = N := by omega
      have hok := crash_okK HD.out ch (firstB ch) (idsK D.L).length (Nat.le_refl _) (by omega)
      rw [HPK.out, HN.out] at hok
      have hlen := (crK_all HD.out ch k (by rw [HN.out]; exact Nat.le_refl _)).1
      have hpm : pk ∈ D.L := HPK.out ▸ pick_mem (Dsk.okL (D := D) HD.out).1 (firstB ch)
      have hsub : ∀ i ∈ idsK [pk], i ∈ idsK D.L := fun i hi => by
        obtain ⟨l, hl, e, he, rfl⟩ := (mem_idsK _ i).1 hi
        rw [List.mem_singleton.1 hl] at he
        exact (mem_idsK _ _).2 ⟨pk, hpm, e, he, rfl⟩
      have CG := dforget_b (D := D.crs ch pk k) hcr.dk (Dsk.okL (D := D.crs ch pk k) hok) (ids_few (M := 199) (D := D.crs ch pk k) hok (by omega)) hsub
      have CG := Lib.hid CG; have HCR := Lib.hid hcr; have HLEN := Lib.hid hlen; have HSUB := Lib.hid hsub
      clear hcr hok hlen hpm hsub hbl
      go_wp2_with fail
      refine CG.out.mono ?_
      rintro e w7 ⟨rfl, h7, ha7⟩
      have hbmS : bm ∈ dkS ad bm Sn1 Sf1 (idsK D.L) blk := mem_dkS.2 (.inr (.inl rfl))
      have ku : Blk w7 bu #[.int .i64 (crashK ch (idsK D.L) D.tp k).2] 3 := (ha7.block bu HCR.out.cu.lt (fun g => HUB1.out (by rw [List.mem_singleton.1 g]; exact hbmS))).trans HCR.out.cu
      have x0 := ku.cell 0 _ rfl
      have e2 : (D.crash ch).2 = (crashK ch (idsK D.L) D.tp k).2 := by rw [← HN.out]; rfl
      have e1 : (D.crash ch).1 = D.crs ch pk k := by rw [← HN.out, ← HPK.out]; rfl
      have hE : ∃ S', IsDk w7 S' ⟨ad, 0, none⟩ (D.crs ch pk k) ∧ Apart (dkS ad bm Sn Sf (idsK D.L) blk) w w7 ∧ ∀ b ∈ S', b ∈ dkS ad bm Sn Sf (idsK D.L) blk ∨ w.heap.size ≤ b := by
        have h8 : DkM w7 ad bm an af Sn1 Sf1 (idsK (D.crs ch pk k).L) blk (D.crs ch pk k).tp.length (D.crs ch pk k) := by
          rw [show (D.crs ch pk k).tp.length = D.tp.length from HLEN.out]
          exact h7
        refine ⟨_, h8.is, HCR.out.ap.trans ha7 (fun b hb => HSS.out b (by rw [List.mem_singleton.1 hb]; exact hbmS)), fun b hb => HSS.out b ?_⟩
        rcases mem_dkS.1 hb with g | g | g | g | ⟨i, hi, g⟩
        · exact mem_dkS.2 (.inl g)
        · exact mem_dkS.2 (.inr (.inl g))
        · exact mem_dkS.2 (.inr (.inr (.inl g)))
        · exact mem_dkS.2 (.inr (.inr (.inr (.inl g))))
        · exact mem_dkS.2 (.inr (.inr (.inr (.inr ⟨i, HSUB.out i hi, g⟩))))
      have HE := Lib.hid hE; have HQ1 := Lib.hid e1; have HQ2 := Lib.hid e2
      clear h7 ha7 hE ku e1 e2
      go_wp2
      go_ret
      refine ⟨?_, ?_⟩
      · rw [HQ2.out]; rfl
      · rw [HQ1.out]; exact HE.out
end
theorem dkcrash_any {w : World} {S : List Nat} {a : Addr} {D : Dsk} (h : IsDk w S a D) (hD : D.ok 199) (c : ByteArray) (hc : c.size ≤ 200) :
    Calls Tryz.prog 12 #[.pointer (some a), .string c] w (UpdK w S a (D.crash c).1 (.int .i64 (D.crash c).2)) := by
  obtain ⟨ad, bm, an, af, Sn, Sf, blk, rfl, rfl, k⟩ := h.out
  exact dcrash_b k hD c hc
end Go.Proofs.YtfgecjlccngddaaGreat
