/-
  The program's marks (layer 22), fourth part: Shift. (Written by gen_mshift22.py.)
-/
import Derived.Test.YtimlfgjljnkbcaaMarkDev3
import Derived.Test.YtimlfgjljnkbcaaMarkRef3
import Derived.Test.YtimlfgjljnkbcaaEditDev2
namespace Go.Proofs.Ytimlfgjljnkbcaa
open Go.RowKit
set_option linter.unusedVariables false

set_option maxHeartbeats 1000000 in
/-- A row copied. -/
theorem mclone_some (ad : Addr) (l : List Mrk) (c : Nat) (w : World) (hr : Mrks w (· < w.heap.size) (some ad) l) (hl : l.length ≤ 1000000) :
    Calls Try.prog 37 #[.slice (some ad) l.length c] w fun e w' => ∃ v, e = .returned v ∧ w'.ownsRow w.heap.size 30 2 v l.length (Mrk.flat l) ∧ v ≠ .slice none 0 0 ∧ Below w.heap.size w w' := by
  obtain ⟨i0, hi, hz0, hz1, hz2⟩ := info_parts mrk_info
  have q22 : ∀ (w : World) (a : Option Addr) (n c n' c' : Nat), (binOp .eql 22 (.slice a n c) (.slice none n' c')).run Try.prog w = .ok (.bool a.isNone) w := fun w a n c n' c' => Lib.run_eql_slice_nil w _ _ a n c n' c' Try.underlying22
  have HNW := Lib.hid (mrks_news hr); have HFL := Lib.hid (Mrk.flat_len l); have HOF := Lib.hid (one_flat l)
  obtain ⟨n, hn⟩ : ∃ n, l.length = n := ⟨_, rfl⟩
  rw [hn] at hl HFL ⊢
  obtain ⟨F, hF⟩ : ∃ F, Mrk.flat l = F := ⟨_, rfl⟩
  rw [hF] at HNW HFL HOF ⊢
  clear hr hn hF
  go_enter Try.func37, Try.ntmps37
  go_wp2_with (at_builtin; refine wpList_append_own _ rfl _ _ 22 rfl w.heap.size 30 i0 _ 2 24 Try.underlying22 hi hz0 hz1 hz2 rfl (by decide) _ _ _ rfl (World.ownsRow_made w #[] 0 (Nat.le_refl _) (Nat.zero_le _) (by simp)) ad n c F rfl HFL.out (fun j u hj => Lib.cell?_alloc_some _ (HNW.out j u hj)) HOF.out (by unfold maxLen; omega) (by omega) (by simp) ?_)
  intro v' w1 hown hgrow hnil
  go_wp2
  go_ret
  refine ⟨v', rfl, by simpa using hown, ?_, ?_⟩
  · exact hnil
  · exact ((Below.refl _ w).alloc (Nat.le_refl _) _).grown hgrow (by simp) (by intro k hk; simp [Value.ownBlock] at hk; omega)
theorem mclone_nil (w : World) : Calls Try.prog 37 #[.slice none 0 0] w fun e w' => e = .returned (.slice none 0 0) ∧ w' = w := by
  have h := AnyE.slices_Clone_nil Try.mkClone 0 0 w
  change Calls Try.prog 37 _ _ _ at h
  exact h

/-- The first k of them shifted. -/
def mixM (l : List Mrk) (F : Int → Int) (k : Nat) : List Mrk := shfM (l.take k) F ++ l.drop k
theorem mixM_len (l : List Mrk) (F : Int → Int) (k : Nat) : (mixM l F k).length = l.length := by
  unfold mixM
  rw [List.length_append, shfM_len, ← List.length_append, List.take_append_drop]
theorem mixM_get (l : List Mrk) (F : Int → Int) (k : Nat) (h : k < l.length) : (mixM l F k)[k]? = some l[k]! := by
  unfold mixM
  rw [List.getElem?_append_right (by rw [shfM_len, List.length_take]; omega), shfM_len, List.length_take, Nat.min_eq_left (by omega), Nat.sub_self, List.getElem?_drop, Nat.add_zero, List.getElem?_eq_getElem h, mget h]
theorem mixM_next (l : List Mrk) (F : Int → Int) (k : Nat) (h : k < l.length) : mixM l F (k + 1) = (mixM l F k).set k ⟨(l[k]!).name, F (l[k]!).p⟩ := by
  unfold mixM
  have hl : (shfM (l.take k) F).length = k := by rw [shfM_len, List.length_take]; omega
  rw [shfM_take l F k h, List.set_append_right _ _ (by rw [hl]; exact Nat.le_refl _), hl, Nat.sub_self, List.append_assoc]
  congr 1
  rw [List.drop_eq_getElem_cons h, List.set_cons_zero]
  rfl
theorem flat_set (l : List Mrk) (k : Nat) (x : Mrk) (h : k < l.length) (hx : x.name = (l[k]!).name) : (Mrk.flat l).set (k * 2 + 1) (.int .i64 x.p) = Mrk.flat (l.set k x) := by
  induction l generalizing k with
  | nil => simp at h
  | cons a r ih =>
    have e : ∀ y : Mrk, ∀ s, Mrk.flat (y :: s) = .string y.name :: .int .i64 y.p :: Mrk.flat s := fun y s => by simp [Mrk.flat]
    cases k with
    | zero =>
      have hx : x.name = a.name := hx
      rw [e, List.set_cons_zero, e, hx]
      rfl
    | succ k =>
      have e2 : (a :: r).set (k + 1) x = a :: r.set k x := rfl
      rw [e2, e, e, show (k + 1) * 2 + 1 = k * 2 + 1 + 1 + 1 by omega, List.set_cons_succ, List.set_cons_succ, ih k (by simpa using h) (by simpa using hx)]
theorem own_at {w : World} {base g cap : Nat} {t : TypeId} {n : Nat} {l : List Mrk} (h : w.ownsRow base t 2 (.slice (some ⟨g, 0, none⟩) n cap) n (Mrk.flat l)) (k : Nat) (hk : k < l.length) : w.cell? ⟨g, k * 2 + 1, none⟩ = some (.int .i64 (l[k]!).p) := by
  have hl : l.length = n := by have := h.1; rw [Mrk.flat_len] at this; omega
  rw [h.cellAt (k * 2 + 1) (by omega), (Mrk.flat_get l k hk).2, mget hk]
section
variable {wX w2 w3 : World} {b : Nat} {z u v : Value}
theorem sf_grown (h : Below wX.heap.size wX w2 ∧ w2.cell? ⟨b, 0, none⟩ = some z ∧ w2.cell? ⟨b, 1, none⟩ = some u ∧ w2.cell? ⟨b, 2, none⟩ = some v) (hb : Below wX.heap.size wX w3) (hx : b < wX.heap.size) :
    Below wX.heap.size wX w3 ∧ w3.cell? ⟨b, 0, none⟩ = some z ∧ w3.cell? ⟨b, 1, none⟩ = some u ∧ w3.cell? ⟨b, 2, none⟩ = some v := by
  have g : ∀ p : Addr, p.block < wX.heap.size → w3.cell? p = w2.cell? p := fun p hp => (hb.cell hp).trans (h.1.cell hp).symm
  exact ⟨hb, (g _ hx).trans h.2.1, (g _ hx).trans h.2.2.1, (g _ hx).trans h.2.2.2⟩
theorem sf_keep (h : Below wX.heap.size wX w2 ∧ w2.cell? ⟨b, 0, none⟩ = some z ∧ w2.cell? ⟨b, 1, none⟩ = some u ∧ w2.cell? ⟨b, 2, none⟩ = some v) (hb : Below w2.heap.size w2 w3) (hx : b < wX.heap.size) :
    Below wX.heap.size wX w3 ∧ w3.cell? ⟨b, 0, none⟩ = some z ∧ w3.cell? ⟨b, 1, none⟩ = some u ∧ w3.cell? ⟨b, 2, none⟩ = some v := sf_grown h (h.1.trans (hb.mono h.1.size)) hx
end

set_option maxRecDepth 100000 in
set_option maxHeartbeats 800000 in
theorem mshift_nil (c : Nat) (ep : Int) (eo en : ByteArray) (w : World) (hc : c = 0) : Calls Try.prog 21 #[.slice none 0 c, edV ep eo en] w (RetMrks w []) := by
  subst hc
  show Calls Try.prog 21 #[.slice none 0 0, .agg #[.int .i64 ep, .string eo, .string en]] w _
  go_enter Try.func21, Try.ntmps21
  go_wp2_with fail
  refine (mclone_nil _).mono ?_
  rintro e w1 ⟨rfl, rfl⟩
  go_wp2
  refine wp_loop_rounds 1 ?_
  rw [rounds_succ]
  go_wp2
  go_ret
  exact ⟨none, 0, rfl, fun k hk => absurd hk (by simp), (Below.refl w.heap.size w).alloc (Nat.le_refl _) _⟩

set_option maxRecDepth 100000 in
set_option maxHeartbeats 1600000 in
theorem mshift_some (ad : Addr) (l : List Mrk) (c : Nat) (ep : Int) (eo en : ByteArray) (w : World) (hp : Pcs w ⟨some ad, l, c⟩) (hl : l.length ≤ 1000000)
    (ho : eo.size ≤ 4294967296) (hn : en.size ≤ 4294967296) (hpz : -2305843009213693952 ≤ ep ∧ ep ≤ 2305843009213693952) (ha : ∀ x ∈ l, -2305843009213693952 ≤ x.p ∧ x.p ≤ 2305843009213693952) :
    Calls Try.prog 21 #[.slice (some ad) l.length c, edV ep eo en] w (RetMrks w (shfM l (shiftI ep eo.size en.size))) := by
  have cs := fun x (hx : x ∈ l) => shift_any ep x.p eo en ho hn hpz (ha x hx)
  obtain ⟨F, hF⟩ : ∃ F, shiftI ep eo.size en.size = F := ⟨_, rfl⟩
  rw [hF] at cs ⊢
  obtain ⟨wX, hwX⟩ : ∃ wX, w.alloc (.cells #[.int .i64 ep, .string eo, .string en] 38) = wX := ⟨_, rfl⟩
  have hb0 : Below w.heap.size w (w.alloc (.cells #[.int .i64 ep, .string eo, .string en] 38)) := (Below.refl w.heap.size w).alloc (Nat.le_refl _) _
  obtain ⟨x0, x1, x2⟩ := box_ed (N := w.heap.size + 1) (by omega) (Below.refl (w.heap.size + 1) (w.alloc (.cells #[.int .i64 ep, .string eo, .string en] 38)))
  have hX1 : w.heap.size + 1 ≤ wX.heap.size := by rw [← hwX]; simp
  rw [hwX] at x0 x1 x2 hb0
  have cc := mclone_some ad l c wX (hp.later hb0).row hl
  have hend : ∀ w', Below wX.heap.size wX w' → Below w.heap.size w w' := fun w' h => hb0.trans (h.mono (by omega))
  obtain ⟨n, hn2⟩ : ∃ n, l.length = n := ⟨_, rfl⟩
  rw [hn2] at hl cc ⊢
  have HN := Lib.hid hn2; have CS := Lib.hid cs; have HEND := Lib.hid hend; have HXB := Lib.hid (show w.heap.size < wX.heap.size by omega); have CC := Lib.hid cc
  clear hn2 hp cs hF hb0 hend ho hn hpz ha cc
  show Calls Try.prog 21 #[.slice (some ad) n c, .agg #[.int .i64 ep, .string eo, .string en]] w _
  go_enter Try.func21, Try.ntmps21
  go_wp2_with fail
  refine CC.out.mono ?_
  rintro e w1 ⟨v, rfl, hown1, hne, hbel1⟩
  obtain ⟨g, cap, rfl, hg⟩ : ∃ g cap, v = .slice (some ⟨g, 0, none⟩) n cap ∧ wX.heap.size ≤ g := by
    rcases hown1.2 with ⟨e0, -⟩ | ⟨g, cap, cur, e0, hb, -⟩
    · exact absurd e0 hne
    · exact ⟨g, cap, e0, hb⟩
  have HG := Lib.hid hg
  have HO1 := Lib.hid hown1; have HB1 := Lib.hid hbel1
  clear hwX hne hown1 hbel1 hg
  go_wp2
  go_loopw [10] (fun i wr => ∃ k : Nat, k ≤ n ∧ i = .int .i64 k ∧ wr.ownsRow wX.heap.size 30 2 (.slice (some ⟨g, 0, none⟩) n cap) n (Mrk.flat (mixM l F k)) ∧ Below wX.heap.size wX wr) (fun i _ => n - (intOf i).toNat)
  case atStart => exact ⟨0, Nat.zero_le _, rfl, by unfold mixM; simpa [shfM] using HO1.out, HB1.out⟩
  case round =>
    obtain ⟨k, hk, rfl, hown, hbel⟩ := hrel
    by_cases hlt : k < n
    · have hkl : k < l.length := by rw [HN.out]; exact hlt
      have y0 := (hbel.cell (p := ⟨w.heap.size, 0, none⟩) HXB.out).trans x0
      have y1 := (hbel.cell (p := ⟨w.heap.size, 1, none⟩) HXB.out).trans x1
      have y2 := (hbel.cell (p := ⟨w.heap.size, 2, none⟩) HXB.out).trans x2
      have hq := own_at hown k (by rw [mixM_len]; exact hkl)
      have hgk : (mixM l F k)[k]! = l[k]! := by rw [getElem!_def, mixM_get l F k hkl]
      have rs := CS.out _ (List.getElem_mem hkl)
      have hs : Mrk.flat (mixM l F (k + 1)) = (Mrk.flat (mixM l F k)).set (k * 2 + 1) (.int .i64 (F (l[k]!).p)) := by
        rw [mixM_next l F k hkl]
        exact (flat_set (mixM l F k) k ⟨(l[k]!).name, F (l[k]!).p⟩ (by rw [mixM_len]; exact hkl) (by rw [hgk])).symm
      rw [hgk] at hq
      rw [← mget hkl] at rs
      obtain ⟨id, hid⟩ : ∃ x, (l[k]!).p = x := ⟨_, rfl⟩
      rw [hid] at hs hq rs
      obtain ⟨r, hr⟩ : ∃ r, F id = r := ⟨_, rfl⟩
      rw [hr] at hs rs
      have hq2 : wr.drew.cell? ⟨g, k * 2 + 1, none⟩ = some (.int .i64 id) := hq
      have HS := Lib.hid hs; have RS := Lib.hid rs; have HO := Lib.hid hown.drew
      have b0 : (0 : Int) ≤ (k : Int) := by omega
      have b1 : (k : Int) < (n : Int) := by omega
      clear hs rs hr hX1 hown hgk hid hq
      go_wp2_with fail
      refine wp_region_held_drew (S := (fun w' : World => Below wX.heap.size wX w' ∧ w'.cell? ⟨w.heap.size, 0, none⟩ = some (.int .i64 ep) ∧ w'.cell? ⟨w.heap.size, 1, none⟩ = some (.string eo) ∧ w'.cell? ⟨w.heap.size, 2, none⟩ = some (.string en))) (by kernel_rfl) ⟨hbel.drew, y0, y1, y2⟩ (fun hHeld => ?_)
      refine wpAnyH_take (i := 0) (v := ?_) (by simp only [List.getElem?_toArray, List.getElem?_cons_zero]; rfl) (by kernel_rfl) (by kernel_rfl) (by kernel_rfl) (fun _ _ _ h => by exact h) (Or.inl ⟨by rfl, ?_⟩) (by assumption) ?_
      rotate_left
      · (intro w hSw; (try dsimp only at hSw); go_simp; try with_reducible rfl)
      try simp only [Act.put, List.setIfInBounds_toArray, List.set_cons_zero, List.set_cons_succ]
      refine wpAnyH_take (i := 1) (v := ?_) (by simp only [List.getElem?_toArray, List.getElem?_cons_succ, List.getElem?_cons_zero]; rfl) (by kernel_rfl) (by kernel_rfl) (by kernel_rfl) (fun _ _ _ h => by exact h) (Or.inl ⟨by rfl, ?_⟩) (by assumption) ?_
      rotate_left
      · (intro w hSw; (try dsimp only at hSw); go_simp; try with_reducible rfl)
      try simp only [Act.put, List.setIfInBounds_toArray, List.set_cons_zero, List.set_cons_succ]
      refine wpAnyH_take (i := 2) (v := ?_) (by simp only [List.getElem?_toArray, List.getElem?_cons_succ, List.getElem?_cons_zero]; rfl) (by kernel_rfl) (by kernel_rfl) (by kernel_rfl) (fun _ _ _ h => by exact h) (Or.inl ⟨by rfl, ?_⟩) (by assumption) ?_
      rotate_left
      · (intro w hSw; (try dsimp only at hSw); go_simp; try with_reducible rfl)
      try simp only [Act.put, List.setIfInBounds_toArray, List.set_cons_zero, List.set_cons_succ]
      refine wpAnyH_take (i := 3) (v := ?_) (by simp only [List.getElem?_toArray, List.getElem?_cons_succ, List.getElem?_cons_zero]; rfl) (by kernel_rfl) (by kernel_rfl) (by kernel_rfl) (fun _ _ _ h => by exact h) (Or.inl ⟨by rfl, ?_⟩) (by assumption) ?_
      rotate_left
      · (intro w hSw; (try dsimp only at hSw); go_simp; try with_reducible rfl)
      try simp only [Act.put, List.setIfInBounds_toArray, List.set_cons_zero, List.set_cons_succ]
      refine wpAnyH_take (i := 4) (v := ?_) (by simp only [List.getElem?_toArray, List.getElem?_cons_succ, List.getElem?_cons_zero]; rfl) (by kernel_rfl) (by kernel_rfl) (by kernel_rfl) (fun _ _ _ h => by exact h) (Or.inl ⟨by rfl, ?_⟩) (by assumption) ?_
      rotate_left
      · (intro w hSw; (try dsimp only at hSw); go_simp; try with_reducible rfl)
      try simp only [Act.put, List.setIfInBounds_toArray, List.set_cons_zero, List.set_cons_succ]
      refine wpAnyH_take (i := 5) (v := ?_) (by simp only [List.getElem?_toArray, List.getElem?_cons_succ, List.getElem?_cons_zero]; rfl) (by kernel_rfl) (by kernel_rfl) (by kernel_rfl) (fun _ _ _ h => by exact h) (Or.inl ⟨by rfl, ?_⟩) (by assumption) ?_
      rotate_left
      · (intro w hSw; (try dsimp only at hSw); go_simp; try with_reducible rfl)
      try simp only [Act.put, List.setIfInBounds_toArray, List.set_cons_zero, List.set_cons_succ]
      refine wpAnyH_take (i := 6) (v := ?_) (by simp only [List.getElem?_toArray, List.getElem?_cons_succ, List.getElem?_cons_zero]; rfl) (by kernel_rfl) (by kernel_rfl) (by kernel_rfl) (fun _ _ _ h => by exact h) (Or.inl ⟨by rfl, ?_⟩) (by assumption) ?_
      rotate_left
      · (intro w hSw; (try dsimp only at hSw); go_simp; try with_reducible rfl)
      try simp only [Act.put, List.setIfInBounds_toArray, List.set_cons_zero, List.set_cons_succ]
      refine wpAnyH_ready (rs := [7]) (by kernel_rfl) (by simp) ?_
      refine AllReadyH.cons (by simp only [List.getElem?_toArray, List.getElem?_cons_succ, List.getElem?_cons_zero]; rfl) (fun K hK => ?_) AllReadyH.nil
      go_simp
      refine hK.out _ _ ?_ (fun hHeld => ?_)
      · exact hHeld
      clear hK K
      try simp only [Act.put, List.setIfInBounds_toArray, List.set_cons_zero, List.set_cons_succ]
      refine wpAnyH_ready (rs := [8]) (by kernel_rfl) (by simp) ?_
      refine AllReadyH.cons (by simp only [List.getElem?_toArray, List.getElem?_cons_succ, List.getElem?_cons_zero]; rfl) (fun K hK => ?_) AllReadyH.nil
      go_simp
      (go_at_call 38; refine (RS.out _).mono ?_; rintro e w3 ⟨rfl, hb2⟩; have HK := Lib.hid (sf_keep hHeld hb2 HXB.out); have HO3 := Lib.hid (own_later HO.out hb2); clear hb2; have cz := own_at HO3.out k (by rw [mixM_len, HN.out]; exact hlt); have fz := HO3.out.frozenAt (k * 2 + 1))
      try go_wp2_with fail
      refine hK.out _ _ ?_ (fun hHeld => ?_)
      · exact HK.out
      clear hK K
      try simp only [Act.put, List.setIfInBounds_toArray, List.set_cons_zero, List.set_cons_succ]
      refine wpAnyH_take (i := 9) (v := ?_) (by simp only [List.getElem?_toArray, List.getElem?_cons_succ, List.getElem?_cons_zero]; rfl) (by kernel_rfl) (by kernel_rfl) (by kernel_rfl) (fun _ _ _ h => by exact h) (Or.inl ⟨by rfl, ?_⟩) (by assumption) ?_
      rotate_left
      · (intro w hSw; (try dsimp only at hSw); go_simp; try with_reducible rfl)
      try simp only [Act.put, List.setIfInBounds_toArray, List.set_cons_zero, List.set_cons_succ]
      refine wpAnyH_take (i := 10) (v := ?_) (by simp only [List.getElem?_toArray, List.getElem?_cons_succ, List.getElem?_cons_zero]; rfl) (by kernel_rfl) (by kernel_rfl) (by kernel_rfl) (fun _ _ _ h => by exact h) (Or.inl ⟨by rfl, ?_⟩) (by assumption) ?_
      rotate_left
      · (intro w hSw; (try dsimp only at hSw); go_simp; try with_reducible rfl)
      try simp only [Act.put, List.setIfInBounds_toArray, List.set_cons_zero, List.set_cons_succ]
      refine wpAnyH_ready (rs := [11]) (by kernel_rfl) (by simp) ?_
      refine AllReadyH.cons (by simp only [List.getElem?_toArray, List.getElem?_cons_succ, List.getElem?_cons_zero]; rfl) (fun K hK => ?_) AllReadyH.nil
      go_simp
      have HB4 := Lib.hid (HK.out.1.setCell (p := ⟨g, k * 2 + 1, none⟩) HG.out (.int .i64 r)); have HK4 := Lib.hid (sf_grown HK.out HB4.out HXB.out); have HO4 := Lib.hid (HO3.out.stored (k * 2 + 1) (.int .i64 r)).1
      try go_wp2_with fail
      refine hK.out _ _ ?_ (fun hHeld => ?_)
      · exact HK4.out
      clear hK K
      try simp only [Act.put, List.setIfInBounds_toArray, List.set_cons_zero, List.set_cons_succ]
      refine wpAnyH_done (by kernel_rfl) ?_ _
      go_wp2_with fail
      go_roundw
      case rel => exact ⟨k + 1, by omega, by go_num, by rw [HS.out]; exact HO4.out, HB4.out⟩
      case measure => simp [intOf]; omega
    · obtain rfl : k = n := by omega
      have e : mixM l F k = shfM l F := by
        unfold mixM
        rw [List.take_of_length_le (by rw [HN.out]; exact Nat.le_refl _), List.drop_eq_nil_of_le (by rw [HN.out]; exact Nat.le_refl _), List.append_nil]
      have hlm : (shfM l F).length = k := by rw [shfM_len, HN.out]
      rw [e] at hown
      have hown2 : wr.ownsRow wX.heap.size 30 2 (.slice (some ⟨g, 0, none⟩) (shfM l F).length cap) (shfM l F).length (Mrk.flat (shfM l F)) := by rw [hlm]; exact hown
      obtain ⟨ad2, cp, he, hn⟩ := own_mrks hown2
      rw [hlm] at he
      have HNN := Lib.hid hn; have HE := Lib.hid he; have HLM := Lib.hid hlm
      clear hn hown hlm e hown2 he
      go_wp2
      go_ret
      have he := HE.out
      injection he with e1 _ e3
      subst e1
      subst e3
      exact ⟨_, _, by rw [HLM.out]; rfl, HNN.out.more (fun b hb => ⟨by have := HXB.out; omega, hb.2⟩), HEND.out _ hbel⟩
theorem mshift_any (a : Option Addr) (l : List Mrk) (c : Nat) (ep : Int) (eo en : ByteArray) (w : World) (hp : Pcs w ⟨a, l, c⟩) (hl : l.length ≤ 1000000)
    (ho : eo.size ≤ 4294967296) (hn : en.size ≤ 4294967296) (hpz : -2305843009213693952 ≤ ep ∧ ep ≤ 2305843009213693952) (ha : ∀ x ∈ l, -2305843009213693952 ≤ x.p ∧ x.p ≤ 2305843009213693952) :
    Calls Try.prog 21 #[.slice a l.length c, edV ep eo en] w (RetMrks w (shfM l (shiftI ep eo.size en.size))) := by
  cases a with
  | none =>
    obtain rfl : l = [] := hp.len rfl
    exact mshift_nil c ep eo en w (hp.nil rfl)
  | some ad => exact mshift_some ad l c ep eo en w hp hl ho hn hpz ha
end Go.Proofs.Ytimlfgjljnkbcaa
