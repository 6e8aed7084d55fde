/-
  The document's marks (layer 22), third part: Shift. (Written by gen_shift22.py.)
-/
import Derived.Test.YtimlfgjljnkbcaaMarkRef2
import Derived.Test.YtimlfgjljnkbcaaEditRef
import Derived.Deep.RegionHeld3
namespace Go.Proofs.Ytimlfgjljnkbcaa
open Go.RowKit
set_option linter.unusedVariables false

theorem own_later {w w' : World} {base : Nat} {e : TypeId} {size : Nat} {v : Value} {n : Nat} {xs : List Value} (h : w.ownsRow base e size v n xs) (hb : Below w.heap.size w w') : w'.ownsRow base e size v n xs := by
  refine ⟨h.1, ?_⟩
  rcases h.2 with h2 | ⟨g, cap, cur, hv, hg0, hg, hr⟩
  · exact .inl h2
  · exact .inr ⟨g, cap, cur, hv, hg0, (hb.block g (by rcases Nat.lt_or_ge g w.heap.size with h' | h'; exact h'; rw [Array.getElem?_eq_none h'] at hg; cases hg)).trans hg, hr⟩
section
variable {wX w2 w3 : World} {ad : Addr} {b k : Nat} {x y z u v : Value}
theorem sh_grown (h : Below wX.heap.size wX w2 ∧ w2.cell? (ad.add (k * 2)) = some x ∧ w2.cell? ⟨(ad.add (k * 2)).block, (ad.add (k * 2)).off + 1, none⟩ = some y ∧ w2.cell? ⟨b, 0, none⟩ = some z ∧ w2.cell? ⟨b, 1, none⟩ = some u ∧ w2.cell? ⟨b, 2, none⟩ = some v)
    (hb : Below wX.heap.size wX w3) (hab : ad.block < wX.heap.size) (hx : b < wX.heap.size) :
    Below wX.heap.size wX w3 ∧ w3.cell? (ad.add (k * 2)) = some x ∧ w3.cell? ⟨(ad.add (k * 2)).block, (ad.add (k * 2)).off + 1, none⟩ = some y ∧ w3.cell? ⟨b, 0, none⟩ = some z ∧ w3.cell? ⟨b, 1, none⟩ = some u ∧ w3.cell? ⟨b, 2, none⟩ = some v := by
  have e : (ad.add (k * 2)).block = ad.block := by unfold Addr.add; split <;> rfl
  have g : ∀ p : Addr, p.block < wX.heap.size → w3.cell? p = w2.cell? p := fun p hp => (hb.cell hp).trans (h.1.cell hp).symm
  exact ⟨hb, (g _ (by rw [e]; exact hab)).trans h.2.1, (g _ (by show (ad.add (k * 2)).block < _; rw [e]; exact hab)).trans h.2.2.1, (g _ hx).trans h.2.2.2.1, (g _ hx).trans h.2.2.2.2.1, (g _ hx).trans h.2.2.2.2.2⟩
theorem sh_keep (h : Below wX.heap.size wX w2 ∧ w2.cell? (ad.add (k * 2)) = some x ∧ w2.cell? ⟨(ad.add (k * 2)).block, (ad.add (k * 2)).off + 1, none⟩ = some y ∧ w2.cell? ⟨b, 0, none⟩ = some z ∧ w2.cell? ⟨b, 1, none⟩ = some u ∧ w2.cell? ⟨b, 2, none⟩ = some v)
    (hb : Below w2.heap.size w2 w3) (hab : ad.block < wX.heap.size) (hx : b < wX.heap.size) :
    Below wX.heap.size wX w3 ∧ w3.cell? (ad.add (k * 2)) = some x ∧ w3.cell? ⟨(ad.add (k * 2)).block, (ad.add (k * 2)).off + 1, none⟩ = some y ∧ w3.cell? ⟨b, 0, none⟩ = some z ∧ w3.cell? ⟨b, 1, none⟩ = some u ∧ w3.cell? ⟨b, 2, none⟩ = some v :=
  sh_grown h (h.1.trans (hb.mono h.1.size)) hab hx
end
theorem box_ed {w wr : World} {x y z : Value} {t : TypeId} {N : Nat} (hN : w.heap.size < N) (h : Below N (w.alloc (.cells #[x, y, z] t)) wr) : wr.cell? ⟨w.heap.size, 0, none⟩ = some x ∧ wr.cell? ⟨w.heap.size, 1, none⟩ = some y ∧ wr.cell? ⟨w.heap.size, 2, none⟩ = some z := by
  refine ⟨(h.cell (p := ⟨w.heap.size, 0, none⟩) hN).trans ?_, (h.cell (p := ⟨w.heap.size, 1, none⟩) hN).trans ?_, (h.cell (p := ⟨w.heap.size, 2, none⟩) hN).trans ?_⟩ <;> simp [World.cell?_alloc_new]

set_option maxRecDepth 100000 in
set_option maxHeartbeats 1600000 in
theorem rshift22_any (a : Option Addr) (l : List Mrk) (c : Nat) (ep : Int) (eo en : ByteArray) (B : Nat → Prop) (w : World) (hr : Mrks w B a l) (hB : ∀ b, B b → b < w.heap.size) (hl : l.length ≤ 1000000)
    (ho : eo.size ≤ 4294967296) (hn : en.size ≤ 4294967296) (hp : -2305843009213693952 ≤ ep ∧ ep ≤ 2305843009213693952) (ha : ∀ x ∈ l, -2305843009213693952 ≤ x.p ∧ x.p ≤ 2305843009213693952) :
    Calls Try.prog 22 #[.slice a l.length c, edV ep eo en] w (RetMrks w (shfM l (shiftI ep eo.size en.size))) := by
  obtain ⟨i0, hi, hz0, hz1, hz2⟩ := info_parts mrk_info
  have cs := fun x (hx : x ∈ l) => rshift_any ep x.p eo en ho hn hp (ha x hx)
  obtain ⟨F, hF⟩ : ∃ F, shiftI ep eo.size en.size = F := ⟨_, rfl⟩
  rw [hF] at cs ⊢
  obtain ⟨wX, hwX⟩ : ∃ wX, w.alloc (.cells #[.int .i64 ep, .string eo, .string en] 38) = wX := ⟨_, rfl⟩
  have hb0 : Below w.heap.size w (w.alloc (.cells #[.int .i64 ep, .string eo, .string en] 38)) := (Below.refl w.heap.size w).alloc (Nat.le_refl _) _
  obtain ⟨x0, x1, x2⟩ := box_ed (N := w.heap.size + 1) (by omega) (Below.refl (w.heap.size + 1) (w.alloc (.cells #[.int .i64 ep, .string eo, .string en] 38)))
  have hX1 : w.heap.size + 1 ≤ wX.heap.size := by rw [← hwX]; simp
  have hrX : Mrks wX (· < wX.heap.size) a l := by rw [← hwX]; exact (hr.below hB hb0).more fun b hb => by have := hB b hb; simp; omega
  have hend : ∀ w', Below wX.heap.size wX w' → Below w.heap.size w w' := fun w' h => box_below (N := wX.heap.size) (by omega) (by rw [hwX]; exact h)
  rw [hwX] at x0 x1 x2
  obtain ⟨n, hn2⟩ : ∃ n, l.length = n := ⟨_, rfl⟩
  rw [hn2] at hl ⊢
  have HN := Lib.hid hn2; have HR := Lib.hid hrX; have CS := Lib.hid cs; have HEND := Lib.hid hend; have HXB := Lib.hid (show w.heap.size < wX.heap.size by omega)
  clear hn2 hr hrX cs hF hb0 hend ho hn hp ha
  show Calls Try.prog 22 #[.slice a n c, .agg #[.int .i64 ep, .string eo, .string en]] w _
  go_enter Try.func22, Try.ntmps22
  go_wp2
  clear hwX
  go_loopw [5, 6] (fun v i wr => ∃ k : Nat, k ≤ n ∧ i = .int .i64 k ∧ wr.ownsRow wX.heap.size 30 2 v k (Mrk.flat (shfM (l.take k) F)) ∧ Below wX.heap.size wX wr) (fun _ i _ => n - (intOf i).toNat)
  case atStart => exact ⟨0, Nat.zero_le _, rfl, World.ownsRow_nil _ _ _ _, Below.refl _ _⟩
  case round =>
    obtain ⟨k, hk, rfl, hown, hbel⟩ := hrel
    by_cases hlt : k < n
    · have hkl : k < l.length := by rw [HN.out]; exact hlt
      have y0 := (hbel.cell (p := ⟨w.heap.size, 0, none⟩) HXB.out).trans x0
      have y1 := (hbel.cell (p := ⟨w.heap.size, 1, none⟩) HXB.out).trans x1
      have y2 := (hbel.cell (p := ⟨w.heap.size, 2, none⟩) HXB.out).trans x2
      obtain ⟨ad, rfl, hab, q0, q1⟩ := (HR.out.below (fun _ h => h) hbel) k hkl
      have HAB := Lib.hid (show ad.block < wX.heap.size from hab)
      have rs := CS.out _ (List.getElem_mem hkl)
      rw [← mget hkl] at q0 q1 rs
      have hs := shfM_take l F k hkl
      obtain ⟨x, hx⟩ : ∃ x, l[k]! = x := ⟨_, rfl⟩
      rw [hx] at q0 q1 hs rs
      obtain ⟨nm, id⟩ := x
      simp only at q0 q1 hs rs
      obtain ⟨r, hr⟩ : ∃ r, F id = r := ⟨_, rfl⟩
      rw [hr] at hs rs
      obtain ⟨o, ho⟩ : ∃ o, shfM (l.take k) F = o := ⟨_, rfl⟩
      rw [ho] at hs hown
      have HS := Lib.hid hs; have RS := Lib.hid rs; have HO := Lib.hid hown.drew
      have b0 : (0 : Int) ≤ (k : Int) := by omega
      have b1 : (k : Int) < (n : Int) := by omega
      clear hx hs rs hr ho hab hX1 hown
      go_wp2_with fail
      refine wp_region_held_drew (S := (fun w' : World => Below wX.heap.size wX w' ∧ w'.cell? (ad.add (k * 2)) = some (.string nm) ∧ w'.cell? ⟨(ad.add (k * 2)).block, (ad.add (k * 2)).off + 1, none⟩ = some (.int .i64 id) ∧ w'.cell? ⟨w.heap.size, 0, none⟩ = some (.int .i64 ep) ∧ w'.cell? ⟨w.heap.size, 1, none⟩ = some (.string eo) ∧ w'.cell? ⟨w.heap.size, 2, none⟩ = some (.string en))) (by kernel_rfl) ⟨hbel.drew, q0, q1, y0, y1, y2⟩ (fun hHeld => ?_)
      refine wpAnyH_take (i := 0) (v := ?_) (by simp only [List.getElem?_toArray, List.getElem?_cons_zero]; rfl) (by kernel_rfl) (by kernel_rfl) (by kernel_rfl) (fun _ _ _ h => by exact h) (Or.inl ⟨by rfl, ?_⟩) (by assumption) ?_
      rotate_left
      · (intro w hSw; (try dsimp only at hSw); go_simp; try with_reducible rfl)
      try simp only [Act.put, List.setIfInBounds_toArray, List.set_cons_zero, List.set_cons_succ]
      refine wpAnyH_take (i := 1) (v := ?_) (by simp only [List.getElem?_toArray, List.getElem?_cons_succ, List.getElem?_cons_zero]; rfl) (by kernel_rfl) (by kernel_rfl) (by kernel_rfl) (fun _ _ _ h => by exact h) (Or.inl ⟨by rfl, ?_⟩) (by assumption) ?_
      rotate_left
      · (intro w hSw; (try dsimp only at hSw); go_simp; try with_reducible rfl)
      try simp only [Act.put, List.setIfInBounds_toArray, List.set_cons_zero, List.set_cons_succ]
      refine wpAnyH_take (i := 2) (v := ?_) (by simp only [List.getElem?_toArray, List.getElem?_cons_succ, List.getElem?_cons_zero]; rfl) (by kernel_rfl) (by kernel_rfl) (by kernel_rfl) (fun _ _ _ h => by exact h) (Or.inl ⟨by rfl, ?_⟩) (by assumption) ?_
      rotate_left
      · (intro w hSw; (try dsimp only at hSw); go_simp; try with_reducible rfl)
      try simp only [Act.put, List.setIfInBounds_toArray, List.set_cons_zero, List.set_cons_succ]
      refine wpAnyH_take (i := 3) (v := ?_) (by simp only [List.getElem?_toArray, List.getElem?_cons_succ, List.getElem?_cons_zero]; rfl) (by kernel_rfl) (by kernel_rfl) (by kernel_rfl) (fun _ _ _ h => by exact h) (Or.inl ⟨by rfl, ?_⟩) (by assumption) ?_
      rotate_left
      · (intro w hSw; (try dsimp only at hSw); go_simp; try with_reducible rfl)
      try simp only [Act.put, List.setIfInBounds_toArray, List.set_cons_zero, List.set_cons_succ]
      refine wpAnyH_take (i := 4) (v := ?_) (by simp only [List.getElem?_toArray, List.getElem?_cons_succ, List.getElem?_cons_zero]; rfl) (by kernel_rfl) (by kernel_rfl) (by kernel_rfl) (fun _ _ _ h => by exact h) (Or.inl ⟨by rfl, ?_⟩) (by assumption) ?_
      rotate_left
      · (intro w hSw; (try dsimp only at hSw); go_simp; try with_reducible rfl)
      try simp only [Act.put, List.setIfInBounds_toArray, List.set_cons_zero, List.set_cons_succ]
      refine wpAnyH_take (i := 5) (v := ?_) (by simp only [List.getElem?_toArray, List.getElem?_cons_succ, List.getElem?_cons_zero]; rfl) (by kernel_rfl) (by kernel_rfl) (by kernel_rfl) (fun _ _ _ h => by exact h) (Or.inl ⟨by rfl, ?_⟩) (by assumption) ?_
      rotate_left
      · (intro w hSw; (try dsimp only at hSw); go_simp; try with_reducible rfl)
      try simp only [Act.put, List.setIfInBounds_toArray, List.set_cons_zero, List.set_cons_succ]
      refine wpAnyH_take (i := 6) (v := ?_) (by simp only [List.getElem?_toArray, List.getElem?_cons_succ, List.getElem?_cons_zero]; rfl) (by kernel_rfl) (by kernel_rfl) (by kernel_rfl) (fun _ _ _ h => by exact h) (Or.inl ⟨by rfl, ?_⟩) (by assumption) ?_
      rotate_left
      · (intro w hSw; (try dsimp only at hSw); go_simp; try with_reducible rfl)
      try simp only [Act.put, List.setIfInBounds_toArray, List.set_cons_zero, List.set_cons_succ]
      refine wpAnyH_take (i := 7) (v := ?_) (by simp only [List.getElem?_toArray, List.getElem?_cons_succ, List.getElem?_cons_zero]; rfl) (by kernel_rfl) (by kernel_rfl) (by kernel_rfl) (fun _ _ _ h => by exact h) (Or.inl ⟨by rfl, ?_⟩) (by assumption) ?_
      rotate_left
      · (intro w hSw; (try dsimp only at hSw); go_simp; try with_reducible rfl)
      try simp only [Act.put, List.setIfInBounds_toArray, List.set_cons_zero, List.set_cons_succ]
      refine wpAnyH_take (i := 8) (v := ?_) (by simp only [List.getElem?_toArray, List.getElem?_cons_succ, List.getElem?_cons_zero]; rfl) (by kernel_rfl) (by kernel_rfl) (by kernel_rfl) (fun _ _ _ h => by exact h) (Or.inl ⟨by rfl, ?_⟩) (by assumption) ?_
      rotate_left
      · (intro w hSw; (try dsimp only at hSw); go_simp; try with_reducible rfl)
      try simp only [Act.put, List.setIfInBounds_toArray, List.set_cons_zero, List.set_cons_succ]
      refine wpAnyH_take (i := 9) (v := ?_) (by simp only [List.getElem?_toArray, List.getElem?_cons_succ, List.getElem?_cons_zero]; rfl) (by kernel_rfl) (by kernel_rfl) (by kernel_rfl) (fun _ _ _ h => by exact h) (Or.inl ⟨by rfl, ?_⟩) (by assumption) ?_
      rotate_left
      · (intro w hSw; (try dsimp only at hSw); go_simp; try with_reducible rfl)
      try simp only [Act.put, List.setIfInBounds_toArray, List.set_cons_zero, List.set_cons_succ]
      refine wpAnyH_take (i := 10) (v := ?_) (by simp only [List.getElem?_toArray, List.getElem?_cons_succ, List.getElem?_cons_zero]; rfl) (by kernel_rfl) (by kernel_rfl) (by kernel_rfl) (fun _ _ _ h => by exact h) (Or.inl ⟨by rfl, ?_⟩) (by assumption) ?_
      rotate_left
      · (intro w hSw; (try dsimp only at hSw); go_simp; try with_reducible rfl)
      try simp only [Act.put, List.setIfInBounds_toArray, List.set_cons_zero, List.set_cons_succ]
      refine wpAnyH_take (i := 11) (v := ?_) (by simp only [List.getElem?_toArray, List.getElem?_cons_succ, List.getElem?_cons_zero]; rfl) (by kernel_rfl) (by kernel_rfl) (by kernel_rfl) (fun _ _ _ h => by exact h) (Or.inl ⟨by rfl, ?_⟩) (by assumption) ?_
      rotate_left
      · (intro w hSw; (try dsimp only at hSw); go_simp; try with_reducible rfl)
      try simp only [Act.put, List.setIfInBounds_toArray, List.set_cons_zero, List.set_cons_succ]
      refine wpAnyH_ready (rs := [12]) (by kernel_rfl) (by simp) ?_
      refine AllReadyH.cons (by simp only [List.getElem?_toArray, List.getElem?_cons_succ, List.getElem?_cons_zero]; rfl) (fun K hK => ?_) AllReadyH.nil
      go_simp
      (go_at_call 39; refine (RS.out _).mono ?_; rintro e w3 ⟨rfl, hb2⟩; have HK := Lib.hid (sh_keep hHeld hb2 HAB.out HXB.out); have HO3 := Lib.hid (own_later HO.out hb2); clear hb2)
      try go_wp2_with fail
      refine hK.out _ _ ?_ (fun hHeld => ?_)
      · exact HK.out
      clear hK K
      try simp only [Act.put, List.setIfInBounds_toArray, List.set_cons_zero, List.set_cons_succ]
      refine wpAnyH_take (i := 13) (v := ?_) (by simp only [List.getElem?_toArray, List.getElem?_cons_succ, List.getElem?_cons_zero]; rfl) (by kernel_rfl) (by kernel_rfl) (by kernel_rfl) (fun _ _ _ h => by exact h) (Or.inl ⟨by rfl, ?_⟩) (by assumption) ?_
      rotate_left
      · (intro w hSw; (try dsimp only at hSw); go_simp; try with_reducible rfl)
      try simp only [Act.put, List.setIfInBounds_toArray, List.set_cons_zero, List.set_cons_succ]
      refine wpAnyH_ready (rs := [14]) (by kernel_rfl) (by simp) ?_
      refine AllReadyH.cons (by simp only [List.getElem?_toArray, List.getElem?_cons_succ, List.getElem?_cons_zero]; rfl) (fun K hK => ?_) AllReadyH.nil
      go_simp
      have HK4 := Lib.hid (sh_keep HK.out ((Below.refl w3.heap.size w3).alloc (Nat.le_refl _) (.cells #[.string nm, .int .i64 r] 30)) HAB.out HXB.out); have HSZ := Lib.hid (HK4.out.1.size)
      try go_wp2_with fail
      refine hK.out _ _ ?_ (fun hHeld => ?_)
      · exact HK4.out
      clear hK K
      try simp only [Act.put, List.setIfInBounds_toArray, List.set_cons_zero, List.set_cons_succ]
      refine wpAnyH_ready (rs := [15]) (by kernel_rfl) (by simp) ?_
      refine AllReadyH.cons (by simp only [List.getElem?_toArray, List.getElem?_cons_succ, List.getElem?_cons_zero]; rfl) (fun K hK => ?_) AllReadyH.nil
      refine step_append_lies _ rfl (.tmp 13) (.tmp 27) 22 rfl wX.heap.size 30 i0 _ 2 24 Try.underlying22 hi hz0 hz1 hz2 rfl (by decide) u5 k (Mrk.flat o) rfl (HO3.out.alloc _) ⟨w3.heap.size, 0, none⟩ 1 1 [.string nm, .int .i64 r] rfl rfl (news_mrk w3 _ _ _) (one_mrk _ _) (by omega) (by unfold maxLen; omega) (by omega) HSZ.out _ rfl ?_
      intro g5 cap w6 hown' hgrow _ _
      have HB6 := Lib.hid (HK4.out.1.grown hgrow HSZ.out (own_block HO3.out)); have HK6 := Lib.hid (sh_grown HK4.out HB6.out HAB.out HXB.out); have HO6 := Lib.hid hown'; clear hown' hgrow
      refine hK.out _ _ ?_ (fun hHeld => ?_)
      · exact HK6.out
      clear hK K
      try simp only [Act.put, List.setIfInBounds_toArray, List.set_cons_zero, List.set_cons_succ]
      refine wpAnyH_take (i := 16) (v := ?_) (by simp only [List.getElem?_toArray, List.getElem?_cons_succ, List.getElem?_cons_zero]; rfl) (by kernel_rfl) (by kernel_rfl) (by kernel_rfl) (fun _ _ _ h => by exact h) (Or.inl ⟨by rfl, ?_⟩) (by assumption) ?_
      rotate_left
      · (intro w hSw; (try dsimp only at hSw); go_simp; try with_reducible rfl)
      try simp only [Act.put, List.setIfInBounds_toArray, List.set_cons_zero, List.set_cons_succ]
      refine wpAnyH_done (by kernel_rfl) ?_ _
      go_wp2_with fail
      go_roundw
      case rel => exact ⟨k + 1, by omega, by go_num, by rw [HS.out, Mrk.flat_app]; exact HO6.out, HB6.out⟩
      case measure => simp [intOf]; omega
    · obtain rfl : k = n := by omega
      rw [List.take_of_length_le (by rw [HN.out]; exact Nat.le_refl _)] at hown
      have hlm : (shfM l F).length = k := by rw [shfM_len, HN.out]
      rw [← hlm] at hown
      obtain ⟨ad2, cp, rfl, hn⟩ := own_mrks hown
      have HNN := Lib.hid hn; clear hn hown hlm
      go_wp2
      go_ret
      exact ⟨ad2, cp, rfl, HNN.out.more (fun b hb => ⟨by have := HXB.out; omega, hb.2⟩), HEND.out _ hbel⟩
end Go.Proofs.Ytimlfgjljnkbcaa
