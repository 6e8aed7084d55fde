/-
  The document's steps (layer 23), second part: Inverse. (Written by gen_rinv23.py.)
-/
import Derived.Test.YthboipmlkgmofaaStepDev2
import Derived.Deep.AppendLies
import Derived.Deep.RegionHeld3
namespace Go.Proofs.Ythboipmlkgmofaa
open Go.RowKit
set_option linter.unusedVariables false
set_option linter.unusedSimpArgs false

theorem ret_i64 {a b : Int} (h : a = b) : Value.int .i64 a = .int .i64 b := by rw [h]
theorem blk_grown {w w' : World} {b : Nat} {cs : Array Value} {t : TypeId} {row : Option Nat} (h : Blk w b cs t) (hg : w.grownBy w' row) (hne : row ≠ some b) : Blk w' b cs t := (hg.block b h.lt (fun e => hne e.symm)).trans h
theorem own_apart {w : World} {b size n : Nat} {e : TypeId} {v : Value} {xs : List Value} (h : w.ownsRow (b + 1) e size v n xs) : v.ownBlock ≠ some b := fun hk => by
  have := own_block h b hk
  omega
theorem own_set {w : World} {base size n : Nat} {e : TypeId} {v : Value} {xs : List Value} (h : w.ownsRow base e size v n xs) {p : Addr} (hp : p.block < base) (u : Value) : (w.setCell p u).ownsRow base e size v n xs := by
  refine ⟨h.1, ?_⟩
  rcases h.2 with h2 | ⟨g, cap, cur, hv, hg0, hg, hr⟩
  · exact .inl h2
  · exact .inr ⟨g, cap, cur, hv, hg0, (Below.heap_setCell w p u g (fun e => by omega)).trans hg, hr⟩

set_option maxRecDepth 100000 in
set_option maxHeartbeats 1600000 in
theorem rinv23_any (a : Option Addr) (l : List Edt) (c : Nat) (w : World) (hr : Edts w (· < w.heap.size) a l) (hl : l.length ≤ 100000) :
    Calls Try.prog 24 #[stpV a l.length c] w (RetStp w (invL l)) := by
  obtain ⟨i0, hi, hz0, hz1, hz2⟩ := info_parts edt_info
  obtain ⟨W1, hW1⟩ : ∃ W1, w.alloc (.cells #[.slice a l.length c] 25) = W1 := ⟨_, rfl⟩
  obtain ⟨W2, hW2⟩ : ∃ W2, W1.alloc (.cells #[.slice none 0 0] 25) = W2 := ⟨_, rfl⟩
  obtain ⟨wX, hwX⟩ : ∃ wX, W2.alloc (.cells #[.slice none 0 0] 25) = wX := ⟨_, rfl⟩
  have hst := Stp.new w a l c hr
  rw [hW1] at hst
  have c2 : Below W1.heap.size W1 W2 := by rw [← hW2]; exact (Below.refl _ _).alloc (Nat.le_refl _) _
  have c3 : Below W2.heap.size W2 wX := by rw [← hwX]; exact (Below.refl _ _).alloc (Nat.le_refl _) _
  have z1 : W1.heap.size = w.heap.size + 1 := by rw [← hW1]; simp
  have z2 : W2.heap.size = w.heap.size + 2 := by rw [← hW2]; simp [z1]
  have z3 : wX.heap.size = W2.heap.size + 1 := by rw [← hwX]; simp
  have B3 : Blk W2 W1.heap.size #[.slice none 0 0] 25 := by rw [← hW2]; exact Blk.new _ _ _
  have B4 : Blk wX W2.heap.size #[.slice none 0 0] 25 := by rw [← hwX]; exact Blk.new _ _ _
  have hst := hst.on c2
  have x0 := hst.cell
  have x1 := (c3.cell (p := ⟨w.heap.size, 0, none⟩) hst.size).trans x0
  obtain ⟨n, hn⟩ : ∃ n, l.length = n := ⟨_, rfl⟩
  rw [hn] at hl hW1 x0 x1 ⊢
  have HST := Lib.hid hst; have HN := Lib.hid hn; have HB0 := Lib.hid c3; have HK0 := Lib.hid B4; have HBR := Lib.hid B3; have HZ3 := Lib.hid z3
  have HW1 := Lib.hid (show W1.heap.size < W2.heap.size by omega); have HWW := Lib.hid (show w.heap.size ≤ W1.heap.size by omega)
  clear hst c2 c3 z1 z2 z3 B3 B4 hr hn
  go_enter Try.func24, Try.ntmps24
  go_wp2
  clear hW1 hW2 hwX x1
  go_loopw [4] (fun i wr => ∃ (k : Nat) (v : Value), k ≤ n ∧ i = .int .i64 ((n : Int) - 1 - (k : Int)) ∧ Blk wr W2.heap.size #[v] 25 ∧ wr.ownsRow (W2.heap.size + 1) 38 3 v k (Edt.flat ((invL l).take k)) ∧ Below W2.heap.size W2 wr) (fun i _ => (intOf i + 1).toNat)
  case atStart => exact ⟨0, _, Nat.zero_le _, ret_i64 (by omega), HK0.out, World.ownsRow_nil _ _ _ _, HB0.out⟩
  case round =>
    obtain ⟨k, v, hk, rfl, hblk, hown, hbel⟩ := hrel
    by_cases hlt : k < n
    · have hkl : k < l.length := by rw [HN.out]; exact hlt
      obtain ⟨j, hj⟩ : ∃ j, n - 1 - k = j := ⟨_, rfl⟩
      have hjl : j < l.length := by rw [HN.out]; omega
      have hs := invL_take l k hkl
      rw [HN.out, hj] at hs
      obtain ⟨ad, rfl, hab, q0, q1, q2⟩ := HST.out.row.at j hjl
      obtain ⟨x, hx⟩ : ∃ x, l[j]! = x := ⟨_, rfl⟩
      rw [hx] at q0 q1 q2 hs
      obtain ⟨p, o, m⟩ := x
      simp only [Edt.back] at q0 q1 q2 hs
      have ci := rinverse_any p o m
      have hab2 : (ad.add (j * 3)).block < W2.heap.size := by rw [show (ad.add (j * 3)).block = ad.block by unfold Addr.add; split <;> rfl]; exact hab
      have fs : ∀ w', Below W2.heap.size W2 w' → Below W2.heap.size W2 w' ∧ w'.cell? ⟨w.heap.size, 0, none⟩ = some (.slice (some ad) n c) ∧ w'.cell? (ad.add (j * 3)) = some (.int .i64 p) ∧ w'.cell? ⟨(ad.add (j * 3)).block, (ad.add (j * 3)).off + 1, none⟩ = some (.string o) ∧ w'.cell? ⟨(ad.add (j * 3)).block, (ad.add (j * 3)).off + 2, none⟩ = some (.string m) := fun w' h =>
        ⟨h, (h.cell (p := ⟨w.heap.size, 0, none⟩) HST.out.size).trans x0, (h.cell hab2).trans q0, (h.cell (p := ⟨(ad.add (j * 3)).block, (ad.add (j * 3)).off + 1, none⟩) hab2).trans q1, (h.cell (p := ⟨(ad.add (j * 3)).block, (ad.add (j * 3)).off + 2, none⟩) hab2).trans q2⟩
      obtain ⟨q, hq⟩ : ∃ q, (invL l).take k = q := ⟨_, rfl⟩
      rw [hq] at hs hown
      have HS := Lib.hid hs; have CI := Lib.hid ci; have FS := Lib.hid fs
      have HK := Lib.hid (show Blk wr.drew W2.heap.size #[v] 25 from hblk); have HO := Lib.hid hown.drew
      have y0 := HK.out.cell 0 _ rfl
      have hjk : (n : Int) - 1 - (k : Int) = (j : Int) := by omega
      have b0 : (0 : Int) ≤ (j : Int) := by omega
      have b1 : (j : Int) < (n : Int) := by omega
      rw [hjk]
      have HJK := Lib.hid hjk
      clear hs ci fs hx hab hab2 hj hown hblk hq q0 q1 q2 hjk
      go_wp2_with fail
      refine wp_region_held_drew (S := (fun w' : World => Below W2.heap.size W2 w' ∧ w'.cell? ⟨w.heap.size, 0, none⟩ = some (.slice (some ad) n c) ∧ w'.cell? (ad.add (j * 3)) = some (.int .i64 p) ∧ w'.cell? ⟨(ad.add (j * 3)).block, (ad.add (j * 3)).off + 1, none⟩ = some (.string o) ∧ w'.cell? ⟨(ad.add (j * 3)).block, (ad.add (j * 3)).off + 2, none⟩ = some (.string m))) (by kernel_rfl) (FS.out _ hbel.drew) (fun hHeld => ?_)
      refine wpAnyH_take (i := 0) (v := ?_) (by simp only [List.getElem?_toArray, List.getElem?_cons_succ, List.getElem?_cons_zero]; rfl) (by kernel_rfl) (by kernel_rfl) (by kernel_rfl) (fun _ _ _ h => by exact h) (Or.inl ⟨by rfl, ?_⟩) (by assumption) ?_
      rotate_left
      · (intro w hSw; (try dsimp only at hSw); go_simp; try with_reducible rfl)
      try simp only [Act.put, List.setIfInBounds_toArray, List.set_cons_zero, List.set_cons_succ]
      refine wpAnyH_take (i := 2) (v := ?_) (by simp only [List.getElem?_toArray, List.getElem?_cons_succ, List.getElem?_cons_zero]; rfl) (by kernel_rfl) (by kernel_rfl) (by kernel_rfl) (fun _ _ _ h => by exact h) (Or.inl ⟨by rfl, ?_⟩) (by assumption) ?_
      rotate_left
      · (intro w hSw; (try dsimp only at hSw); go_simp; try with_reducible rfl)
      try simp only [Act.put, List.setIfInBounds_toArray, List.set_cons_zero, List.set_cons_succ]
      refine wpAnyH_take (i := 3) (v := ?_) (by simp only [List.getElem?_toArray, List.getElem?_cons_succ, List.getElem?_cons_zero]; rfl) (by kernel_rfl) (by kernel_rfl) (by kernel_rfl) (fun _ _ _ h => by exact h) (Or.inl ⟨by rfl, ?_⟩) (by assumption) ?_
      rotate_left
      · (intro w hSw; (try dsimp only at hSw); go_simp; try with_reducible rfl)
      try simp only [Act.put, List.setIfInBounds_toArray, List.set_cons_zero, List.set_cons_succ]
      refine wpAnyH_take (i := 4) (v := ?_) (by simp only [List.getElem?_toArray, List.getElem?_cons_succ, List.getElem?_cons_zero]; rfl) (by kernel_rfl) (by kernel_rfl) (by kernel_rfl) (fun _ _ _ h => by exact h) (Or.inl ⟨by rfl, ?_⟩) (by assumption) ?_
      rotate_left
      · (intro w hSw; (try dsimp only at hSw); go_simp; try with_reducible rfl)
      try simp only [Act.put, List.setIfInBounds_toArray, List.set_cons_zero, List.set_cons_succ]
      refine wpAnyH_take (i := 5) (v := ?_) (by simp only [List.getElem?_toArray, List.getElem?_cons_succ, List.getElem?_cons_zero]; rfl) (by kernel_rfl) (by kernel_rfl) (by kernel_rfl) (fun _ _ _ h => by exact h) (Or.inl ⟨by rfl, ?_⟩) (by assumption) ?_
      rotate_left
      · (intro w hSw; (try dsimp only at hSw); go_simp; try with_reducible rfl)
      try simp only [Act.put, List.setIfInBounds_toArray, List.set_cons_zero, List.set_cons_succ]
      refine wpAnyH_take (i := 6) (v := ?_) (by simp only [List.getElem?_toArray, List.getElem?_cons_succ, List.getElem?_cons_zero]; rfl) (by kernel_rfl) (by kernel_rfl) (by kernel_rfl) (fun _ _ _ h => by exact h) (Or.inl ⟨by rfl, ?_⟩) (by assumption) ?_
      rotate_left
      · (intro w hSw; (try dsimp only at hSw); go_simp; try with_reducible rfl)
      try simp only [Act.put, List.setIfInBounds_toArray, List.set_cons_zero, List.set_cons_succ]
      refine wpAnyH_ready (rs := [1, 7]) (by kernel_rfl) (by simp) ?_
      refine AllReadyH.cons (by simp only [List.getElem?_toArray, List.getElem?_cons_succ, List.getElem?_cons_zero]; rfl) (fun K hK => ?_) (AllReadyH.cons (by simp only [List.getElem?_toArray, List.getElem?_cons_succ, List.getElem?_cons_zero]; rfl) (fun K hK => ?_) AllReadyH.nil)
      · go_simp
        skip
        try go_wp2_with fail
        refine hK.out _ _ ?_ (fun hHeld => ?_)
        · exact hHeld
        clear hK K
        try simp only [Act.put, List.setIfInBounds_toArray, List.set_cons_zero, List.set_cons_succ]
        refine wpAnyH_ready (rs := [7]) (by kernel_rfl) (by simp) ?_
        refine AllReadyH.cons (by simp only [List.getElem?_toArray, List.getElem?_cons_succ, List.getElem?_cons_zero]; rfl) (fun K hK => ?_) AllReadyH.nil
        go_simp
        (go_at_call 33; refine (CI.out _).mono ?_; rintro e w3 ⟨rfl, hb3⟩; have HB3 := Lib.hid (hbel.drew.trans (hb3.mono (Below.size hbel.drew))); have HK3 := Lib.hid (HK.out.onto hb3); have HO3 := Lib.hid (own_on HO.out hb3); have y3 := HK3.out.cell 0 _ rfl; clear hb3)
        try go_wp2_with fail
        refine hK.out _ _ ?_ (fun hHeld => ?_)
        · exact FS.out _ HB3.out
        clear hK K
        try simp only [Act.put, List.setIfInBounds_toArray, List.set_cons_zero, List.set_cons_succ]
        refine wpAnyH_ready (rs := [8]) (by kernel_rfl) (by simp) ?_
        refine AllReadyH.cons (by simp only [List.getElem?_toArray, List.getElem?_cons_succ, List.getElem?_cons_zero]; rfl) (fun K hK => ?_) AllReadyH.nil
        go_simp
        have HB4 := Lib.hid (HB3.out.alloc HB3.out.size (.cells #[.int .i64 p, .string m, .string o] 38)); have HSZ := Lib.hid (show W2.heap.size + 1 ≤ (w3.alloc (.cells #[.int .i64 p, .string m, .string o] 38)).heap.size from Nat.le_trans (Nat.succ_le_of_lt HK3.out.lt) (by simp))
        try go_wp2_with fail
        refine hK.out _ _ ?_ (fun hHeld => ?_)
        · exact FS.out _ HB4.out
        clear hK K
        try simp only [Act.put, List.setIfInBounds_toArray, List.set_cons_zero, List.set_cons_succ]
        refine wpAnyH_ready (rs := [9]) (by kernel_rfl) (by simp) ?_
        refine AllReadyH.cons (by simp only [List.getElem?_toArray, List.getElem?_cons_succ, List.getElem?_cons_zero]; rfl) (fun K hK => ?_) AllReadyH.nil
        refine step_append_lies _ rfl (.tmp 14) (.tmp 21) 23 rfl (W2.heap.size + 1) 38 i0 _ 3 40 Try.underlying23 hi hz0 hz1 hz2 rfl (by decide) v k (Edt.flat q) rfl (HO3.out.alloc _) ⟨w3.heap.size, 0, none⟩ 1 1 [.int .i64 p, .string m, .string o] rfl rfl (news_edt w3 _ _ _ _) (one_edt _ _ _) (by omega) (by unfold maxLen; omega) (by omega) HSZ.out _ rfl ?_
        intro g5 cap w6 hown' hgrow _ _
        have HB6 := Lib.hid (HB4.out.grown hgrow HB4.out.size (fun b hb => Nat.le_of_succ_le (own_block HO3.out b hb))); have HK6 := Lib.hid (blk_grown ((HK3.out.alloc _)) hgrow (own_apart HO3.out)); have HO6 := Lib.hid hown'; have y6 := HK6.out.cell 0 _ rfl; have y7 := HK6.out.free 0; clear hown' hgrow
        refine hK.out _ _ ?_ (fun hHeld => ?_)
        · exact FS.out _ HB6.out
        clear hK K
        try simp only [Act.put, List.setIfInBounds_toArray, List.set_cons_zero, List.set_cons_succ]
        refine wpAnyH_take (i := 10) (v := ?_) (by simp only [List.getElem?_toArray, List.getElem?_cons_succ, List.getElem?_cons_zero]; rfl) (by kernel_rfl) (by kernel_rfl) (by kernel_rfl) (fun _ _ _ h => by exact h) (Or.inl ⟨by rfl, ?_⟩) (by assumption) ?_
        rotate_left
        · (intro w hSw; (try dsimp only at hSw); go_simp; try with_reducible rfl)
        try simp only [Act.put, List.setIfInBounds_toArray, List.set_cons_zero, List.set_cons_succ]
        refine wpAnyH_ready (rs := [11]) (by kernel_rfl) (by simp) ?_
        refine AllReadyH.cons (by simp only [List.getElem?_toArray, List.getElem?_cons_succ, List.getElem?_cons_zero]; rfl) (fun K hK => ?_) AllReadyH.nil
        go_simp
        have HB7 := Lib.hid (HB6.out.setCell (p := ⟨W2.heap.size, 0, none⟩) (Nat.le_refl _) (.slice (some ⟨g5, 0, none⟩) (k + 1) cap)); have HK7 := Lib.hid (HK6.out.set 0 (.slice (some ⟨g5, 0, none⟩) (k + 1) cap)); have HO7 := Lib.hid (own_set HO6.out (p := ⟨W2.heap.size, 0, none⟩) (Nat.lt_succ_self _) (.slice (some ⟨g5, 0, none⟩) (k + 1) cap))
        try go_wp2_with fail
        refine hK.out _ _ ?_ (fun hHeld => ?_)
        · exact FS.out _ HB7.out
        clear hK K
        try simp only [Act.put, List.setIfInBounds_toArray, List.set_cons_zero, List.set_cons_succ]
        refine wpAnyH_done (by kernel_rfl) ?_ _
        go_wp2_with fail
        go_roundw
        case rel => exact ⟨k + 1, _, by omega, ret_i64 (by have := HJK.out; omega), HK7.out, by rw [HS.out, Edt.flat_app]; exact HO7.out, HB7.out⟩
        case measure => simp [intOf]
      · go_simp
        (go_at_call 33; refine (CI.out _).mono ?_; rintro e w3 ⟨rfl, hb3⟩; have HB3 := Lib.hid (hbel.drew.trans (hb3.mono (Below.size hbel.drew))); have HK3 := Lib.hid (HK.out.onto hb3); have HO3 := Lib.hid (own_on HO.out hb3); have y3 := HK3.out.cell 0 _ rfl; clear hb3)
        try go_wp2_with fail
        refine hK.out _ _ ?_ (fun hHeld => ?_)
        · exact FS.out _ HB3.out
        clear hK K
        try simp only [Act.put, List.setIfInBounds_toArray, List.set_cons_zero, List.set_cons_succ]
        refine wpAnyH_ready (rs := [1, 8]) (by kernel_rfl) (by simp) ?_
        refine AllReadyH.cons (by simp only [List.getElem?_toArray, List.getElem?_cons_succ, List.getElem?_cons_zero]; rfl) (fun K hK => ?_) (AllReadyH.cons (by simp only [List.getElem?_toArray, List.getElem?_cons_succ, List.getElem?_cons_zero]; rfl) (fun K hK => ?_) AllReadyH.nil)
        · go_simp
          skip
          try go_wp2_with fail
          refine hK.out _ _ ?_ (fun hHeld => ?_)
          · exact hHeld
          clear hK K
          try simp only [Act.put, List.setIfInBounds_toArray, List.set_cons_zero, List.set_cons_succ]
          refine wpAnyH_ready (rs := [8]) (by kernel_rfl) (by simp) ?_
          refine AllReadyH.cons (by simp only [List.getElem?_toArray, List.getElem?_cons_succ, List.getElem?_cons_zero]; rfl) (fun K hK => ?_) AllReadyH.nil
          go_simp
          have HB4 := Lib.hid (HB3.out.alloc HB3.out.size (.cells #[.int .i64 p, .string m, .string o] 38)); have HSZ := Lib.hid (show W2.heap.size + 1 ≤ (w3.alloc (.cells #[.int .i64 p, .string m, .string o] 38)).heap.size from Nat.le_trans (Nat.succ_le_of_lt HK3.out.lt) (by simp))
          try go_wp2_with fail
          refine hK.out _ _ ?_ (fun hHeld => ?_)
          · exact FS.out _ HB4.out
          clear hK K
          try simp only [Act.put, List.setIfInBounds_toArray, List.set_cons_zero, List.set_cons_succ]
          refine wpAnyH_ready (rs := [9]) (by kernel_rfl) (by simp) ?_
          refine AllReadyH.cons (by simp only [List.getElem?_toArray, List.getElem?_cons_succ, List.getElem?_cons_zero]; rfl) (fun K hK => ?_) AllReadyH.nil
          refine step_append_lies _ rfl (.tmp 14) (.tmp 21) 23 rfl (W2.heap.size + 1) 38 i0 _ 3 40 Try.underlying23 hi hz0 hz1 hz2 rfl (by decide) v k (Edt.flat q) rfl (HO3.out.alloc _) ⟨w3.heap.size, 0, none⟩ 1 1 [.int .i64 p, .string m, .string o] rfl rfl (news_edt w3 _ _ _ _) (one_edt _ _ _) (by omega) (by unfold maxLen; omega) (by omega) HSZ.out _ rfl ?_
          intro g5 cap w6 hown' hgrow _ _
          have HB6 := Lib.hid (HB4.out.grown hgrow HB4.out.size (fun b hb => Nat.le_of_succ_le (own_block HO3.out b hb))); have HK6 := Lib.hid (blk_grown ((HK3.out.alloc _)) hgrow (own_apart HO3.out)); have HO6 := Lib.hid hown'; have y6 := HK6.out.cell 0 _ rfl; have y7 := HK6.out.free 0; clear hown' hgrow
          refine hK.out _ _ ?_ (fun hHeld => ?_)
          · exact FS.out _ HB6.out
          clear hK K
          try simp only [Act.put, List.setIfInBounds_toArray, List.set_cons_zero, List.set_cons_succ]
          refine wpAnyH_take (i := 10) (v := ?_) (by simp only [List.getElem?_toArray, List.getElem?_cons_succ, List.getElem?_cons_zero]; rfl) (by kernel_rfl) (by kernel_rfl) (by kernel_rfl) (fun _ _ _ h => by exact h) (Or.inl ⟨by rfl, ?_⟩) (by assumption) ?_
          rotate_left
          · (intro w hSw; (try dsimp only at hSw); go_simp; try with_reducible rfl)
          try simp only [Act.put, List.setIfInBounds_toArray, List.set_cons_zero, List.set_cons_succ]
          refine wpAnyH_ready (rs := [11]) (by kernel_rfl) (by simp) ?_
          refine AllReadyH.cons (by simp only [List.getElem?_toArray, List.getElem?_cons_succ, List.getElem?_cons_zero]; rfl) (fun K hK => ?_) AllReadyH.nil
          go_simp
          have HB7 := Lib.hid (HB6.out.setCell (p := ⟨W2.heap.size, 0, none⟩) (Nat.le_refl _) (.slice (some ⟨g5, 0, none⟩) (k + 1) cap)); have HK7 := Lib.hid (HK6.out.set 0 (.slice (some ⟨g5, 0, none⟩) (k + 1) cap)); have HO7 := Lib.hid (own_set HO6.out (p := ⟨W2.heap.size, 0, none⟩) (Nat.lt_succ_self _) (.slice (some ⟨g5, 0, none⟩) (k + 1) cap))
          try go_wp2_with fail
          refine hK.out _ _ ?_ (fun hHeld => ?_)
          · exact FS.out _ HB7.out
          clear hK K
          try simp only [Act.put, List.setIfInBounds_toArray, List.set_cons_zero, List.set_cons_succ]
          refine wpAnyH_done (by kernel_rfl) ?_ _
          go_wp2_with fail
          go_roundw
          case rel => exact ⟨k + 1, _, by omega, ret_i64 (by have := HJK.out; omega), HK7.out, by rw [HS.out, Edt.flat_app]; exact HO7.out, HB7.out⟩
          case measure => simp [intOf]
        · go_simp
          have HB4 := Lib.hid (HB3.out.alloc HB3.out.size (.cells #[.int .i64 p, .string m, .string o] 38)); have HSZ := Lib.hid (show W2.heap.size + 1 ≤ (w3.alloc (.cells #[.int .i64 p, .string m, .string o] 38)).heap.size from Nat.le_trans (Nat.succ_le_of_lt HK3.out.lt) (by simp)); have y5 := (HK3.out.alloc (.cells #[.int .i64 p, .string m, .string o] 38)).cell 0 _ rfl
          try go_wp2_with fail
          refine hK.out _ _ ?_ (fun hHeld => ?_)
          · exact FS.out _ HB4.out
          clear hK K
          try simp only [Act.put, List.setIfInBounds_toArray, List.set_cons_zero, List.set_cons_succ]
          refine wpAnyH_ready (rs := [1]) (by kernel_rfl) (by simp) ?_
          refine AllReadyH.cons (by simp only [List.getElem?_toArray, List.getElem?_cons_succ, List.getElem?_cons_zero]; rfl) (fun K hK => ?_) AllReadyH.nil
          go_simp
          skip
          try go_wp2_with fail
          refine hK.out _ _ ?_ (fun hHeld => ?_)
          · exact hHeld
          clear hK K
          try simp only [Act.put, List.setIfInBounds_toArray, List.set_cons_zero, List.set_cons_succ]
          refine wpAnyH_ready (rs := [9]) (by kernel_rfl) (by simp) ?_
          refine AllReadyH.cons (by simp only [List.getElem?_toArray, List.getElem?_cons_succ, List.getElem?_cons_zero]; rfl) (fun K hK => ?_) AllReadyH.nil
          refine step_append_lies _ rfl (.tmp 14) (.tmp 21) 23 rfl (W2.heap.size + 1) 38 i0 _ 3 40 Try.underlying23 hi hz0 hz1 hz2 rfl (by decide) v k (Edt.flat q) rfl (HO3.out.alloc _) ⟨w3.heap.size, 0, none⟩ 1 1 [.int .i64 p, .string m, .string o] rfl rfl (news_edt w3 _ _ _ _) (one_edt _ _ _) (by omega) (by unfold maxLen; omega) (by omega) HSZ.out _ rfl ?_
          intro g5 cap w6 hown' hgrow _ _
          have HB6 := Lib.hid (HB4.out.grown hgrow HB4.out.size (fun b hb => Nat.le_of_succ_le (own_block HO3.out b hb))); have HK6 := Lib.hid (blk_grown ((HK3.out.alloc _)) hgrow (own_apart HO3.out)); have HO6 := Lib.hid hown'; have y6 := HK6.out.cell 0 _ rfl; have y7 := HK6.out.free 0; clear hown' hgrow
          refine hK.out _ _ ?_ (fun hHeld => ?_)
          · exact FS.out _ HB6.out
          clear hK K
          try simp only [Act.put, List.setIfInBounds_toArray, List.set_cons_zero, List.set_cons_succ]
          refine wpAnyH_take (i := 10) (v := ?_) (by simp only [List.getElem?_toArray, List.getElem?_cons_succ, List.getElem?_cons_zero]; rfl) (by kernel_rfl) (by kernel_rfl) (by kernel_rfl) (fun _ _ _ h => by exact h) (Or.inl ⟨by rfl, ?_⟩) (by assumption) ?_
          rotate_left
          · (intro w hSw; (try dsimp only at hSw); go_simp; try with_reducible rfl)
          try simp only [Act.put, List.setIfInBounds_toArray, List.set_cons_zero, List.set_cons_succ]
          refine wpAnyH_ready (rs := [11]) (by kernel_rfl) (by simp) ?_
          refine AllReadyH.cons (by simp only [List.getElem?_toArray, List.getElem?_cons_succ, List.getElem?_cons_zero]; rfl) (fun K hK => ?_) AllReadyH.nil
          go_simp
          have HB7 := Lib.hid (HB6.out.setCell (p := ⟨W2.heap.size, 0, none⟩) (Nat.le_refl _) (.slice (some ⟨g5, 0, none⟩) (k + 1) cap)); have HK7 := Lib.hid (HK6.out.set 0 (.slice (some ⟨g5, 0, none⟩) (k + 1) cap)); have HO7 := Lib.hid (own_set HO6.out (p := ⟨W2.heap.size, 0, none⟩) (Nat.lt_succ_self _) (.slice (some ⟨g5, 0, none⟩) (k + 1) cap))
          try go_wp2_with fail
          refine hK.out _ _ ?_ (fun hHeld => ?_)
          · exact FS.out _ HB7.out
          clear hK K
          try simp only [Act.put, List.setIfInBounds_toArray, List.set_cons_zero, List.set_cons_succ]
          refine wpAnyH_done (by kernel_rfl) ?_ _
          go_wp2_with fail
          go_roundw
          case rel => exact ⟨k + 1, _, by omega, ret_i64 (by have := HJK.out; omega), HK7.out, by rw [HS.out, Edt.flat_app]; exact HO7.out, HB7.out⟩
          case measure => simp [intOf]
    · obtain rfl : k = n := by omega
      have hlen : (invL l).length = k := by rw [invL_len, HN.out]
      have e : (invL l).take k = invL l := by rw [← HN.out]; exact invL_all l
      rw [e] at hown
      rw [← hlen] at hown
      obtain ⟨a4, c4, rfl, hrow⟩ := own_erow hown
      rw [hlen] at hblk
      have y0 := hblk.cell 0 _ rfl
      have x4 := HBR.out.below hbel HW1.out |>.cell 0 _ rfl
      have x5 := HBR.out.below hbel HW1.out |>.free 0
      have hm1 : ¬ (0 : Int) ≤ (k : Int) - 1 - (k : Int) := by omega
      have hm2 : (k : Int) - 1 - (k : Int) < 0 := by omega
      have HEND := Lib.hid ((HST.out.below.trans (hbel.mono HST.out.below.size)).setCell (p := ⟨W1.heap.size, 0, none⟩) HWW.out (.slice a4 k c4))
      have HROW := Lib.hid ((hrow.set (p := ⟨W1.heap.size, 0, none⟩) (Nat.lt_succ_of_lt HW1.out) (.slice a4 k c4)).mono (b2 := w.heap.size) (Nat.le_trans HWW.out (Nat.le_of_lt (Nat.lt_succ_of_lt HW1.out))))
      have HLEN := Lib.hid hlen
      clear hrow hown hbel hlen e hblk
      go_wp2
      refine bodyPost_ret (v := stpV a4 k c4) (by simp [results, Try.results24, go_sem, x4]) rfl ?_
      exact ⟨_, c4, by rw [HLEN.out], HROW.out, HEND.out⟩
end Go.Proofs.Ythboipmlkgmofaa
