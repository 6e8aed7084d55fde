/-
  Joined: StepRef2, StaCat, StkCat, StkDev, StkDev2.
-/
import Derived.Test.YtfiobemeogaaiaaGreatSq
import Derived.Test.YtfiobemeogaaiaaGreatStepDev2
import Derived.Deep.AppendLies
import Derived.Deep.RegionHeld3
import Derived.Test.YtfiobemeogaaiaaGreatJStkRow
import Derived.Test.YtfiobemeogaaiaaGreatStateShelf
import Derived.Laws.AppendOwnNone
import Derived.Test.YtfiobemeogaaiaaGreatStackShelf
namespace Go.Proofs.YtfiobemeogaaiaaGreat
open Lib (hid)
open Go.RowKit
set_option linter.unusedVariables false
set_option linter.unusedSimpArgs false
theorem ret_i64 {a b : Int} (h : a = b) : Value.int .i64 a = .int .i64 b := by rw [h]
theorem blk_grown {w w' : World} {b : Nat} {cs : Array Value} {t : TypeId} {row : Option Nat} (h : Blk w b cs t) (hg : w.grownBy w' row) (hne : row ≠ some b) : Blk w' b cs t := (hg.block b h.lt (fun e => hne e.symm)).trans h
theorem own_apart {w : World} {b size n : Nat} {e : TypeId} {v : Value} {xs : List Value} (h : w.ownsRow (b + 1) e size v n xs) : v.ownBlock ≠ some b := fun hk => by
  have := own_block h b hk
  omega
theorem own_set {w : World} {base size n : Nat} {e : TypeId} {v : Value} {xs : List Value} (h : w.ownsRow base e size v n xs) {p : Addr} (hp : p.block < base) (u : Value) : (w.setCell p u).ownsRow base e size v n xs := by
  refine ⟨h.1, ?_⟩
  rcases h.2 with h2 | ⟨g, cap, cur, hv, hg0, hg, hr⟩
  · exact .inl h2
  · exact .inr ⟨g, cap, cur, hv, hg0, (Below.heap_setCell w p u g (fun e => by omega)).trans hg, hr⟩
set_option maxRecDepth 100000 in
set_option maxHeartbeats 1600000 in
theorem rinv23_any (a : Option Addr) (l : List Edt) (c : Nat) (w : World) (hr : Edts w (· < w.heap.size) a l) (hl : l.length ≤ 100000) :
    Calls Tryz.prog 47 #[stpV a l.length c] w (RetStp w (invL l)) := by
  obtain ⟨i0, hi, hz0, hz1, hz2⟩ := info_parts edt_info
  obtain ⟨W1, hW1⟩ : ∃ W1, w.alloc (.cells #[.slice a l.length c] 69) = W1 := ⟨_, rfl⟩
  obtain ⟨W2, hW2⟩ : ∃ W2, W1.alloc (.cells #[.slice none 0 0] 69) = W2 := ⟨_, rfl⟩
  obtain ⟨wX, hwX⟩ : ∃ wX, W2.alloc (.cells #[.slice none 0 0] 69) = wX := ⟨_, rfl⟩
  have hst := Stp.new w a l c hr
  rw [hW1] at hst
  have c2 : Below W1.heap.size W1 W2 := by rw [← hW2]; exact (Below.refl _ _).alloc (Nat.le_refl _) _
  have c3 : Below W2.heap.size W2 wX := by rw [← hwX]; exact (Below.refl _ _).alloc (Nat.le_refl _) _
  have z1 : W1.heap.size = w.heap.size + 1 := by rw [← hW1]; simp
  have z2 : W2.heap.size = w.heap.size + 2 := by rw [← hW2]; simp [z1]
  have z3 : wX.heap.size = W2.heap.size + 1 := by rw [← hwX]; simp
  have B3 : Blk W2 W1.heap.size #[.slice none 0 0] 69 := by rw [← hW2]; exact Blk.new _ _ _
  have B4 : Blk wX W2.heap.size #[.slice none 0 0] 69 := by rw [← hwX]; exact Blk.new _ _ _
  have hst := hst.on c2
  have x0 := hst.cell
  have x1 := (c3.cell (p := ⟨w.heap.size, 0, none⟩) hst.size).trans x0
  obtain ⟨n, hn⟩ : ∃ n, l.length = n := ⟨_, rfl⟩
  rw [hn] at hl hW1 x0 x1 ⊢
  have HST := hid hst; have HN := hid hn; have HB0 := hid c3; have HK0 := hid B4; have HBR := hid B3; have HZ3 := hid z3
  have HW1 := hid (show W1.heap.size < W2.heap.size by omega); have HWW := hid (show w.heap.size ≤ W1.heap.size by omega)
  clear hst c2 c3 z1 z2 z3 B3 B4 hr hn
  go_enter Tryz.func47, Tryz.ntmps47
  go_wp2
  clear hW1 hW2 hwX x1
  go_loopw [4] (fun i wr => ∃ (k : Nat) (v : Value), k ≤ n ∧ i = .int .i64 ((n : Int) - 1 - (k : Int)) ∧ Blk wr W2.heap.size #[v] 69 ∧ wr.ownsRow (W2.heap.size + 1) 87 3 v k (Edt.flat ((invL l).take k)) ∧ Below W2.heap.size W2 wr) (fun i _ => (intOf i + 1).toNat)
  case atStart => exact ⟨0, _, Nat.zero_le _, ret_i64 (by omega), HK0.out, World.ownsRow_nil _ _ _ _, HB0.out⟩
  case round =>
    obtain ⟨k, v, hk, rfl, hblk, hown, hbel⟩ := hrel
    by_cases hlt : k < n
    · have hkl : k < l.length := by rw [HN.out]; exact hlt
      obtain ⟨j, hj⟩ : ∃ j, n - 1 - k = j := ⟨_, rfl⟩
      have hjl : j < l.length := by rw [HN.out]; omega
      have hs := invL_take l k hkl
      rw [HN.out, hj] at hs
      obtain ⟨ad, rfl, hab, q0, q1, q2⟩ := HST.out.row.at j hjl
      obtain ⟨x, hx⟩ : ∃ x, l[j]! = x := ⟨_, rfl⟩
      rw [hx] at q0 q1 q2 hs
      obtain ⟨p, o, m⟩ := x
      simp only [Edt.back] at q0 q1 q2 hs
      have ci := rinverse_any p o m
      have hab2 : (ad.add (j * 3)).block < W2.heap.size := by rw [show (ad.add (j * 3)).block = ad.block by unfold Addr.add; split <;> rfl]; exact hab
      have fs : ∀ w', Below W2.heap.size W2 w' → Below W2.heap.size W2 w' ∧ w'.cell? ⟨w.heap.size, 0, none⟩ = some (.slice (some ad) n c) ∧ w'.cell? (ad.add (j * 3)) = some (.int .i64 p) ∧ w'.cell? ⟨(ad.add (j * 3)).block, (ad.add (j * 3)).off + 1, none⟩ = some (.string o) ∧ w'.cell? ⟨(ad.add (j * 3)).block, (ad.add (j * 3)).off + 2, none⟩ = some (.string m) := fun w' h =>
        ⟨h, (h.cell (p := ⟨w.heap.size, 0, none⟩) HST.out.size).trans x0, (h.cell hab2).trans q0, (h.cell (p := ⟨(ad.add (j * 3)).block, (ad.add (j * 3)).off + 1, none⟩) hab2).trans q1, (h.cell (p := ⟨(ad.add (j * 3)).block, (ad.add (j * 3)).off + 2, none⟩) hab2).trans q2⟩
      obtain ⟨q, hq⟩ : ∃ q, (invL l).take k = q := ⟨_, rfl⟩
      rw [hq] at hs hown
      have HS := hid hs; have CI := hid ci; have FS := hid fs
      have HK := hid (show Blk wr.drew W2.heap.size #[v] 69 from hblk); have HO := hid hown.drew
      have y0 := HK.out.cell 0 _ rfl
      have hjk : (n : Int) - 1 - (k : Int) = (j : Int) := by omega
      have b0 : (0 : Int) ≤ (j : Int) := by omega
      have b1 : (j : Int) < (n : Int) := by omega
      rw [hjk]
      have HJK := hid hjk
      clear hs ci fs hx hab hab2 hj hown hblk hq q0 q1 q2 hjk
      go_wp2_with fail
      refine wp_region_held_drew (S := (fun w' : World => Below W2.heap.size W2 w' ∧ w'.cell? ⟨w.heap.size, 0, none⟩ = some (.slice (some ad) n c) ∧ w'.cell? (ad.add (j * 3)) = some (.int .i64 p) ∧ w'.cell? ⟨(ad.add (j * 3)).block, (ad.add (j * 3)).off + 1, none⟩ = some (.string o) ∧ w'.cell? ⟨(ad.add (j * 3)).block, (ad.add (j * 3)).off + 2, none⟩ = some (.string m))) (by kernel_rfl) (FS.out _ hbel.drew) (fun hHeld => ?_)
      refine sqt 0 ?_
      try simp only [Act.put, sqp]
      refine sqt 2 ?_
      try simp only [Act.put, sqp]
      refine sqt 3 ?_
      try simp only [Act.put, sqp]
      refine sqt 4 ?_
      try simp only [Act.put, sqp]
      refine sqt 5 ?_
      try simp only [Act.put, sqp]
      refine sqt 6 ?_
      try simp only [Act.put, sqp]
      refine wpAnyH_ready (rs := [1, 7]) (by kernel_rfl) (by simp) ?_
      refine AllReadyH.cons (by simp only [sqg]; rfl) (fun K hK => ?_) (AllReadyH.cons (by simp only [sqg]; rfl) (fun K hK => ?_) AllReadyH.nil)
      · go_simp
        skip
        try go_wp2_with fail
        refine hK.out _ _ ?_ (fun hHeld => ?_)
        · exact hHeld
        clear hK K
        try simp only [Act.put, sqp]
        refine wpAnyH_ready (rs := [7]) (by kernel_rfl) (by simp) ?_
        refine AllReadyH.cons (by simp only [sqg]; rfl) (fun K hK => ?_) AllReadyH.nil
        go_simp
        (go_at_call 94; refine (CI.out _).mono ?_; rintro e w3 ⟨rfl, hb3⟩; have HB3 := hid (hbel.drew.trans (hb3.mono (Below.size hbel.drew))); have HK3 := hid (HK.out.onto hb3); have HO3 := hid (own_onto HO.out hb3); have y3 := HK3.out.cell 0 _ rfl; clear hb3)
        try go_wp2_with fail
        refine hK.out _ _ ?_ (fun hHeld => ?_)
        · exact FS.out _ HB3.out
        clear hK K
        try simp only [Act.put, sqp]
        refine wpAnyH_ready (rs := [8]) (by kernel_rfl) (by simp) ?_
        refine AllReadyH.cons (by simp only [sqg]; rfl) (fun K hK => ?_) AllReadyH.nil
        go_simp
        have HB4 := hid (HB3.out.alloc HB3.out.size (.cells #[.int .i64 p, .string m, .string o] 87)); have HSZ := hid (show W2.heap.size + 1 ≤ (w3.alloc (.cells #[.int .i64 p, .string m, .string o] 87)).heap.size from Nat.le_trans (Nat.succ_le_of_lt HK3.out.lt) (by simp))
        try go_wp2_with fail
        refine hK.out _ _ ?_ (fun hHeld => ?_)
        · exact FS.out _ HB4.out
        clear hK K
        try simp only [Act.put, sqp]
        refine wpAnyH_ready (rs := [9]) (by kernel_rfl) (by simp) ?_
        refine AllReadyH.cons (by simp only [sqg]; rfl) (fun K hK => ?_) AllReadyH.nil
        refine step_append_lies _ rfl (.tmp 14) (.tmp 21) 29 rfl (W2.heap.size + 1) 87 i0 _ 3 40 Tryz.underlying29 hi hz0 hz1 hz2 rfl (by decide) v k (Edt.flat q) rfl (HO3.out.alloc _) ⟨w3.heap.size, 0, none⟩ 1 1 [.int .i64 p, .string m, .string o] rfl rfl (news_edt w3 _ _ _ _) (one_edt _ _ _) (by omega) (by unfold maxLen; omega) (by omega) HSZ.out _ rfl ?_
        intro g5 cap w6 hown' hgrow _ _
        have HB6 := hid (HB4.out.grown hgrow HB4.out.size (fun b hb => Nat.le_of_succ_le (own_block HO3.out b hb))); have HK6 := hid (blk_grown ((HK3.out.alloc _)) hgrow (own_apart HO3.out)); have HO6 := hid hown'; have y6 := HK6.out.cell 0 _ rfl; have y7 := HK6.out.free 0; clear hown' hgrow
        refine hK.out _ _ ?_ (fun hHeld => ?_)
        · exact FS.out _ HB6.out
        clear hK K
        try simp only [Act.put, sqp]
        refine sqt 10 ?_
        try simp only [Act.put, sqp]
        refine wpAnyH_ready (rs := [11]) (by kernel_rfl) (by simp) ?_
        refine AllReadyH.cons (by simp only [sqg]; rfl) (fun K hK => ?_) AllReadyH.nil
        go_simp
        have HB7 := hid (HB6.out.setCell (p := ⟨W2.heap.size, 0, none⟩) (Nat.le_refl _) (.slice (some ⟨g5, 0, none⟩) (k + 1) cap)); have HK7 := hid (HK6.out.set 0 (.slice (some ⟨g5, 0, none⟩) (k + 1) cap)); have HO7 := hid (own_set HO6.out (p := ⟨W2.heap.size, 0, none⟩) (Nat.lt_succ_self _) (.slice (some ⟨g5, 0, none⟩) (k + 1) cap))
        try go_wp2_with fail
        refine hK.out _ _ ?_ (fun hHeld => ?_)
        · exact FS.out _ HB7.out
        clear hK K
        try simp only [Act.put, sqp]
        refine wpAnyH_done (by kernel_rfl) ?_ _
        go_wp2_with fail
        go_roundw
        case rel => exact ⟨k + 1, _, by omega, ret_i64 (by have := HJK.out; omega), HK7.out, by rw [HS.out, Edt.flat_app]; exact HO7.out, HB7.out⟩
        case measure => simp [intOf]
      · go_simp
        (go_at_call 94; refine (CI.out _).mono ?_; rintro e w3 ⟨rfl, hb3⟩; have HB3 := hid (hbel.drew.trans (hb3.mono (Below.size hbel.drew))); have HK3 := hid (HK.out.onto hb3); have HO3 := hid (own_onto HO.out hb3); have y3 := HK3.out.cell 0 _ rfl; clear hb3)
        try go_wp2_with fail
        refine hK.out _ _ ?_ (fun hHeld => ?_)
        · exact FS.out _ HB3.out
        clear hK K
        try simp only [Act.put, sqp]
        refine wpAnyH_ready (rs := [1, 8]) (by kernel_rfl) (by simp) ?_
        refine AllReadyH.cons (by simp only [sqg]; rfl) (fun K hK => ?_) (AllReadyH.cons (by simp only [sqg]; rfl) (fun K hK => ?_) AllReadyH.nil)
        · go_simp
          skip
          try go_wp2_with fail
          refine hK.out _ _ ?_ (fun hHeld => ?_)
          · exact hHeld
          clear hK K
          try simp only [Act.put, sqp]
          refine wpAnyH_ready (rs := [8]) (by kernel_rfl) (by simp) ?_
          refine AllReadyH.cons (by simp only [sqg]; rfl) (fun K hK => ?_) AllReadyH.nil
          go_simp
          have HB4 := hid (HB3.out.alloc HB3.out.size (.cells #[.int .i64 p, .string m, .string o] 87)); have HSZ := hid (show W2.heap.size + 1 ≤ (w3.alloc (.cells #[.int .i64 p, .string m, .string o] 87)).heap.size from Nat.le_trans (Nat.succ_le_of_lt HK3.out.lt) (by simp))
          try go_wp2_with fail
          refine hK.out _ _ ?_ (fun hHeld => ?_)
          · exact FS.out _ HB4.out
          clear hK K
          try simp only [Act.put, sqp]
          refine wpAnyH_ready (rs := [9]) (by kernel_rfl) (by simp) ?_
          refine AllReadyH.cons (by simp only [sqg]; rfl) (fun K hK => ?_) AllReadyH.nil
          refine step_append_lies _ rfl (.tmp 14) (.tmp 21) 29 rfl (W2.heap.size + 1) 87 i0 _ 3 40 Tryz.underlying29 hi hz0 hz1 hz2 rfl (by decide) v k (Edt.flat q) rfl (HO3.out.alloc _) ⟨w3.heap.size, 0, none⟩ 1 1 [.int .i64 p, .string m, .string o] rfl rfl (news_edt w3 _ _ _ _) (one_edt _ _ _) (by omega) (by unfold maxLen; omega) (by omega) HSZ.out _ rfl ?_
          intro g5 cap w6 hown' hgrow _ _
          have HB6 := hid (HB4.out.grown hgrow HB4.out.size (fun b hb => Nat.le_of_succ_le (own_block HO3.out b hb))); have HK6 := hid (blk_grown ((HK3.out.alloc _)) hgrow (own_apart HO3.out)); have HO6 := hid hown'; have y6 := HK6.out.cell 0 _ rfl; have y7 := HK6.out.free 0; clear hown' hgrow
          refine hK.out _ _ ?_ (fun hHeld => ?_)
          · exact FS.out _ HB6.out
          clear hK K
          try simp only [Act.put, sqp]
          refine sqt 10 ?_
          try simp only [Act.put, sqp]
          refine wpAnyH_ready (rs := [11]) (by kernel_rfl) (by simp) ?_
          refine AllReadyH.cons (by simp only [sqg]; rfl) (fun K hK => ?_) AllReadyH.nil
          go_simp
          have HB7 := hid (HB6.out.setCell (p := ⟨W2.heap.size, 0, none⟩) (Nat.le_refl _) (.slice (some ⟨g5, 0, none⟩) (k + 1) cap)); have HK7 := hid (HK6.out.set 0 (.slice (some ⟨g5, 0, none⟩) (k + 1) cap)); have HO7 := hid (own_set HO6.out (p := ⟨W2.heap.size, 0, none⟩) (Nat.lt_succ_self _) (.slice (some ⟨g5, 0, none⟩) (k + 1) cap))
          try go_wp2_with fail
          refine hK.out _ _ ?_ (fun hHeld => ?_)
          · exact FS.out _ HB7.out
          clear hK K
          try simp only [Act.put, sqp]
          refine wpAnyH_done (by kernel_rfl) ?_ _
          go_wp2_with fail
          go_roundw
          case rel => exact ⟨k + 1, _, by omega, ret_i64 (by have := HJK.out; omega), HK7.out, by rw [HS.out, Edt.flat_app]; exact HO7.out, HB7.out⟩
          case measure => simp [intOf]
        · go_simp
          have HB4 := hid (HB3.out.alloc HB3.out.size (.cells #[.int .i64 p, .string m, .string o] 87)); have HSZ := hid (show W2.heap.size + 1 ≤ (w3.alloc (.cells #[.int .i64 p, .string m, .string o] 87)).heap.size from Nat.le_trans (Nat.succ_le_of_lt HK3.out.lt) (by simp)); have y5 := (HK3.out.alloc (.cells #[.int .i64 p, .string m, .string o] 87)).cell 0 _ rfl
          try go_wp2_with fail
          refine hK.out _ _ ?_ (fun hHeld => ?_)
          · exact FS.out _ HB4.out
          clear hK K
          try simp only [Act.put, sqp]
          refine wpAnyH_ready (rs := [1]) (by kernel_rfl) (by simp) ?_
          refine AllReadyH.cons (by simp only [sqg]; rfl) (fun K hK => ?_) AllReadyH.nil
          go_simp
          skip
          try go_wp2_with fail
          refine hK.out _ _ ?_ (fun hHeld => ?_)
          · exact hHeld
          clear hK K
          try simp only [Act.put, sqp]
          refine wpAnyH_ready (rs := [9]) (by kernel_rfl) (by simp) ?_
          refine AllReadyH.cons (by simp only [sqg]; rfl) (fun K hK => ?_) AllReadyH.nil
          refine step_append_lies _ rfl (.tmp 14) (.tmp 21) 29 rfl (W2.heap.size + 1) 87 i0 _ 3 40 Tryz.underlying29 hi hz0 hz1 hz2 rfl (by decide) v k (Edt.flat q) rfl (HO3.out.alloc _) ⟨w3.heap.size, 0, none⟩ 1 1 [.int .i64 p, .string m, .string o] rfl rfl (news_edt w3 _ _ _ _) (one_edt _ _ _) (by omega) (by unfold maxLen; omega) (by omega) HSZ.out _ rfl ?_
          intro g5 cap w6 hown' hgrow _ _
          have HB6 := hid (HB4.out.grown hgrow HB4.out.size (fun b hb => Nat.le_of_succ_le (own_block HO3.out b hb))); have HK6 := hid (blk_grown ((HK3.out.alloc _)) hgrow (own_apart HO3.out)); have HO6 := hid hown'; have y6 := HK6.out.cell 0 _ rfl; have y7 := HK6.out.free 0; clear hown' hgrow
          refine hK.out _ _ ?_ (fun hHeld => ?_)
          · exact FS.out _ HB6.out
          clear hK K
          try simp only [Act.put, sqp]
          refine sqt 10 ?_
          try simp only [Act.put, sqp]
          refine wpAnyH_ready (rs := [11]) (by kernel_rfl) (by simp) ?_
          refine AllReadyH.cons (by simp only [sqg]; rfl) (fun K hK => ?_) AllReadyH.nil
          go_simp
          have HB7 := hid (HB6.out.setCell (p := ⟨W2.heap.size, 0, none⟩) (Nat.le_refl _) (.slice (some ⟨g5, 0, none⟩) (k + 1) cap)); have HK7 := hid (HK6.out.set 0 (.slice (some ⟨g5, 0, none⟩) (k + 1) cap)); have HO7 := hid (own_set HO6.out (p := ⟨W2.heap.size, 0, none⟩) (Nat.lt_succ_self _) (.slice (some ⟨g5, 0, none⟩) (k + 1) cap))
          try go_wp2_with fail
          refine hK.out _ _ ?_ (fun hHeld => ?_)
          · exact FS.out _ HB7.out
          clear hK K
          try simp only [Act.put, sqp]
          refine wpAnyH_done (by kernel_rfl) ?_ _
          go_wp2_with fail
          go_roundw
          case rel => exact ⟨k + 1, _, by omega, ret_i64 (by have := HJK.out; omega), HK7.out, by rw [HS.out, Edt.flat_app]; exact HO7.out, HB7.out⟩
          case measure => simp [intOf]
    · obtain rfl : k = n := by omega
      have hlen : (invL l).length = k := by rw [invL_len, HN.out]
      have e : (invL l).take k = invL l := by rw [← HN.out]; exact invL_all l
      rw [e] at hown
      rw [← hlen] at hown
      obtain ⟨a4, c4, rfl, hrow⟩ := own_erow hown
      rw [hlen] at hblk
      have y0 := hblk.cell 0 _ rfl
      have x4 := HBR.out.below hbel HW1.out |>.cell 0 _ rfl
      have x5 := HBR.out.below hbel HW1.out |>.free 0
      have hm1 : ¬ (0 : Int) ≤ (k : Int) - 1 - (k : Int) := by omega
      have hm2 : (k : Int) - 1 - (k : Int) < 0 := by omega
      have HEND := hid ((HST.out.below.trans (hbel.mono HST.out.below.size)).setCell (p := ⟨W1.heap.size, 0, none⟩) HWW.out (.slice a4 k c4))
      have HROW := hid ((hrow.set (p := ⟨W1.heap.size, 0, none⟩) (Nat.lt_succ_of_lt HW1.out) (.slice a4 k c4)).mono (b2 := w.heap.size) (Nat.le_trans HWW.out (Nat.le_of_lt (Nat.lt_succ_of_lt HW1.out))))
      have HLEN := hid hlen
      clear hrow hown hbel hlen e hblk
      go_wp2
      refine bodyPost_ret (v := stpV a4 k c4) (by simp [results, Tryz.results47, go_sem, x4]) rfl ?_
      exact ⟨_, c4, by rw [HLEN.out], HROW.out, HEND.out⟩
end Go.Proofs.YtfiobemeogaaiaaGreat
namespace Go.Proofs.YtfiobemeogaaiaaGreat
open Lib (hid)
open Go.Shelf Go.RowKit
set_option linter.unusedVariables false
set_option maxHeartbeats 800000 in
theorem tgrow_any (n : Nat) (hn : n ≤ 1000000) (w : World) : Calls Tryz.prog 168 #[.slice none 0 0, .int .i64 n] w fun e w' => ∃ v, e = .returned v ∧ w'.ownsRow w.heap.size 69 1 v 0 [] ∧ Below w.heap.size w w' := by
  obtain ⟨i0, hi, hz0, hz1, hz2⟩ := info_parts step_info
  rcases Nat.eq_zero_or_pos n with rfl | hp
  · have h := Any8.slices_Grow_room Tryz.mkGrowT none 0 0 0 w (Nat.le_refl _) (by omega) (by omega) (by omega)
    change Calls Tryz.prog 168 _ _ _ at h
    refine h.mono ?_
    rintro e w' ⟨rfl, rfl⟩
    exact ⟨_, rfl, World.ownsRow_nil _ _ _ _, Below.refl _ _⟩
  · have h := Any8.slices_Grow_grow Tryz.mkGrowT i0 _ hi hz0 (by rw [hz1]; decide) none 0 0 n [] w (Nat.le_refl _) (by omega) (by rw [hz2]; omega) (by omega) (by simp) (fun _ => rfl) (fun a e => by cases e)
    change Calls Tryz.prog 168 _ _ _ at h
    refine h.mono ?_
    rintro e w' ⟨rfl, rfl⟩
    have hge := grownCap_ge w (0 + n) 0 (Tryz.mkGrowT_ren.t 25)
    have hle := grownCap_le_maxLen w (0 + n) 0 (Tryz.mkGrowT_ren.t 25) (by unfold maxLen; omega)
    refine ⟨_, rfl, World.ownsRow_made w.drew _ _ (Nat.le_refl _) hle ?_, ((Below.refl w.heap.size w).drew).alloc (Nat.le_refl _) _⟩
    simp only [Nat.zero_add] at hge ⊢
    simp [Builtin.zeroCells, Value.cells]
    omega
set_option maxRecDepth 100000 in
set_option maxHeartbeats 1600000 in
theorem tconcat_any (r : Nat) (ps : List SPc) (w : World) (hr : r < w.heap.size) (hps : ∀ k, k < ps.length → w.cell? ⟨r, k, none⟩ = some (ps[k]!).v) (hp : ∀ k, k < ps.length → SPcs w ps[k]!) (hl : ps.length ≤ 1000) (hs : ssumP ps ≤ 100000) :
    Calls Tryz.prog 147 #[.slice (some ⟨r, 0, none⟩) ps.length ps.length] w (RetSRow w (scatP ps)) := by
  obtain ⟨i0, hi, hz0, hz1, hz2⟩ := info_parts step_info
  obtain ⟨m, hm⟩ : ∃ m, ps.length = m := ⟨_, rfl⟩
  rw [hm] at hl ⊢
  have HM := hid hm; have HPS := hid hps; have HP := hid hp; have HS := hid hs; have HR := hid hr
  clear hm hps hp hs hr
  go_enter Tryz.func147, Tryz.ntmps147
  go_wp2
  go_loop [3, 11] (fun z i => ∃ k : Nat, k ≤ m ∧ i = .int .i64 k ∧ z = .int .i64 (ssumP (ps.take k) : Nat)) (fun _ i => m - (intOf i).toNat)
  case atStart => exact ⟨0, Nat.zero_le _, rfl, rfl⟩
  case round =>
    obtain ⟨k, hk, rfl, rfl⟩ := hrel
    have hb := Nat.le_trans (ssumP_le ps k) HS.out
    by_cases hlt : k < m
    · have hkl : k < ps.length := by rw [HM.out]; exact hlt
      have q0 := HPS.out k hkl
      have h2 := ssumP_more ps k hkl
      have hb2 := Nat.le_trans (ssumP_le ps (k + 1)) HS.out
      obtain ⟨x, hx⟩ : ∃ x, ps[k]! = x := ⟨_, rfl⟩
      rw [hx] at q0 h2
      obtain ⟨xa, xl, xc⟩ := x
      simp only [SPc.v] at q0 h2
      obtain ⟨n, hn⟩ : ∃ n, xl.length = n := ⟨_, rfl⟩
      rw [hn] at q0 h2
      obtain ⟨s, hs⟩ : ∃ s, ssumP (ps.take k) = s := ⟨_, rfl⟩
      rw [hs] at h2 hb ⊢
      have HX := hid h2
      have hb3 : s + n ≤ 100000 := by omega
      have b0 : (0 : Int) ≤ (k : Int) := by omega
      have b1 : (k : Int) < (m : Int) := by omega
      have b2 : ¬ (s : Int) + (n : Int) < 0 := by omega
      clear hx hn hs h2 hb2
      go_wp2
      go_round
      case rel => exact ⟨k + 1, by omega, by go_num, by rw [HX.out]; go_num⟩
      case measure => simp [intOf]; omega
    · obtain rfl : k = m := by omega
      have hz : ssumP (ps.take k) = ssumP ps := by rw [List.take_of_length_le (by rw [HM.out]; exact Nat.le_refl _)]
      rw [hz] at hb ⊢
      obtain ⟨s, hs⟩ : ∃ s, ssumP ps = s := ⟨_, rfl⟩
      rw [hs] at hb ⊢
      have cg := tgrow_any s (by omega) w
      have CG := hid cg; have HSS := hid hs
      clear hz hs cg
      go_wp2_with fail
      refine CG.out.mono ?_
      rintro e w1 ⟨v, rfl, hown0, hb1⟩
      have HB1 := hid hb1; have HO := hid hown0
      clear hb1 hown0
      go_wp2
      go_loopw [6, 27] (fun v i wr => ∃ j : Nat, j ≤ k ∧ i = .int .i64 j ∧ wr.ownsRow w.heap.size 69 1 v (scatP (ps.take j)).length (sflat (scatP (ps.take j))) ∧ Below w.heap.size w wr) (fun _ i _ => k - (intOf i).toNat)
      case atStart => exact ⟨0, Nat.zero_le _, rfl, HO.out, HB1.out⟩
      case round =>
        obtain ⟨j, hj, rfl, hown, hbel⟩ := hrel
        have hlen := scatP_len (ps.take j)
        have hle := Nat.le_trans (ssumP_le ps j) HS.out
        by_cases hlt : j < k
        · have hjl : j < ps.length := by rw [HM.out]; exact hlt
          have q0 := (hbel.cell (p := ⟨r, j, none⟩) HR.out).trans (HPS.out j hjl)
          have hp := HP.out j hjl
          have h2 := scatP_more ps j hjl
          have h3 := ssumP_more ps j hjl
          have hle2 := Nat.le_trans (ssumP_le ps (j + 1)) HS.out
          obtain ⟨x, hx⟩ : ∃ x, ps[j]! = x := ⟨_, rfl⟩
          rw [hx] at q0 hp h2 h3
          obtain ⟨o, ho⟩ : ∃ o, scatP (ps.take j) = o := ⟨_, rfl⟩
          rw [ho] at hown hlen h2
          have hol : o.length ≤ 100000 := by omega
          have hxl : o.length + x.l.length ≤ 100000 := by omega
          have H2 := hid h2
          have b0 : (0 : Int) ≤ (j : Int) := by omega
          have b1 : (j : Int) < (k : Int) := by omega
          clear hx ho h2 h3 hlen hle hle2
          obtain ⟨xa, xl, xc⟩ := x
          cases xa with
          | none =>
            have e0 : xl = [] := hp.len rfl
            have e1 : xc = 0 := hp.nil rfl
            subst e0
            subst e1
            simp only [SPc.v, List.length_nil] at q0
            clear hp hxl
            go_wp2_with (at_builtin; refine wpList_append_own_none rfl _ _ 28 rfl w.heap.size 69 i0 1 Tryz.underlying28 hi _ _ _ rfl hown rfl ?_)
            go_roundw
            case rel => exact ⟨j + 1, by omega, by go_num, by rw [H2.out, List.append_nil]; exact hown, hbel⟩
            case measure => simp [intOf]; omega
          | some ad =>
            have hnews := scs_news (hp.row.below (fun _ h => h) hbel)
            simp only [SPc.v] at q0
            have hfl := sflat_len xl
            have hofl := sone_flat xl
            obtain ⟨n, hn⟩ : ∃ n, xl.length = n := ⟨_, rfl⟩
            simp only [hn] at q0 hxl hfl
            have HNW := hid hnews; have HFL := hid hfl; have HOF := hid hofl; have HNN := hid hn
            clear hp hnews hfl hofl hn
            go_wp2_with (at_builtin; refine wpList_append_own _ rfl _ _ 28 rfl w.heap.size 69 i0 _ 1 24 Tryz.underlying28 hi hz0 hz1 hz2 rfl (by decide) _ _ _ rfl hown ad n xc (sflat xl) rfl HFL.out HNW.out HOF.out (by unfold maxLen; omega) (by omega) hbel.size ?_; intro v1 w1 ho1 hg1 _)
            have hb1 : Below w.heap.size w w1 := hbel.grown hg1 hbel.size (own_block hown)
            have ho2 : w1.ownsRow w.heap.size 69 1 v1 (scatP (ps.take (j + 1))).length (sflat (scatP (ps.take (j + 1)))) := by
              rw [H2.out, sflat_app, List.length_append, HNN.out]
              exact ho1
            have HO2 := hid ho2; have HB2 := hid hb1
            clear ho1 hg1 hown hbel hb1 ho2 q0
            go_wp2
            go_roundw
            case rel => exact ⟨j + 1, by omega, by go_num, HO2.out, HB2.out⟩
            case measure => simp [intOf]; omega
        · obtain rfl : j = k := by omega
          rw [List.take_of_length_le (by rw [HM.out]; exact Nat.le_refl _)] at hown
          obtain ⟨ad, cp, rfl, hn⟩ := own_srow hown ((scatP_all HP.out).later hbel)
          have HNN := hid hn; clear hn hown
          go_wp2
          go_ret
          exact ⟨ad, cp, rfl, HNN.out, hbel⟩
set_option maxHeartbeats 1000000 in
theorem tclone_some (ad : Addr) (l : List EPc) (c : Nat) (w : World) (hr : Scs w (· < w.heap.size) (some ad) l) (hl : l.length ≤ 1000000) :
    Calls Tryz.prog 111 #[.slice (some ad) l.length c] w fun e w' => ∃ v, e = .returned v ∧ w'.ownsRow w.heap.size 69 1 v l.length (sflat l) ∧ v ≠ .slice none 0 0 ∧ Below w.heap.size w w' := by
  obtain ⟨i0, hi, hz0, hz1, hz2⟩ := info_parts step_info
  have q22 : ∀ (w : World) (a : Option Addr) (n c n' c' : Nat), (binOp .eql 28 (.slice a n c) (.slice none n' c')).run Tryz.prog w = .ok (.bool a.isNone) w := fun w a n c n' c' => Lib.run_eql_slice_nil w _ _ a n c n' c' Tryz.underlying28
  have HNW := hid (scs_news hr); have HFL := hid (sflat_len l); have HOF := hid (sone_flat l)
  obtain ⟨n, hn⟩ : ∃ n, l.length = n := ⟨_, rfl⟩
  rw [hn] at hl HFL ⊢
  obtain ⟨F, hF⟩ : ∃ F, sflat l = F := ⟨_, rfl⟩
  rw [hF] at HNW HFL HOF ⊢
  clear hr hn hF
  go_enter Tryz.func111, Tryz.ntmps111
  go_wp2_with (at_builtin; refine wpList_append_own _ rfl _ _ 28 rfl w.heap.size 69 i0 _ 1 24 Tryz.underlying28 hi hz0 hz1 hz2 rfl (by decide) _ _ _ rfl (World.ownsRow_made w #[] 0 (Nat.le_refl _) (Nat.zero_le _) (by simp)) ad n c F rfl HFL.out (fun j u hj => Lib.cell?_alloc_some _ (HNW.out j u hj)) HOF.out (by unfold maxLen; omega) (by omega) (by simp) ?_)
  intro v' w1 hown hgrow hnil
  go_wp2
  go_ret
  refine ⟨v', rfl, by simpa using hown, ?_, ?_⟩
  · exact hnil
  · exact ((Below.refl _ w).alloc (Nat.le_refl _) _).grown hgrow (by simp) (by intro k hk; simp [Value.ownBlock] at hk; omega)
theorem tclone_nil (w : World) : Calls Tryz.prog 111 #[.slice none 0 0] w fun e w' => e = .returned (.slice none 0 0) ∧ w' = w := by
  have h := AnyE.slices_Clone_nil Tryz.mkCloneT 0 0 w
  change Calls Tryz.prog 111 _ _ _ at h
  exact h
end Go.Proofs.YtfiobemeogaaiaaGreat
namespace Go.Proofs.YtfiobemeogaaiaaGreat
open Lib (hid)
open Go.Shelf Go.RowKit
set_option linter.unusedVariables false
set_option maxHeartbeats 800000 in
theorem sgrow_any (n : Nat) (hn : n ≤ 1000000) (w : World) : Calls Tryz.prog 194 #[.slice none 0 0, .int .i64 n] w fun e w' => ∃ v, e = .returned v ∧ w'.ownsRow w.heap.size 69 1 v 0 [] ∧ Below w.heap.size w w' := by
  obtain ⟨i0, hi, hz0, hz1, hz2⟩ := info_parts step_info
  rcases Nat.eq_zero_or_pos n with rfl | hp
  · have h := Any8.slices_Grow_room Tryz.mkGrowS none 0 0 0 w (Nat.le_refl _) (by omega) (by omega) (by omega)
    change Calls Tryz.prog 194 _ _ _ at h
    refine h.mono ?_
    rintro e w' ⟨rfl, rfl⟩
    exact ⟨_, rfl, World.ownsRow_nil _ _ _ _, Below.refl _ _⟩
  · have h := Any8.slices_Grow_grow Tryz.mkGrowS i0 _ hi hz0 (by rw [hz1]; decide) none 0 0 n [] w (Nat.le_refl _) (by omega) (by rw [hz2]; omega) (by omega) (by simp) (fun _ => rfl) (fun a e => by cases e)
    change Calls Tryz.prog 194 _ _ _ at h
    refine h.mono ?_
    rintro e w' ⟨rfl, rfl⟩
    have hge := grownCap_ge w (0 + n) 0 (Tryz.mkGrowS_ren.t 25)
    have hle := grownCap_le_maxLen w (0 + n) 0 (Tryz.mkGrowS_ren.t 25) (by unfold maxLen; omega)
    refine ⟨_, rfl, World.ownsRow_made w.drew _ _ (Nat.le_refl _) hle ?_, ((Below.refl w.heap.size w).drew).alloc (Nat.le_refl _) _⟩
    simp only [Nat.zero_add] at hge ⊢
    simp [Builtin.zeroCells, Value.cells]
    omega
set_option maxRecDepth 100000 in
set_option maxHeartbeats 1600000 in
theorem sconcat_any (r : Nat) (ps : List SPc) (w : World) (hr : r < w.heap.size) (hps : ∀ k, k < ps.length → w.cell? ⟨r, k, none⟩ = some (ps[k]!).v) (hp : ∀ k, k < ps.length → SPcs w ps[k]!) (hl : ps.length ≤ 1000) (hs : ssumP ps ≤ 100000) :
    Calls Tryz.prog 182 #[.slice (some ⟨r, 0, none⟩) ps.length ps.length] w (RetSRow w (scatP ps)) := by
  obtain ⟨i0, hi, hz0, hz1, hz2⟩ := info_parts step_info
  obtain ⟨m, hm⟩ : ∃ m, ps.length = m := ⟨_, rfl⟩
  rw [hm] at hl ⊢
  have HM := hid hm; have HPS := hid hps; have HP := hid hp; have HS := hid hs; have HR := hid hr
  clear hm hps hp hs hr
  go_enter Tryz.func182, Tryz.ntmps182
  go_wp2
  go_loop [3, 11] (fun z i => ∃ k : Nat, k ≤ m ∧ i = .int .i64 k ∧ z = .int .i64 (ssumP (ps.take k) : Nat)) (fun _ i => m - (intOf i).toNat)
  case atStart => exact ⟨0, Nat.zero_le _, rfl, rfl⟩
  case round =>
    obtain ⟨k, hk, rfl, rfl⟩ := hrel
    have hb := Nat.le_trans (ssumP_le ps k) HS.out
    by_cases hlt : k < m
    · have hkl : k < ps.length := by rw [HM.out]; exact hlt
      have q0 := HPS.out k hkl
      have h2 := ssumP_more ps k hkl
      have hb2 := Nat.le_trans (ssumP_le ps (k + 1)) HS.out
      obtain ⟨x, hx⟩ : ∃ x, ps[k]! = x := ⟨_, rfl⟩
      rw [hx] at q0 h2
      obtain ⟨xa, xl, xc⟩ := x
      simp only [SPc.v] at q0 h2
      obtain ⟨n, hn⟩ : ∃ n, xl.length = n := ⟨_, rfl⟩
      rw [hn] at q0 h2
      obtain ⟨s, hs⟩ : ∃ s, ssumP (ps.take k) = s := ⟨_, rfl⟩
      rw [hs] at h2 hb ⊢
      have HX := hid h2
      have hb3 : s + n ≤ 100000 := by omega
      have b0 : (0 : Int) ≤ (k : Int) := by omega
      have b1 : (k : Int) < (m : Int) := by omega
      have b2 : ¬ (s : Int) + (n : Int) < 0 := by omega
      clear hx hn hs h2 hb2
      go_wp2
      go_round
      case rel => exact ⟨k + 1, by omega, by go_num, by rw [HX.out]; go_num⟩
      case measure => simp [intOf]; omega
    · obtain rfl : k = m := by omega
      have hz : ssumP (ps.take k) = ssumP ps := by rw [List.take_of_length_le (by rw [HM.out]; exact Nat.le_refl _)]
      rw [hz] at hb ⊢
      obtain ⟨s, hs⟩ : ∃ s, ssumP ps = s := ⟨_, rfl⟩
      rw [hs] at hb ⊢
      have cg := sgrow_any s (by omega) w
      have CG := hid cg; have HSS := hid hs
      clear hz hs cg
      go_wp2_with fail
      refine CG.out.mono ?_
      rintro e w1 ⟨v, rfl, hown0, hb1⟩
      have HB1 := hid hb1; have HO := hid hown0
      clear hb1 hown0
      go_wp2
      go_loopw [6, 27] (fun v i wr => ∃ j : Nat, j ≤ k ∧ i = .int .i64 j ∧ wr.ownsRow w.heap.size 69 1 v (scatP (ps.take j)).length (sflat (scatP (ps.take j))) ∧ Below w.heap.size w wr) (fun _ i _ => k - (intOf i).toNat)
      case atStart => exact ⟨0, Nat.zero_le _, rfl, HO.out, HB1.out⟩
      case round =>
        obtain ⟨j, hj, rfl, hown, hbel⟩ := hrel
        have hlen := scatP_len (ps.take j)
        have hle := Nat.le_trans (ssumP_le ps j) HS.out
        by_cases hlt : j < k
        · have hjl : j < ps.length := by rw [HM.out]; exact hlt
          have q0 := (hbel.cell (p := ⟨r, j, none⟩) HR.out).trans (HPS.out j hjl)
          have hp := HP.out j hjl
          have h2 := scatP_more ps j hjl
          have h3 := ssumP_more ps j hjl
          have hle2 := Nat.le_trans (ssumP_le ps (j + 1)) HS.out
          obtain ⟨x, hx⟩ : ∃ x, ps[j]! = x := ⟨_, rfl⟩
          rw [hx] at q0 hp h2 h3
          obtain ⟨o, ho⟩ : ∃ o, scatP (ps.take j) = o := ⟨_, rfl⟩
          rw [ho] at hown hlen h2
          have hol : o.length ≤ 100000 := by omega
          have hxl : o.length + x.l.length ≤ 100000 := by omega
          have H2 := hid h2
          have b0 : (0 : Int) ≤ (j : Int) := by omega
          have b1 : (j : Int) < (k : Int) := by omega
          clear hx ho h2 h3 hlen hle hle2
          obtain ⟨xa, xl, xc⟩ := x
          cases xa with
          | none =>
            have e0 : xl = [] := hp.len rfl
            have e1 : xc = 0 := hp.nil rfl
            subst e0
            subst e1
            simp only [SPc.v, List.length_nil] at q0
            clear hp hxl
            go_wp2_with (at_builtin; refine wpList_append_own_none rfl _ _ 167 rfl w.heap.size 69 i0 1 Tryz.underlying167 hi _ _ _ rfl hown rfl ?_)
            go_roundw
            case rel => exact ⟨j + 1, by omega, by go_num, by rw [H2.out, List.append_nil]; exact hown, hbel⟩
            case measure => simp [intOf]; omega
          | some ad =>
            have hnews := scs_news (hp.row.below (fun _ h => h) hbel)
            simp only [SPc.v] at q0
            have hfl := sflat_len xl
            have hofl := sone_flat xl
            obtain ⟨n, hn⟩ : ∃ n, xl.length = n := ⟨_, rfl⟩
            simp only [hn] at q0 hxl hfl
            have HNW := hid hnews; have HFL := hid hfl; have HOF := hid hofl; have HNN := hid hn
            clear hp hnews hfl hofl hn
            go_wp2_with (at_builtin; refine wpList_append_own _ rfl _ _ 167 rfl w.heap.size 69 i0 _ 1 24 Tryz.underlying167 hi hz0 hz1 hz2 rfl (by decide) _ _ _ rfl hown ad n xc (sflat xl) rfl HFL.out HNW.out HOF.out (by unfold maxLen; omega) (by omega) hbel.size ?_; intro v1 w1 ho1 hg1 _)
            have hb1 : Below w.heap.size w w1 := hbel.grown hg1 hbel.size (own_block hown)
            have ho2 : w1.ownsRow w.heap.size 69 1 v1 (scatP (ps.take (j + 1))).length (sflat (scatP (ps.take (j + 1)))) := by
              rw [H2.out, sflat_app, List.length_append, HNN.out]
              exact ho1
            have HO2 := hid ho2; have HB2 := hid hb1
            clear ho1 hg1 hown hbel hb1 ho2 q0
            go_wp2
            go_roundw
            case rel => exact ⟨j + 1, by omega, by go_num, HO2.out, HB2.out⟩
            case measure => simp [intOf]; omega
        · obtain rfl : j = k := by omega
          rw [List.take_of_length_le (by rw [HM.out]; exact Nat.le_refl _)] at hown
          obtain ⟨ad, cp, rfl, hn⟩ := own_srow hown ((scatP_all HP.out).later hbel)
          have HNN := hid hn; clear hn hown
          go_wp2
          go_ret
          exact ⟨ad, cp, rfl, HNN.out, hbel⟩
theorem scat2 {W : World} {p q : SPc} (i j : Nat) (hp : SPcs W p) (hq : SPcs W q) (hi : p.l.length = i) (hj : q.l.length = j) (hs : i + j ≤ 1000) (t : TypeId) :
    Calls Tryz.prog 182 #[.slice (some ⟨W.heap.size, 0, none⟩) 2 2] (W.alloc (.cells #[.slice p.a i p.c, .slice q.a j q.c] t)) (RetSRow (W.alloc (.cells #[.slice p.a i p.c, .slice q.a j q.c] t)) (p.l ++ q.l)) := by
  have hb : Below W.heap.size W (W.alloc (.cells #[.slice p.a i p.c, .slice q.a j q.c] t)) := (Below.refl W.heap.size W).alloc (Nat.le_refl _) _
  have h := sconcat_any W.heap.size [p, q] (W.alloc (.cells #[.slice p.a i p.c, .slice q.a j q.c] t)) (by simp) (fun k hk => by
    match k, hk with
    | 0, _ => simp [World.cell?_alloc_new, SPc.v, hi]
    | 1, _ => simp [World.cell?_alloc_new, SPc.v, hj]) (fun k hk => by
    match k, hk with
    | 0, _ => exact hp.later hb
    | 1, _ => exact hq.later hb) (by simp) (by simp [ssumP]; omega)
  have e : scatP [p, q] = p.l ++ q.l := by simp [scatP]
  rw [e] at h
  exact h
end Go.Proofs.YtfiobemeogaaiaaGreat
namespace Go.Proofs.YtfiobemeogaaiaaGreat
open Lib (hid)
open Go.RowKit
set_option linter.unusedVariables false
set_option linter.unusedSimpArgs false
set_option maxRecDepth 100000 in
set_option maxHeartbeats 800000 in
theorem pop_none (a : Option Addr) (c : Nat) (w : World) :
    Calls Tryz.prog 145 #[.slice a 0 c] w fun e w' => e = .returned (.tuple #[.slice none 0 0, stpV none 0 0, .bool false]) ∧ Below w.heap.size w w' := by
  have hb0 : Below w.heap.size w ((w.alloc (.cells #[.slice none 0 0] 69)).alloc (.cells #[.slice none 0 0] 69)).drew := (((Below.refl w.heap.size w).alloc (Nat.le_refl _) _).alloc (by simp) _).drew
  have HB := hid hb0; clear hb0
  go_enter Tryz.func145, Tryz.ntmps145
  go_wp2
  go_region
  all_goals go_wp2
  all_goals
    refine bodyPost_ret (v := .tuple #[.slice none 0 0, stpV none 0 0, .bool false]) (by simp [results, Tryz.results145, go_sem]) rfl ?_
    exact ⟨rfl, HB.out⟩
set_option maxRecDepth 100000 in
set_option maxHeartbeats 800000 in
theorem pop_some (ad : Addr) (c k : Nat) (y : EPc) (w : World) (hc : w.cell? (ad.add k) = some y.v) (hkc : k + 1 ≤ c) (hcm : c ≤ maxLen) :
    Calls Tryz.prog 145 #[.slice (some ad) (k + 1 : Nat) c] w fun e w' => e = .returned (.tuple #[.slice (some ad) k c, stpV y.a y.l.length y.c, .bool true]) ∧ Below w.heap.size w w' := by
  obtain ⟨ya, yl, yc⟩ := y
  simp only [EPc.v] at hc ⊢
  unfold maxLen at hcm
  obtain ⟨n, hn⟩ : ∃ n, yl.length = n := ⟨_, rfl⟩
  rw [hn] at hc ⊢
  have hlt := World.block_lt_of_cell? w _ hc
  rw [stk_block] at hlt
  obtain ⟨W, hW⟩ : ∃ W, w.alloc (.cells #[.slice none 0 0] 69) = W := ⟨_, rfl⟩
  have hb0 : Below w.heap.size w W := by rw [← hW]; exact (Below.refl w.heap.size w).alloc (Nat.le_refl _) _
  have B := Blk.new w #[.slice none 0 0] 69
  rw [hW] at B
  have q1 : W.drew.cell? (ad.add k) = some (.slice ya n yc) := (hb0.cell (p := ad.add k) (by rw [stk_block]; exact hlt)).trans hc
  have q2 : W.drew.cell? ⟨w.heap.size, 0, none⟩ = some (.slice none 0 0) := B.cell 0 _ rfl
  have q3 : W.drew.frozen? ⟨w.heap.size, 0, none⟩ = false := B.free 0
  have hb1 : k ≤ c := by omega
  have HB := hid (hb0.drew.setCell (p := ⟨w.heap.size, 0, none⟩) (Nat.le_refl _) (.slice ya n yc))
  have q4 : (W.setCell ⟨w.heap.size, 0, none⟩ (.slice ya n yc)).cell? ⟨w.heap.size, 0, none⟩ = some (.slice ya n yc) := World.cell?_setCell_same' _ _ _ (by rw [show W.cell? ⟨w.heap.size, 0, none⟩ = _ from q2]; rfl)
  clear hn hlt hb0 B hc
  go_enter Tryz.func145, Tryz.ntmps145
  go_wp2
  go_region
  all_goals go_wp2
  all_goals
    refine bodyPost_ret (v := .tuple #[.slice (some ad) k c, stpV ya n yc, .bool true]) (by simp [results, Tryz.results145, go_sem, q4]) rfl ?_
    exact ⟨rfl, HB.out⟩
set_option maxRecDepth 100000 in
set_option maxHeartbeats 800000 in
theorem own_any (a : Option Addr) (l : List Edt) (c : Nat) (w : World) (hp : EPcs w ⟨a, l, c⟩) (hl : l.length ≤ 1000000) :
    Calls Tryz.prog 161 #[stpV a l.length c] w (RetStp w l) := by
  obtain ⟨W1, hW1⟩ : ∃ W1, w.alloc (.cells #[.slice a l.length c] 69) = W1 := ⟨_, rfl⟩
  obtain ⟨wX, hwX⟩ : ∃ wX, W1.alloc (.cells #[.slice none 0 0] 69) = wX := ⟨_, rfl⟩
  have b1 : Below w.heap.size w W1 := by rw [← hW1]; exact (Below.refl _ _).alloc (Nat.le_refl _) _
  have z1 : W1.heap.size = w.heap.size + 1 := by rw [← hW1]; simp
  have z3 : wX.heap.size = w.heap.size + 2 := by rw [← hwX]; simp [z1]
  have c3 : Below W1.heap.size W1 wX := by rw [← hwX]; exact (Below.refl _ _).alloc (Nat.le_refl _) _
  have B1 : Blk W1 w.heap.size #[.slice a l.length c] 69 := by rw [← hW1]; exact Blk.new _ _ _
  have B3 : Blk wX W1.heap.size #[.slice none 0 0] 69 := by rw [← hwX]; exact Blk.new _ _ _
  have B1 : Blk wX w.heap.size #[.slice a l.length c] 69 := B1.onto c3
  have hb0 : Below w.heap.size w wX := b1.trans (c3.mono (by omega))
  have x0 := B1.cell 0 _ rfl
  have x4 := B3.cell 0 _ rfl
  have x5 := B3.free 0
  have hpX : EPcs wX ⟨a, l, c⟩ := hp.later hb0
  cases a with
  | none =>
    have e0 : l = [] := hp.len rfl
    have e1 : c = 0 := hp.nil rfl
    subst e0
    subst e1
    have HB := hid (hb0.setCell (p := ⟨W1.heap.size, 0, none⟩) (by show w.heap.size ≤ W1.heap.size; omega) (.slice none 0 0))
    have hW1 : w.alloc (.cells #[.slice none 0 0] 69) = W1 := hW1
    have x0 : wX.cell? ⟨w.heap.size, 0, none⟩ = some (.slice none 0 0) := x0
    have q4 : (wX.setCell ⟨W1.heap.size, 0, none⟩ (.slice none 0 0)).cell? ⟨W1.heap.size, 0, none⟩ = some (.slice none 0 0) := World.cell?_setCell_same' _ _ _ (by rw [x4]; rfl)
    clear hp hpX hb0 B1 B3 c3 b1 hl z1 z3
    show Calls Tryz.prog 161 #[.agg #[.slice none 0 0]] w _
    go_enter Tryz.func161, Tryz.ntmps161
    go_wp2_with fail
    refine (eclone_nil _).mono ?_
    rintro e w2 ⟨rfl, rfl⟩
    go_wp2
    refine bodyPost_ret (v := stpV none 0 0) (by simp [results, Tryz.results161, go_sem, q4]) rfl ?_
    exact ⟨none, 0, rfl, ERow.empty _ _, HB.out⟩
  | some ad =>
    have cc := eclone_some ad l c wX hpX.row hl
    obtain ⟨n, hn⟩ : ∃ n, l.length = n := ⟨_, rfl⟩
    have CC := hid cc; have HN := hid hn; have HB0 := hid hb0; have HW1 := hid (show W1.heap.size < wX.heap.size by omega); have HWW := hid (show w.heap.size ≤ W1.heap.size by omega)
    rw [hn] at hW1 x0 CC ⊢
    clear hp hpX hb0 B1 B3 c3 b1 hl z1 z3 cc hn
    show Calls Tryz.prog 161 #[.agg #[.slice (some ad) n c]] w _
    go_enter Tryz.func161, Tryz.ntmps161
    go_wp2_with fail
    refine CC.out.mono ?_
    rintro e w2 ⟨v, rfl, hown, -, hb⟩
    have hown : w2.ownsRow wX.heap.size 87 3 v l.length (Edt.flat l) := by rw [HN.out]; exact hown
    obtain ⟨a2, c2, ev, hrow⟩ := own_erow hown
    rw [HN.out] at ev
    subst ev
    have y4 := (hb.cell (p := ⟨W1.heap.size, 0, none⟩) HW1.out).trans x4
    have y5 := (hb.frozen (p := ⟨W1.heap.size, 0, none⟩) HW1.out).trans x5
    have HB := hid ((HB0.out.trans (hb.mono HB0.out.size)).setCell (p := ⟨W1.heap.size, 0, none⟩) HWW.out (.slice a2 n c2))
    have HR := hid ((hrow.set (p := ⟨W1.heap.size, 0, none⟩) HW1.out (.slice a2 n c2)).mono HB0.out.size)
    have q4 : (w2.setCell ⟨W1.heap.size, 0, none⟩ (.slice a2 n c2)).cell? ⟨W1.heap.size, 0, none⟩ = some (.slice a2 n c2) := World.cell?_setCell_same' _ _ _ (by rw [y4]; rfl)
    clear hown hrow hb
    go_wp2
    refine bodyPost_ret (v := stpV a2 n c2) (by simp [results, Tryz.results161, go_sem, q4]) rfl ?_
    exact ⟨a2, c2, by rw [HN.out], HR.out, HB.out⟩
theorem same_step (a : Option Addr) (n c : Nat) (w : World) :
    Calls Tryz.prog 125 #[stpV a n c] w fun e w' => e = .returned (stpV a n c) ∧ Below w.heap.size w w' := by
  obtain ⟨W1, hW1⟩ : ∃ W1, w.alloc (.cells #[.slice a n c] 69) = W1 := ⟨_, rfl⟩
  obtain ⟨wX, hwX⟩ : ∃ wX, W1.alloc (.cells #[.slice none 0 0] 69) = wX := ⟨_, rfl⟩
  have b1 : Below w.heap.size w W1 := by rw [← hW1]; exact (Below.refl _ _).alloc (Nat.le_refl _) _
  have z1 : W1.heap.size = w.heap.size + 1 := by rw [← hW1]; simp
  have c3 : Below W1.heap.size W1 wX := by rw [← hwX]; exact (Below.refl _ _).alloc (Nat.le_refl _) _
  have B1 : Blk W1 w.heap.size #[.slice a n c] 69 := by rw [← hW1]; exact Blk.new _ _ _
  have B3 : Blk wX W1.heap.size #[.slice none 0 0] 69 := by rw [← hwX]; exact Blk.new _ _ _
  have B1 : Blk wX w.heap.size #[.slice a n c] 69 := B1.onto c3
  have HB := hid ((b1.trans (c3.mono (by omega))).setCell (p := ⟨W1.heap.size, 0, none⟩) (by show w.heap.size ≤ W1.heap.size; omega) (.slice a n c))
  have x0 := B1.cell 0 _ rfl
  have x4 := B3.cell 0 _ rfl
  have x5 := B3.free 0
  have q4 : (wX.setCell ⟨W1.heap.size, 0, none⟩ (.slice a n c)).cell? ⟨W1.heap.size, 0, none⟩ = some (.slice a n c) := World.cell?_setCell_same' _ _ _ (by rw [x4]; rfl)
  clear b1 c3 B1 B3 z1
  show Calls Tryz.prog 125 #[.agg #[.slice a n c]] w _
  go_enter Tryz.func125, Tryz.ntmps125
  go_wp2
  refine bodyPost_ret (v := stpV a n c) (by simp [results, Tryz.results125, go_sem, q4]) rfl ?_
  exact ⟨rfl, HB.out⟩
end Go.Proofs.YtfiobemeogaaiaaGreat
namespace Go.Proofs.YtfiobemeogaaiaaGreat
open Lib (hid)
open Go.RowKit
set_option linter.unusedVariables false
set_option linter.unusedSimpArgs false
def nilS : EPc := ⟨none, [], 0⟩
theorem smade (n : Nat) : (madeCells #[.slice none 0 0] (n * 1)).toList = sflat (List.replicate n nilS) := by
  refine List.ext_getElem? fun j => ?_
  rcases Nat.lt_or_ge j n with g | g
  · rw [sflat_get _ _ (by rw [List.length_replicate]; exact g), epget (by rw [List.length_replicate]; exact g), List.getElem_replicate]
    unfold madeCells
    simp [g, Nat.mod_one]
    rfl
  · rw [List.getElem?_eq_none (by simp [madeCells]; exact g), List.getElem?_eq_none (by rw [sflat_len, List.length_replicate]; omega)]
theorem sflat_set (l : List EPc) (k : Nat) (x : EPc) : (sflat l).set k x.v = sflat (l.set k x) := by
  unfold sflat
  rw [List.map_set]
def RetStk (w : World) (L : List (List Edt)) (e : Ending) (w' : World) : Prop := ∃ a c l, e = .returned (.slice a l.length c) ∧ lsP l = L ∧ SRow w' w.heap.size ⟨a, l, c⟩ ∧ (∃ g, a = some ⟨g, 0, none⟩ ∧ w.heap.size ≤ g ∧ ∀ x ∈ l, ERow w' (g + 1) x) ∧ w'.ownsRow w.heap.size 69 1 (.slice a l.length c) l.length (sflat l) ∧ Below w.heap.size w w'
theorem own_mono {w : World} {base b2 size n : Nat} {e : TypeId} {v : Value} {xs : List Value} (h : w.ownsRow base e size v n xs) (hb : b2 ≤ base) : w.ownsRow b2 e size v n xs := by
  refine ⟨h.1, ?_⟩
  rcases h.2 with h2 | ⟨g, cap, cur, hv, hg0, hr⟩
  · exact .inl h2
  · exact .inr ⟨g, cap, cur, hv, Nat.le_trans hb hg0, hr⟩
set_option maxRecDepth 100000 in
set_option maxHeartbeats 1600000 in
theorem each_any (a : Option Addr) (l : List EPc) (c : Nat) (w : World) (hp : SPcs w ⟨a, l, c⟩) (hl : l.length ≤ 1000) (hb : ∀ x ∈ l, x.l.length ≤ 1000000) :
    Calls Tryz.prog 160 #[.slice a l.length c, .func (.func 161) #[] #[]] w (RetStk w (lsP l)) := by
  obtain ⟨i0, hi, hz0, hz1, hz2⟩ := info_parts step_info
  obtain ⟨n, hn⟩ : ∃ n, l.length = n := ⟨_, rfl⟩
  obtain ⟨wM, hrun, hown, hgrow⟩ := run_make_full (P := Tryz.prog) w w.heap.size 167 69 i0 _ 1 Tryz.underlying167 hi hz0 hz1 .i64 .i64 n (by rw [hz2]; omega) (by unfold maxLen; omega) (Nat.le_refl _)
  have hbM : Below w.heap.size w wM := (Below.refl _ _).grown hgrow (Nat.le_refl _) (fun k hk => by cases hk)
  have hown : wM.ownsRow w.heap.size 69 1 (.slice (some ⟨w.heap.size, 0, none⟩) n n) n (sflat ([] ++ List.replicate (n - 0) nilS)) := by
    rw [List.nil_append, Nat.sub_zero, ← smade]
    exact hown
  obtain ⟨g, hg⟩ : ∃ g, w.heap.size = g := ⟨_, rfl⟩
  rw [hn] at hl ⊢
  have HG := hid hg; have HP := hid hp; have HN := hid hn; have HOWN := hid hown; have HBM := hid hbM; have HBB := hid hb
  rw [hg] at hrun
  clear hn hown hgrow hbM hg hi hz0 hz1 hz2 hp hb
  go_enter Tryz.func160, Tryz.ntmps160
  go_wp2
  clear hrun
  go_loopw [13] (fun i wr => ∃ (k : Nat) (qs : List EPc), k ≤ n ∧ i = .int .i64 k ∧ qs.length = k ∧ wr.ownsRow w.heap.size 69 1 (.slice (some ⟨g, 0, none⟩) n n) n (sflat (qs ++ List.replicate (n - k) nilS)) ∧ lsP qs = (lsP l).take k ∧ (∀ x ∈ qs, ERow wr (g + 1) x) ∧ Below w.heap.size w wr) (fun i _ => n - (intOf i).toNat)
  case atStart => exact ⟨0, [], Nat.zero_le _, rfl, rfl, by rw [← HG.out]; exact HOWN.out, rfl, fun x hx => absurd hx (by simp), HBM.out⟩
  case round =>
    obtain ⟨k, qs, hk, rfl, hqk, hown, hqs, hall, hbel⟩ := hrel
    by_cases hlt : k < n
    · have hkl : k < l.length := by rw [HN.out]; exact hlt
      have hpr := HP.out.later hbel
      obtain ⟨ad, rfl, hab, q0⟩ := hpr.row k hkl
      have hx1 := hpr.all.at k hkl
      have hx2 := HBB.out (l[k]!) (by rw [epget hkl]; exact List.getElem_mem hkl)
      have hx3 : lsP qs ++ [(l[k]!).l] = (lsP l).take (k + 1) := by rw [ltake (by rw [lsP_len]; exact hkl), hqs, lsP_get l k hkl]
      obtain ⟨x, hx⟩ : ∃ x, l[k]! = x := ⟨_, rfl⟩
      rw [hx] at q0 hx1 hx2 hx3
      obtain ⟨xa, xl, xc⟩ := x
      simp only [EPc.v] at q0 hx2 hx3
      have hgl : g < wr.heap.size := (hown.lt _ rfl).2
      have hbx : Below wr.heap.size wr (wr.alloc (.cells #[.slice xa xl.length xc] 69)) := (Below.refl _ _).alloc (Nat.le_refl _) _
      have co := own_any xa xl xc _ (hx1.later hbx) hx2
      obtain ⟨m, hm⟩ : ∃ m, xl.length = m := ⟨_, rfl⟩
      have CO := hid co; have HO := hid hown; have HM := hid hm; have HX3 := hid hx3; have HALL := hid hall; have HBX := hid hbx; have HGL := hid hgl; have HQ := hid hqk
      rw [hm] at q0 CO HBX
      have b0 : (0 : Int) ≤ (k : Int) := by omega
      have b1 : (k : Int) < (n : Int) := by omega
      clear co hown hm hx hx1 hx2 hx3 hall hbx hgl hab hpr hqs hqk
      go_wp2_with fail
      refine CO.out.mono ?_
      rintro e w3 ⟨a3, c3, rfl, hr3, hb3⟩
      rw [HM.out]
      have hb4 : Below wr.heap.size wr w3 := HBX.out.trans (hb3.mono HBX.out.size)
      have HO3 := hid (own_onto HO.out hb4)
      have HB3 := hid (hbel.trans (hb4.mono hbel.size))
      have f0 := HO3.out.frozenAt k
      have hkq : k < (qs ++ List.replicate (n - k) nilS).length := by rw [List.length_append, List.length_replicate, HQ.out]; omega
      have q3 := (HO3.out.cellAt k (by omega)).trans (sflat_get _ k hkq)
      rw [show (qs ++ List.replicate (n - k) nilS)[k]! = nilS by rw [epget hkq, List.getElem_append_right (by rw [HQ.out]; exact Nat.le_refl _), List.getElem_replicate]] at q3
      have q3 : w3.cell? ⟨g, k, none⟩ = some (.slice none 0 0) := q3
      have HO4 := hid (HO3.out.stored k (.slice a3 xl.length c3)).1
      have HE : sflat ((qs ++ List.replicate (n - k) nilS).set k ⟨a3, xl, c3⟩) = sflat ((qs ++ [⟨a3, xl, c3⟩]) ++ List.replicate (n - (k + 1)) nilS) := by
        rw [List.set_append_right _ _ (by rw [HQ.out]; exact Nat.le_refl _), HQ.out, Nat.sub_self, show n - k = (n - (k + 1)) + 1 by omega, List.replicate_succ, List.set_cons_zero, List.append_assoc]
        rfl
      have HS := hid ((sflat_set (qs ++ List.replicate (n - k) nilS) k ⟨a3, xl, c3⟩).trans HE)
      have HB4 := hid (HB3.out.setCell (p := ⟨g, k, none⟩) (Nat.le_of_eq HG.out) (.slice a3 m c3))
      have HR3 := hid ((hr3.mono (b2 := g + 1) (by have := HGL.out; simp; omega)).set (p := ⟨g, k, none⟩) (Nat.lt_succ_self g) (.slice a3 m c3))
      have HAL := hid (fun x hx => ((HALL.out x hx).below hb4).set (p := ⟨g, k, none⟩) (Nat.lt_succ_self g) (.slice a3 m c3))
      clear hr3 hb3 hb4 hbel q0 HE hkq
      go_wp2
      go_roundw
      case rel =>
        refine ⟨k + 1, qs ++ [⟨a3, xl, c3⟩], by omega, by go_num, by rw [List.length_append, HQ.out]; rfl, ?_, by rw [lsP_app]; exact HX3.out, ?_, HB4.out⟩
        · have h := HO4.out
          have hS := HS.out
          simp only [EPc.v] at hS
          rw [hS, HM.out] at h
          exact h
        · intro x hx
          rcases List.mem_append.1 hx with hx | hx
          · exact HAL.out x hx
          · obtain rfl := List.mem_singleton.1 hx
            exact HR3.out
      case measure => simp [intOf]; omega
    · obtain rfl : k = n := by omega
      rw [Nat.sub_self, List.replicate_zero, List.append_nil] at hown
      have hown : wr.ownsRow w.heap.size 69 1 (.slice (some ⟨g, 0, none⟩) k k) qs.length (sflat qs) := by rw [hqk]; exact hown
      obtain ⟨a4, c4, ev, hrow⟩ := own_srow hown (fun x hx => (hall x hx).in)
      rw [hqk] at ev
      injection ev with e1 e2 e3
      subst e1
      subst e3
      have hq2 : lsP qs = lsP l := by rw [hqs, List.take_of_length_le (by rw [lsP_len, HN.out]; exact Nat.le_refl _)]
      have HROW := hid hrow; have HQ := hid hqk; have HOO := hid (show wr.ownsRow w.heap.size 69 1 (.slice (some ⟨g, 0, none⟩) qs.length k) qs.length (sflat qs) by have h := hown; rw [hqk] at h ⊢; exact h); have HQ2 := hid hq2; have HALL := hid hall
      clear hrow hown hqk hqs hall hq2
      go_wp2
      go_ret
      exact ⟨_, k, qs, by rw [HQ.out]; rfl, HQ2.out, HROW.out, ⟨g, rfl, Nat.le_of_eq HG.out, HALL.out⟩, HOO.out, hbel⟩
end Go.Proofs.YtfiobemeogaaiaaGreat
