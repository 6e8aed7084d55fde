/-
  Layer 16's law KnotUps.
-/
import Derived.Test.YtmdcdkmokaejbaaLawKnot
namespace Go.Proofs.Ytmdcdkmokaejbaa
open Go.RowKit
set_option linter.unusedVariables false
set_option linter.unusedSimpArgs false

theorem LvI.join {w wr : World} {M : List ByteArray} {v1 v2 : Value} {K : List Kid} (I : LvI w M v1 v2 K wr) (hM : M.length ≤ 200) (hf : ∀ s ∈ M, fitsP s) (h0 : 0 < M.length) :
    ∃ g c, v1 = .slice (some ⟨g, 0, none⟩) M.length c ∧ M.length ≤ c ∧ JoinP wr (Since w.heap.size wr) g 0 M.length 0 K := by
  obtain ⟨g, c, rfl, hc, -, hr⟩ := own_row I.o1 h0
  refine ⟨g, c, rfl, hc, I.len, hr, I.kids, fun i hi => hi.2, by decide, ?_⟩
  have := whole_size hf
  rw [I.fl]; omega
theorem LvI.none {w wr : World} {M : List ByteArray} {v1 v2 : Value} {K : List Kid} (I : LvI w M v1 v2 K wr) (h0 : M.length = 0) : v1 = .slice none 0 0 ∨ ∃ g c, v1 = .slice (some ⟨g, 0, none⟩) 0 c := by
  have h := I.o1
  rw [h0] at h
  rcases h.2 with ⟨rfl, _⟩ | ⟨g, cap, cur, rfl, _⟩
  · exact .inl rfl
  · exact .inr ⟨g, cap, rfl⟩
set_option maxRecDepth 100000 in
set_option maxHeartbeats 800000 in
theorem up_empty {a : Option Addr} {c : Nat} (w : World) : Calls Try.prog 8 #[.slice a 0 c] w fun e w' => e = .returned (.pointer none) ∧ Below w.heap.size w w' := by
  go_enter Try.func8, Try.ntmps8
  go_wp2
  go_ret
  exact ⟨rfl, Below.refl _ _⟩
theorem tree_high {w : World} {h b : Nat} {L : List ByteArray} (k : KnotH w h b L) (hl : L.length ≤ 200) : h ≤ 20 := by
  have h1 := k.chunks.2
  rcases Nat.lt_or_ge h 21 with g | g
  · omega
  · have := Nat.pow_le_pow_right (show 0 < 2 by decide) (show 8 ≤ h by omega)
    omega
/-- Two cells of a row of texts, beside what lay below. -/
structure T2 (w : World) (p q : Addr) (u v : ByteArray) (w' : World) : Prop where
  B : Below w.heap.size w w'
  p : w'.cell? p = some (.string u)
  q : w'.cell? q = some (.string v)
theorem T2.on {w w1 w2 : World} {p q : Addr} {u v : ByteArray} (h : T2 w p q u v w1) (hp : p.block < w.heap.size) (hq : q.block < w.heap.size) (hb : Below w.heap.size w w2) : T2 w p q u v w2 :=
  ⟨hb, (hb.cell hp).trans ((h.B.cell hp).symm.trans h.p), (hb.cell hq).trans ((h.B.cell hq).symm.trans h.q)⟩

set_option maxRecDepth 100000 in
set_option maxHeartbeats 1600000 in
theorem knotUps_walk (a : Option Addr) (l : List ByteArray) (c : Nat) (w : World) (hr : Strs w (· < w.heap.size) a l) (hf : ∀ s ∈ l, s.size ≤ maxLen) :
    Calls Try.prog 3 #[.slice a l.length c] w fun e w' => e = .returned (.bool true) ∧ Below w.heap.size w w' := by
  have cl := leaves_any a l c w hr hf
  have hfit := chunksK_fits l 200
  have hlen := chunksK_len l 200
  obtain ⟨n0, hn0⟩ : ∃ n, l.length = n := ⟨_, rfl⟩
  obtain ⟨M, hM⟩ : ∃ M, chunksK l 200 = M := ⟨_, rfl⟩
  rw [hn0] at cl ⊢
  rw [hM] at cl hfit hlen
  have CL := Lib.hid cl; have HF := Lib.hid hfit
  clear cl hfit hr hf hn0 hM
  go_enter Try.func3, Try.ntmps3
  go_wp2_with fail
  refine CL.out.mono ?_; rintro e w1 ⟨v1, v2, K, rfl, hI⟩
  have hwz := whole_size HF.out
  have o2 := hI.o2
  obtain ⟨a2, c2, rfl, hst⟩ := own_strs o2
  have hstH : StrsH w1 a2 M := hst.weak fun b h => h.2
  have cwh := fun W (hW : Below w1.heap.size w1 W) => rwhole_any a2 M c2 W (hstH.on hW) (by omega) (by omega)
  have HST := Lib.hid hstH; have CW := Lib.hid cwh; have HB1 := Lib.hid hI.bel
  obtain ⟨n, hn⟩ : ∃ n, M.length = n := ⟨_, rfl⟩
  rcases Nat.eq_zero_or_pos M.length with h0 | h0
  · obtain rfl : M = [] := List.eq_nil_of_length_eq_zero h0
    obtain ⟨a1, c1, rfl⟩ : ∃ a1 c1, v1 = .slice a1 0 c1 := by
      rcases hI.none rfl with rfl | ⟨g, c, rfl⟩
      · exact ⟨_, _, rfl⟩
      · exact ⟨_, _, rfl⟩
    have hnil : ∀ W : World, Hgt W none (-1) := fun W => .inl ⟨rfl, rfl⟩
    have k1 := fun W => chunks_bare (hnil W)
    have k2 := fun W => text_bare (hnil W)
    have ct := fun W (hW : Below w1.heap.size w1 W) => texts16_same none a2 [] 0 c2 W (fun k hk => absurd hk (by simp)) (hstH.on hW) (by simp)
    have rof := rtof_any ⟨#[]⟩ (by unfold maxLen; decide)
    have rhe := rheight_any 0 (by decide)
    rw [show runes (⟨#[]⟩ : ByteArray).data.toList = 0 from rfl, show lines (⟨#[]⟩ : ByteArray).data.toList = 0 from rfl, show (⟨#[]⟩ : ByteArray).size = 0 from rfl, show ((0 : Nat) : Int) = 0 from rfl] at rof
    rw [if_pos rfl, show ((0 : Nat) : Int) = 0 from rfl] at rhe
    rw [whole_nil, show ([] : List ByteArray).length = 0 from rfl] at CW
    simp only [show ([] : List ByteArray).length = 0 from rfl] at ct
    have K1 := Lib.hid k1; have K2 := Lib.hid k2; have CT := Lib.hid ct; have ROF := Lib.hid rof; have RHE := Lib.hid rhe
    clear k1 k2 ct rof rhe hI hst hstH cwh o2 hwz hn hlen h0 hnil
    rw [show ([] : List ByteArray).length = 0 from rfl]
    go_wp2_with fail
    refine (up_empty _).mono ?_; rintro e w2 ⟨rfl, hb2⟩
    have HB2 := Lib.hid hb2
    clear hb2
    go_wp2_with fail
    refine (onward HB2.out (CW.out _ HB2.out)).mono ?_; rintro e w3 ⟨rfl, hb3⟩
    have HB3 := Lib.hid hb3
    clear hb3
    go_wp2_with fail
    refine (onward HB3.out (K1.out _)).mono ?_; rintro e w4 ⟨rfl, hb4⟩
    have HB4 := Lib.hid hb4
    clear hb4
    go_wp2_with fail
    refine (onward HB4.out (CT.out _ HB4.out)).mono ?_; rintro e w5 ⟨rfl, hb5⟩
    have HB5 := Lib.hid hb5
    clear hb5
    go_wp2_with fail
    refine (onward HB5.out (K2.out _)).mono ?_; rintro e w6 ⟨rfl, hb6⟩
    have HB6 := Lib.hid hb6
    clear hb6
    go_wp2_with fail
    refine (onward HB6.out (count_nil _)).mono ?_; rintro e w7 ⟨rfl, hb7⟩
    have HB7 := Lib.hid hb7
    clear hb7
    go_wp2_with fail
    refine (onward HB7.out (ROF.out _)).mono ?_; rintro e w8 ⟨rfl, hb8⟩
    have HB8 := Lib.hid hb8
    clear hb8
    go_wp2_with fail
    refine (onward HB8.out (height_nil _)).mono ?_; rintro e w9 ⟨rfl, hb9⟩
    have HB9 := Lib.hid hb9
    clear hb9
    go_wp2_with fail
    refine (onward HB9.out (RHE.out _)).mono ?_; rintro e w10 ⟨rfl, hb10⟩
    have HB10 := Lib.hid hb10
    clear hb10
    go_wp2_with fail
    refine (onward HB10.out (right_nil _)).mono ?_; rintro e w11 ⟨rfl, hb11⟩
    have HB11 := Lib.hid hb11
    clear hb11
    go_wp2_with fail
    refine (onward HB11.out (first_nil _)).mono ?_; rintro e w12 ⟨rfl, hb12⟩
    have HB12 := Lib.hid hb12
    clear hb12
    go_wp2_with fail
    refine (onward HB12.out (last_nil _)).mono ?_; rintro e w13 ⟨rfl, hb13⟩
    have HB13 := Lib.hid hb13
    clear hb13
    go_wp2_with fail
    refine (onward HB13.out (lives16_any _)).mono ?_; rintro e w14 ⟨rfl, hb14⟩
    have HB14 := Lib.hid hb14
    clear hb14
    go_wp2
    go_ret
    exact ⟨by simp, HB1.out.trans (HB14.out.mono HB1.out.size)⟩
  · obtain ⟨g, cg, rfl, hcg, hJ⟩ := hI.join hlen HF.out h0
    obtain ⟨g2, c3, e2, -, -, hrow⟩ := own_row o2 h0
    simp only [Value.slice.injEq, true_and] at e2
    obtain ⟨rfl, rfl⟩ := e2
    have r0 := hrow.2 0 (by simpa [strVs] using h0)
    have rn := hrow.2 (M.length - 1) (by simp [strVs]; omega)
    have f0 := fstL_get h0
    have fn := lstL_get h0
    rw [show (strVs M)[0]'(by simpa [strVs] using h0) = .string M[0] by simp [strVs], ← f0, Nat.zero_add] at r0
    rw [show (strVs M)[M.length - 1]'(by simp [strVs]; omega) = .string (M[M.length - 1]'(by omega)) by simp [strVs], ← fn, Nat.zero_add] at rn
    have cu := up_yes (c := cg) hI.bel.size hJ h0 (by omega) hcg
    rw [hI.fl] at cu
    rw [hn] at CW cu h0 hlen hwz ⊢
    have CU := Lib.hid cu; have HN := Lib.hid hn
    rw [hn] at rn
    have R0 := Lib.hid r0; have RN := Lib.hid rn; have HG := Lib.hid hrow.1
    clear cu hI hJ hst hstH cwh hn o2 r0 rn f0 fn hrow
    go_wp2_with fail
    refine CU.out.mono ?_; rintro e w2 ⟨t, rfl, hk, hb2⟩
    have hk := hk.weak (B' := (· < w2.heap.size)) fun i hi => hi.2
    have hhi := tree_high hk (by rw [HN.out]; exact hlen)
    have ht := KnotW.tells hk (by omega) (by rw [HN.out]; omega)
    have kch := fun W (hW : Below w2.heap.size w2 W) => chunks_any (KnotH.on hk hW) (by omega) (by rw [HN.out]; omega)
    have rof := rtof_any (wholeL M) (by unfold maxLen; omega)
    have rhe := rheight_any n (by omega)
    rw [if_neg (by omega)] at rhe
    obtain ⟨S, hS⟩ : ∃ S, wholeL M = S := ⟨_, rfl⟩
    obtain ⟨H, hH⟩ : ∃ H, upH n 0 = H := ⟨_, rfl⟩
    rw [hH] at ht rhe
    have t1 := ht.text
    have t2 := ht.count
    have t3 := ht.height
    have t4 := ht.right
    have t5 := ht.first
    have t6 := ht.last
    rw [hS] at t1 t2 rof CW
    obtain ⟨R, hR⟩ : ∃ R, runes S.data.toList = R := ⟨_, rfl⟩
    obtain ⟨Y, hY⟩ : ∃ Y, lines S.data.toList = Y := ⟨_, rfl⟩
    rw [hR, hY] at t2 rof
    obtain ⟨F, hFF⟩ : ∃ F, fstL M = F := ⟨_, rfl⟩
    obtain ⟨Z, hZZ⟩ : ∃ Z, lstL M = Z := ⟨_, rfl⟩
    rw [hFF] at t5 R0
    rw [hZZ] at t6 RN
    have T1 := Lib.hid t1; have T2' := Lib.hid t2; have T3 := Lib.hid t3; have T4 := Lib.hid t4; have T5 := Lib.hid t5; have T6 := Lib.hid t6
    have KCH := Lib.hid kch; have ROF := Lib.hid rof; have RHE := Lib.hid rhe; have HB2 := Lib.hid hb2
    clear t1 t2 t3 t4 t5 t6 ht kch rof rhe hb2 hk hhi hS hH hR hY hwz hFF hZZ
    go_wp2_with fail
    refine (CW.out _ HB2.out).mono ?_; rintro e w3 ⟨rfl, hb3⟩
    have HB3 := Lib.hid hb3
    clear hb3
    go_wp2_with fail
    refine (KCH.out _ HB3.out).mono ?_; rintro e w4 ⟨v4, rfl, ho4, hb4⟩
    obtain ⟨a4, c4, rfl, hst4⟩ := own_strs ho4
    have hB4 := HB3.out.trans (hb4.mono HB3.out.size)
    have ct := texts16_same a4 _ M c4 c2 w4 (hst4.weak fun b h => h.2) ((HST.out.on HB2.out).on hB4) (by rw [HN.out]; omega)
    rw [HN.out] at ct ⊢
    have CT := Lib.hid ct; have HB4 := Lib.hid hB4
    clear ct ho4 hb4 hst4 hB4
    go_wp2_with fail
    refine CT.out.mono ?_; rintro e w5 ⟨rfl, hb5⟩
    have HB5 := Lib.hid (HB4.out.trans (hb5.mono HB4.out.size))
    clear hb5
    go_wp2_with fail
    refine (onward HB5.out (T1.out _ HB5.out)).mono ?_; rintro e w6 ⟨rfl, hb6⟩
    have HB6 := Lib.hid hb6
    clear hb6
    go_wp2_with fail
    refine (onward HB6.out (T2'.out _ HB6.out)).mono ?_; rintro e w7 ⟨rfl, hb7⟩
    have HB7 := Lib.hid hb7
    clear hb7
    go_wp2_with fail
    refine (onward HB7.out (ROF.out _)).mono ?_; rintro e w8 ⟨rfl, hb8⟩
    have HB8 := Lib.hid hb8
    clear hb8
    go_wp2_with fail
    refine (onward HB8.out (T3.out _ HB8.out)).mono ?_; rintro e w9 ⟨rfl, hb9⟩
    have HB9 := Lib.hid hb9
    clear hb9
    go_wp2_with fail
    refine (onward HB9.out (RHE.out _)).mono ?_; rintro e w10 ⟨rfl, hb10⟩
    have HB10 := Lib.hid hb10
    clear hb10
    go_wp2_with fail
    refine (onward HB10.out (T4.out _ HB10.out)).mono ?_; rintro e w11 ⟨rfl, hb11⟩
    have HB11 := Lib.hid hb11
    clear hb11
    have z1 : ((n : Int) == 0) = false := by simpa using (show ¬ (n : Int) = 0 by omega)
    have z2 : (n == 0) = false := by simpa using (show ¬ n = 0 by omega)
    have z3 : IntKind.i64.wrap ((n : Int) - 1) = (n : Int) - 1 := IntWalk.i64_in _ (by omega)
    have z4 : ((n : Int) - 1).toNat = n - 1 := by omega
    have z5 : (0 : Int) ≤ (n : Int) - 1 := by omega
    have z6 : (n : Int) - 1 < (n : Int) := by omega
    have z7 : (0 : Int) < (n : Int) := by omega
    have z8 : 0 < n := by omega
    have z9 : (1 : Int) ≤ (n : Int) := by omega
    have HBA := Lib.hid (HB2.out.trans (HB11.out.mono HB2.out.size))
    have hgl : g2 < w11.heap.size := Nat.lt_of_lt_of_le HG.out HBA.out.size
    have c0 := (HBA.out.cell (p := ⟨g2, 0, none⟩) HG.out).trans R0.out
    have cn := (HBA.out.cell (p := ⟨g2, n - 1, none⟩) HG.out).trans RN.out
    have C0 := Lib.hid c0; have CN := Lib.hid cn; have HGL := Lib.hid hgl
    clear c0 cn hgl
    go_wp2_with fail
    -- GEN UPS
    refine wp_region_held_drew (S := (fun w' : World => Below w11.heap.size w11 w' ∧ w'.cell? ⟨g2, 0, none⟩ = some (.string F) ∧ w'.cell? ⟨g2, n - 1, none⟩ = some (.string Z))) (by kernel_rfl) ⟨(Below.refl _ _).drew, C0.out, CN.out⟩ (fun hHeld => ?_)
    refine wpAnyH_take (i := 0) (v := ?_) (by simp only [List.getElem?_toArray, List.getElem?_cons_succ, List.getElem?_cons_zero]; rfl) (by kernel_rfl) (by kernel_rfl) (by kernel_rfl) (fun _ _ _ h => by exact h) (Or.inl ⟨by rfl, ?_⟩) (by assumption) ?_
    rotate_left
    · (intro w hSw; (try dsimp only at hSw); go_simp; try with_reducible rfl)
    try simp only [Act.put, List.setIfInBounds_toArray, List.set_cons_zero, List.set_cons_succ]
    refine wpAnyH_take (i := 2) (v := ?_) (by simp only [List.getElem?_toArray, List.getElem?_cons_succ, List.getElem?_cons_zero]; rfl) (by kernel_rfl) (by kernel_rfl) (by kernel_rfl) (fun _ _ _ h => by exact h) (Or.inl ⟨by rfl, ?_⟩) (by assumption) ?_
    rotate_left
    · (intro w hSw; (try dsimp only at hSw); go_simp; try with_reducible rfl)
    try simp only [Act.put, List.setIfInBounds_toArray, List.set_cons_zero, List.set_cons_succ]
    refine wpAnyH_take (i := 3) (v := ?_) (by simp only [List.getElem?_toArray, List.getElem?_cons_succ, List.getElem?_cons_zero]; rfl) (by kernel_rfl) (by kernel_rfl) (by kernel_rfl) (fun _ _ _ h => by exact h) (Or.inl ⟨by rfl, ?_⟩) (by assumption) ?_
    rotate_left
    · (intro w hSw; (try dsimp only at hSw); go_simp; try with_reducible rfl)
    try simp only [Act.put, List.setIfInBounds_toArray, List.set_cons_zero, List.set_cons_succ]
    refine wpAnyH_take (i := 4) (v := ?_) (by simp only [List.getElem?_toArray, List.getElem?_cons_succ, List.getElem?_cons_zero]; rfl) (by kernel_rfl) (by kernel_rfl) (by kernel_rfl) (fun _ _ _ h => by exact h) (Or.inl ⟨by rfl, ?_⟩) (by assumption) ?_
    rotate_left
    · (intro w hSw; (try dsimp only at hSw); go_simp; try with_reducible rfl)
    try simp only [Act.put, List.setIfInBounds_toArray, List.set_cons_zero, List.set_cons_succ]
    refine wpAnyH_ready (rs := [1]) (by kernel_rfl) (by simp) ?_
    refine AllReadyH.cons (by simp only [List.getElem?_toArray, List.getElem?_cons_succ, List.getElem?_cons_zero]; rfl) (fun K hK => ?_) AllReadyH.nil
    go_simp
    (go_at_call 18; have hH := hHeld.1; refine (onward hH (T5.out _ (HB11.out.trans (hH.mono HB11.out.size)))).mono ?_; rintro e w12 ⟨rfl, hb12⟩; have HB12 := Lib.hid hb12; clear hb12 hH)
    try go_wp2_with fail
    refine hK.out _ _ ?_ (fun hHeld => ?_)
    · exact ⟨HB12.out, (HB12.out.cell (p := ⟨g2, 0, none⟩) HGL.out).trans C0.out, (HB12.out.cell (p := ⟨g2, n - 1, none⟩) HGL.out).trans CN.out⟩
    clear hK K
    try simp only [Act.put, List.setIfInBounds_toArray, List.set_cons_zero, List.set_cons_succ]
    refine wpAnyH_take (i := 5) (v := ?_) (by simp only [List.getElem?_toArray, List.getElem?_cons_succ, List.getElem?_cons_zero]; rfl) (by kernel_rfl) (by kernel_rfl) (by kernel_rfl) (fun _ _ _ h => by exact h) (Or.inl ⟨by rfl, ?_⟩) (by assumption) ?_
    rotate_left
    · (intro w hSw; (try dsimp only at hSw); go_simp; try with_reducible rfl)
    try simp only [Act.put, List.setIfInBounds_toArray, List.set_cons_zero, List.set_cons_succ]
    refine wpAnyH_take (i := 6) (v := ?_) (by simp only [List.getElem?_toArray, List.getElem?_cons_succ, List.getElem?_cons_zero]; rfl) (by kernel_rfl) (by kernel_rfl) (by kernel_rfl) (fun _ _ _ h => by exact h) (Or.inl ⟨by rfl, ?_⟩) (by assumption) ?_
    rotate_left
    · (intro w hSw; (try dsimp only at hSw); go_simp; try with_reducible rfl)
    try simp only [Act.put, List.setIfInBounds_toArray, List.set_cons_zero, List.set_cons_succ]
    refine wpAnyH_take (i := 7) (v := ?_) (by simp only [List.getElem?_toArray, List.getElem?_cons_succ, List.getElem?_cons_zero]; rfl) (by kernel_rfl) (by kernel_rfl) (by kernel_rfl) (fun _ _ _ h => by exact h) (Or.inl ⟨by rfl, ?_⟩) (by assumption) ?_
    rotate_left
    · (intro w hSw; (try dsimp only at hSw); go_simp; try with_reducible rfl)
    try simp only [Act.put, List.setIfInBounds_toArray, List.set_cons_zero, List.set_cons_succ]
    refine wpAnyH_take (i := 9) (v := ?_) (by simp only [List.getElem?_toArray, List.getElem?_cons_succ, List.getElem?_cons_zero]; rfl) (by kernel_rfl) (by kernel_rfl) (by kernel_rfl) (fun _ _ _ h => by exact h) (Or.inl ⟨by rfl, ?_⟩) (by assumption) ?_
    rotate_left
    · (intro w hSw; (try dsimp only at hSw); go_simp; try with_reducible rfl)
    try simp only [Act.put, List.setIfInBounds_toArray, List.set_cons_zero, List.set_cons_succ]
    refine wpAnyH_take (i := 10) (v := ?_) (by simp only [List.getElem?_toArray, List.getElem?_cons_succ, List.getElem?_cons_zero]; rfl) (by kernel_rfl) (by kernel_rfl) (by kernel_rfl) (fun _ _ _ h => by exact h) (Or.inl ⟨by rfl, ?_⟩) (by assumption) ?_
    rotate_left
    · (intro w hSw; (try dsimp only at hSw); go_simp; try with_reducible rfl)
    try simp only [Act.put, List.setIfInBounds_toArray, List.set_cons_zero, List.set_cons_succ]
    refine wpAnyH_take (i := 11) (v := ?_) (by simp only [List.getElem?_toArray, List.getElem?_cons_succ, List.getElem?_cons_zero]; rfl) (by kernel_rfl) (by kernel_rfl) (by kernel_rfl) (fun _ _ _ h => by exact h) (Or.inl ⟨by rfl, ?_⟩) (by assumption) ?_
    rotate_left
    · (intro w hSw; (try dsimp only at hSw); go_simp; try with_reducible rfl)
    try simp only [Act.put, List.setIfInBounds_toArray, List.set_cons_zero, List.set_cons_succ]
    refine wpAnyH_take (i := 12) (v := ?_) (by simp only [List.getElem?_toArray, List.getElem?_cons_succ, List.getElem?_cons_zero]; rfl) (by kernel_rfl) (by kernel_rfl) (by kernel_rfl) (fun _ _ _ h => by exact h) (Or.inl ⟨by rfl, ?_⟩) (by assumption) ?_
    rotate_left
    · (intro w hSw; (try dsimp only at hSw); go_simp; try with_reducible rfl)
    try simp only [Act.put, List.setIfInBounds_toArray, List.set_cons_zero, List.set_cons_succ]
    refine wpAnyH_take (i := 13) (v := ?_) (by simp only [List.getElem?_toArray, List.getElem?_cons_succ, List.getElem?_cons_zero]; rfl) (by kernel_rfl) (by kernel_rfl) (by kernel_rfl) (fun _ _ _ h => by exact h) (Or.inl ⟨by rfl, ?_⟩) (by assumption) ?_
    rotate_left
    · (intro w hSw; (try dsimp only at hSw); go_simp; try with_reducible rfl)
    try simp only [Act.put, List.setIfInBounds_toArray, List.set_cons_zero, List.set_cons_succ]
    refine wpAnyH_take (i := 14) (v := ?_) (by simp only [List.getElem?_toArray, List.getElem?_cons_succ, List.getElem?_cons_zero]; rfl) (by kernel_rfl) (by kernel_rfl) (by kernel_rfl) (fun _ _ _ h => by exact h) (Or.inl ⟨by rfl, ?_⟩) (by assumption) ?_
    rotate_left
    · (intro w hSw; (try dsimp only at hSw); go_simp; try with_reducible rfl)
    try simp only [Act.put, List.setIfInBounds_toArray, List.set_cons_zero, List.set_cons_succ]
    refine wpAnyH_ready (rs := [8]) (by kernel_rfl) (by simp) ?_
    refine AllReadyH.cons (by simp only [List.getElem?_toArray, List.getElem?_cons_succ, List.getElem?_cons_zero]; rfl) (fun K hK => ?_) AllReadyH.nil
    go_simp
    (go_at_call 19; have hH := HB12.out; refine (onward hH (T6.out _ (HB11.out.trans (hH.mono HB11.out.size)))).mono ?_; rintro e w13 ⟨rfl, hb13⟩; have HB13 := Lib.hid hb13; clear hb13 hH)
    try go_wp2_with fail
    refine hK.out _ _ ?_ (fun hHeld => ?_)
    · exact ⟨HB13.out, (HB13.out.cell (p := ⟨g2, 0, none⟩) HGL.out).trans C0.out, (HB13.out.cell (p := ⟨g2, n - 1, none⟩) HGL.out).trans CN.out⟩
    clear hK K
    try simp only [Act.put, List.setIfInBounds_toArray, List.set_cons_zero, List.set_cons_succ]
    refine wpAnyH_take (i := 15) (v := ?_) (by simp only [List.getElem?_toArray, List.getElem?_cons_succ, List.getElem?_cons_zero]; rfl) (by kernel_rfl) (by kernel_rfl) (by kernel_rfl) (fun _ _ _ h => by exact h) (Or.inl ⟨by rfl, ?_⟩) (by assumption) ?_
    rotate_left
    · (intro w hSw; (try dsimp only at hSw); go_simp; try with_reducible rfl)
    try simp only [Act.put, List.setIfInBounds_toArray, List.set_cons_zero, List.set_cons_succ]
    refine wpAnyH_take (i := 16) (v := ?_) (by simp only [List.getElem?_toArray, List.getElem?_cons_succ, List.getElem?_cons_zero]; rfl) (by kernel_rfl) (by kernel_rfl) (by kernel_rfl) (fun _ _ _ h => by exact h) (Or.inl ⟨by rfl, ?_⟩) (by assumption) ?_
    rotate_left
    · (intro w hSw; (try dsimp only at hSw); go_simp; try with_reducible rfl)
    try simp only [Act.put, List.setIfInBounds_toArray, List.set_cons_zero, List.set_cons_succ]
    refine wpAnyH_take (i := 17) (v := ?_) (by simp only [List.getElem?_toArray, List.getElem?_cons_succ, List.getElem?_cons_zero]; rfl) (by kernel_rfl) (by kernel_rfl) (by kernel_rfl) (fun _ _ _ h => by exact h) (Or.inl ⟨by rfl, ?_⟩) (by assumption) ?_
    rotate_left
    · (intro w hSw; (try dsimp only at hSw); go_simp; try with_reducible rfl)
    try simp only [Act.put, List.setIfInBounds_toArray, List.set_cons_zero, List.set_cons_succ]
    refine wpAnyH_ready (rs := [18]) (by kernel_rfl) (by simp) ?_
    refine AllReadyH.cons (by simp only [List.getElem?_toArray, List.getElem?_cons_succ, List.getElem?_cons_zero]; rfl) (fun K hK => ?_) AllReadyH.nil
    go_simp
    (go_at_call 20; have hH := HB13.out; refine (onward hH (lives16_any _)).mono ?_; rintro e w14 ⟨rfl, hb14⟩; have HB14 := Lib.hid hb14; clear hb14 hH)
    try go_wp2_with fail
    refine hK.out _ _ ?_ (fun hHeld => ?_)
    · exact ⟨HB14.out, (HB14.out.cell (p := ⟨g2, 0, none⟩) HGL.out).trans C0.out, (HB14.out.cell (p := ⟨g2, n - 1, none⟩) HGL.out).trans CN.out⟩
    clear hK K
    try simp only [Act.put, List.setIfInBounds_toArray, List.set_cons_zero, List.set_cons_succ]
    refine wpAnyH_take (i := 19) (v := ?_) (by simp only [List.getElem?_toArray, List.getElem?_cons_succ, List.getElem?_cons_zero]; rfl) (by kernel_rfl) (by kernel_rfl) (by kernel_rfl) (fun _ _ _ h => by exact h) (Or.inl ⟨by rfl, ?_⟩) (by assumption) ?_
    rotate_left
    · (intro w hSw; (try dsimp only at hSw); go_simp; try with_reducible rfl)
    try simp only [Act.put, List.setIfInBounds_toArray, List.set_cons_zero, List.set_cons_succ]
    refine wpAnyH_take (i := 20) (v := ?_) (by simp only [List.getElem?_toArray, List.getElem?_cons_succ, List.getElem?_cons_zero]; rfl) (by kernel_rfl) (by kernel_rfl) (by kernel_rfl) (fun _ _ _ h => by exact h) (Or.inl ⟨by rfl, ?_⟩) (by assumption) ?_
    rotate_left
    · (intro w hSw; (try dsimp only at hSw); go_simp; try with_reducible rfl)
    try simp only [Act.put, List.setIfInBounds_toArray, List.set_cons_zero, List.set_cons_succ]
    refine wpAnyH_done (by kernel_rfl) ?_ _
    go_wp2_with fail
    go_ret
    exact ⟨by simp, HB1.out.trans ((HBA.out.trans (HB14.out.mono HBA.out.size)).mono HB1.out.size)⟩
    -- END GEN UPS
end Go.Proofs.Ytmdcdkmokaejbaa
