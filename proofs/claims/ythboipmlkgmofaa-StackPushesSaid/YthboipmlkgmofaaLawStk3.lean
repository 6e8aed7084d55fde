/-
  The laws on stacks (layer 24), third part: StackPushes. (Its last region is written by gen_pushes24.py.)
-/
import Derived.Test.YthboipmlkgmofaaLawStk2
import Derived.Deep.RegionHeld3
namespace Go.Proofs.Ythboipmlkgmofaa
open Go.RowKit
set_option linter.unusedVariables false
set_option linter.unusedSimpArgs false

theorem keep_on {w6 w1 w2 : World} {C : World → Prop} (F : ∀ w', Below w6.heap.size w6 w' → Below w6.heap.size w6 w' ∧ C w') (h : Below w6.heap.size w6 w1 ∧ C w1) (hb : Below w1.heap.size w1 w2) : Below w6.heap.size w6 w2 ∧ C w2 := F _ (h.1.trans (hb.mono h.1.size))
theorem SRow.take {w : World} {base : Nat} {a : Option Addr} {l : List EPc} {c : Nat} (h : SRow w base ⟨a, l, c⟩) (n : Nat) : SRow w base ⟨a, l.take n, c⟩ :=
  ⟨Scs.take h.row n, fun x hx => h.all x (List.mem_of_mem_take hx), h.nil, by have h2 : l.length ≤ c := h.le; show (l.take n).length ≤ c; rw [List.length_take]; omega, h.cap⟩

set_option maxRecDepth 100000 in
set_option maxHeartbeats 1600000 in
/-- The ways that lead to lives. -/
theorem stackPushes_out (a : Option Addr) (l : List EPc) (c : Nat) (sa : Option Addr) (sl : List Edt) (sc : Nat) (w : World) (fp : SPcs w ⟨a, l, c⟩) (ff : ∀ x ∈ l, (x.l.length ≤ x.c ∧ x.c ≤ maxLen) ∧ ∀ y ∈ x.l, y.fits) (gl : sl.length ≤ sc ∧ sc ≤ maxLen) (h : fewS l = false ∨ 40 < sl.length) :
    Calls Try.prog 3 #[.slice a l.length c, .agg #[.slice sa sl.length sc]] w fun e w' => e = .returned (.bool true) ∧ Below w.heap.size w w' := by
  obtain ⟨m, hm⟩ : ∃ m, sl.length = m := ⟨_, rfl⟩
  obtain ⟨W1, hW1⟩ : ∃ W1, w.alloc (.cells #[.slice sa m sc] 25) = W1 := ⟨_, rfl⟩
  have b1 : Below w.heap.size w W1 := by rw [← hW1]; exact (Below.refl _ _).alloc (Nat.le_refl _) _
  have B1 := Blk.new w #[.slice sa m sc] 25
  rw [hW1] at B1
  have cf := few24_any a l c W1 (fp.later b1) (fun x hx => (ff x hx).1)
  obtain ⟨r, hr⟩ : ∃ r, fewS l = r := ⟨_, rfl⟩
  rw [hr] at cf h
  obtain ⟨n, hn⟩ : ∃ n, l.length = n := ⟨_, rfl⟩
  rw [hn] at cf ⊢
  rw [hm] at h gl ⊢
  have hmm : m ≤ 9223372036854775807 := by have := gl; unfold maxLen at this; omega
  have CF := Lib.hid cf; have HB1 := Lib.hid b1; have HK := Lib.hid B1
  clear cf b1 B1 fp ff gl hr hn hm
  cases r with
  | false =>
    clear h
    go_enter Try.func3, Try.ntmps3
    go_wp2_with fail
    refine CF.out.mono ?_; rintro e w0 ⟨rfl, hb0⟩
    have HB0 := Lib.hid (HB1.out.trans (hb0.mono HB1.out.size)); clear hb0
    go_wp2_with fail
    refine (lives24_any _).mono ?_; rintro e w1 ⟨rfl, hb1⟩
    have HB := Lib.hid (HB0.out.trans (hb1.mono HB0.out.size)); clear hb1
    go_wp2
    go_ret
    exact ⟨rfl, HB.out⟩
  | true =>
    have h2 : (40 : Int) < (m : Int) := by rcases h with h | h; cases h; omega
    clear h
    go_enter Try.func3, Try.ntmps3
    go_wp2_with fail
    refine CF.out.mono ?_; rintro e w0 ⟨rfl, hb0⟩
    have HB0 := Lib.hid (HB1.out.trans (hb0.mono HB1.out.size))
    have x0 : w0.cell? ⟨w.heap.size, 0, none⟩ = some (.slice sa m sc) := (HK.out.onto hb0).cell 0 _ rfl
    clear hb0
    go_wp2_with fail
    refine (lives24_any _).mono ?_; rintro e w1 ⟨rfl, hb1⟩
    have HB := Lib.hid (HB0.out.trans (hb1.mono HB0.out.size)); clear hb1
    go_wp2
    go_ret
    exact ⟨rfl, HB.out⟩

set_option maxRecDepth 100000 in
set_option maxHeartbeats 3200000 in
theorem stackPushes_in (a : Option Addr) (l : List EPc) (c : Nat) (sa : Option Addr) (sl : List Edt) (sc : Nat) (w : World) (fp : SPcs w ⟨a, l, c⟩) (gp : EPcs w ⟨sa, sl, sc⟩) (ff : ∀ x ∈ l, (x.l.length ≤ x.c ∧ x.c ≤ maxLen) ∧ ∀ y ∈ x.l, y.fits) (h : fewS l = true) (h40 : sl.length ≤ 40) :
    Calls Try.prog 3 #[.slice a l.length c, .agg #[.slice sa sl.length sc]] w fun e w' => e = .returned (.bool true) ∧ Below w.heap.size w w' := by
  obtain ⟨i0, hi, hz0, hz1, hz2⟩ := info_parts step_info
  obtain ⟨hl, hz⟩ := fewS_z h
  have hzz : ∀ x ∈ l, x.l.length ≤ 1000000 := fun x hx => Nat.le_trans (hz x hx).1 (by decide)
  obtain ⟨m, hm⟩ : ∃ m, sl.length = m := ⟨_, rfl⟩
  obtain ⟨W1, hW1⟩ : ∃ W1, w.alloc (.cells #[.slice sa m sc] 25) = W1 := ⟨_, rfl⟩
  have b1 : Below w.heap.size w W1 := by rw [← hW1]; exact (Below.refl _ _).alloc (Nat.le_refl _) _
  have B1 := Blk.new w #[.slice sa m sc] 25
  rw [hW1] at B1
  have cf := few24_any a l c W1 (fp.later b1) (fun x hx => (ff x hx).1)
  rw [h] at cf
  have c1 := fun W (h : Below w.heap.size w W) => stk_push_any a l c ⟨sa, sl, sc⟩ W (fp.later h) (gp.later h) (by omega) hzz (by show sl.length ≤ _; omega)
  have c2 := fun W (h : Below w.heap.size w W) => rpush24_any a l c ⟨sa, sl, sc⟩ W (fp.later h) (gp.later h) (by omega)
  have c3 := fun W (h : Below w.heap.size w W) => depth_any a l c W (fp.later h) (by omega) hzz
  have c4 := fun W (h : Below w.heap.size w W) => rdepth24_any a l c W (fp.later h) (by omega) hzz
  have hQ1 : lsP ((l ++ [(⟨sa, sl, sc⟩ : EPc)]).drop (l.length + 1 - 16)) = pushL (lsP l) sl := by
    unfold pushL
    rw [lsP_drop, lsP_app, lsP_len]
    rfl
  have hQ2 : ∀ x ∈ pushL (lsP l) sl, x.length ≤ 1000000 := fun x hx => by
    rcases List.mem_append.1 (List.mem_of_mem_drop hx) with g | g
    · obtain ⟨y, hy, rfl⟩ := List.mem_map.1 g
      exact hzz y hy
    · obtain rfl := List.mem_singleton.1 g
      omega
  have hsteps : ∀ a3 c3 l3 a4 c4 l4 W, SRow W 0 ⟨a3, l3, c3⟩ → SRow W 0 ⟨a4, l4, c4⟩ → lsP l3 = pushL (lsP l) sl → lsP l4 = pushL (lsP l) sl → Calls Try.prog 7 #[.slice a3 l3.length c3, .slice a4 l4.length c4] W fun e w' => e = .returned (.bool true) ∧ Below W.heap.size W w' := fun a3 c3 l3 a4 c4 l4 W h3 h4 e3 e4 => by
    have h := rsteps23_any a3 a4 l3 l4 c3 c4 W h3.in h4.in (fun x hx => hQ2 x.l (by rw [← e3]; exact List.mem_map_of_mem hx)) (fun x hx => hQ2 x.l (by rw [← e4]; exact List.mem_map_of_mem hx))
    rw [decide_eq_true (e3.trans e4.symm)] at h
    exact h
  have c0 := fun W (h : Below w.heap.size w W) (e : l = []) => stk_pop_none a c W
  have c9 := fun k (e : l.length = k + 1) W (h : Below w.heap.size w W) => stk_pop_some a l c k W (fp.later h) e (by omega) hzz
  have hsrc : ∀ W, Below w.heap.size w W → SrcP W 1 (.slice a l.length c) l.length (sflat l) := fun W hb => src_of (fp.later hb)
  obtain ⟨Q, hQ⟩ : ∃ Q, (l ++ [(⟨sa, sl, sc⟩ : EPc)]).drop (l.length + 1 - 16) = Q := ⟨_, rfl⟩
  obtain ⟨LQ, hLQ⟩ : ∃ LQ, pushL (lsP l) sl = LQ := ⟨_, rfl⟩
  simp only at c1 c2
  rw [hQ] at c2 hQ1
  rw [hLQ] at c1 hQ1 hsteps
  obtain ⟨dp, hdp⟩ : ∃ dp : Int, ((depthL (lsP l) : Nat) : Int) = dp := ⟨_, rfl⟩
  rw [hdp] at c3 c4
  have HFP := Lib.hid fp; have HZ := Lib.hid hzz
  obtain ⟨n, hn⟩ : ∃ n, l.length = n := ⟨_, rfl⟩
  have HN := Lib.hid hn
  rw [hn] at cf c1 c2 c3 c4 hsrc hl ⊢
  rw [hm] at c1 c2 h40 ⊢
  have CF := Lib.hid cf; have C1 := Lib.hid c1; have C2 := Lib.hid c2; have C3 := Lib.hid c3; have C4 := Lib.hid c4; have CS := Lib.hid hsteps; have C0 := Lib.hid c0; have C9 := Lib.hid c9; have SRC := Lib.hid hsrc; have HQ1 := Lib.hid hQ1; have HB1 := Lib.hid b1; have HK := Lib.hid B1
  have h2 : (m : Int) ≤ 40 := by omega
  clear cf c1 c2 c3 c4 hsteps c0 c9 hsrc hQ1 hQ2 hQ hLQ hdp b1 B1 fp gp ff h hz hzz hm hn h40
  go_enter Try.func3, Try.ntmps3
  go_wp2_with fail
  refine CF.out.mono ?_; rintro e w0 ⟨rfl, hb0⟩
  have HB0 := Lib.hid (HB1.out.trans (hb0.mono HB1.out.size))
  have HK0 := Lib.hid (HK.out.onto hb0)
  have x0 : w0.cell? ⟨w.heap.size, 0, none⟩ = some (.slice sa m sc) := HK0.out.cell 0 _ rfl
  have HBA := Lib.hid (HB0.out.alloc HB0.out.size (.cells #[] 25))
  clear hb0
  go_wp2_with (at_builtin; refine wpList_append_src _ rfl (.tmp 20) (.tmp 21) 22 rfl w.heap.size 25 i0 _ 1 24 Try.underlying22 hi hz0 hz1 hz2 rfl (by decide) _ 0 [] rfl (World.ownsRow_made w0 #[] 0 HB0.out.size (Nat.zero_le _) (by simp)) (.slice a n c) n (sflat l) rfl (SRC.out _ HBA.out) (by unfold maxLen; omega) (by omega) HBA.out.size ?_)
  intro v2 w2 ho2 hg2
  have hb2 := HBA.out.grown hg2 HBA.out.size (fun k hk => by simp [Value.ownBlock] at hk; have := HB0.out.size; omega)
  have hk2 := blk_grown (HK0.out.alloc (.cells #[] 25)) hg2 (by simp [Value.ownBlock]; have := HK0.out.lt; omega)
  have ho2 : w2.ownsRow w.heap.size 25 1 v2 l.length (sflat l) := by rw [HN.out]; simpa using ho2
  obtain ⟨aw, cw, ev, hw⟩ := own_srow ho2 (HFP.out.later hb2).all
  rw [HN.out] at ev
  subst ev
  have fs : ∀ w', Below w2.heap.size w2 w' → Below w2.heap.size w2 w' ∧ w'.cell? ⟨w.heap.size, 0, none⟩ = some (.slice sa m sc) := fun w' h => ⟨h, (hk2.onto h).cell 0 _ rfl⟩
  have FS := Lib.hid fs; have HW := Lib.hid hw; have HB2 := Lib.hid hb2
  clear hb2 hk2 ho2 hg2 hw fs x0
  go_wp2_with fail
  go_region_held3 (fun w' => Below w2.heap.size w2 w' ∧ w'.cell? ⟨w.heap.size, 0, none⟩ = some (.slice sa m sc))
    (first | exact FS.out _ (Below.refl w2.heap.size w2).drew | exact keep_on FS.out (by assumption) hb1)
    (first
      | (go_at_call 8; refine (C1.out _ (HB2.out.trans ((show Below w2.heap.size w2 _ ∧ _ by assumption).1.mono HB2.out.size))).mono ?_; rintro e w1 ⟨a3, c3, l3, rfl, hl3, hr3, -, -, hb1⟩; have HR3 := Lib.hid (hr3.mono (Nat.zero_le _)); have HL3 := Lib.hid hl3; clear hr3 hl3)
      | (go_at_call 9; refine (C2.out _ (HB2.out.trans ((show Below w2.heap.size w2 _ ∧ _ by assumption).1.mono HB2.out.size))).mono ?_; rintro e w1 ⟨a4, c4, rfl, hr4, hb1⟩; have HR4 := Lib.hid (hr4.mono (Nat.zero_le _)); have HR5 := Lib.hid (HR3.out.below hb1); clear hr4)
      | (go_at_call 7; refine (CS.out _ _ _ _ _ _ _ HR5.out HR4.out HL3.out HQ1.out).mono ?_; rintro e w1 ⟨rfl, hb1⟩)
      | (go_at_call 10; refine (C3.out _ (HB2.out.trans ((show Below w2.heap.size w2 _ ∧ _ by assumption).1.mono HB2.out.size))).mono ?_; rintro e w1 ⟨rfl, hb1⟩)
      | (go_at_call 11; refine (C4.out _ (HB2.out.trans ((show Below w2.heap.size w2 _ ∧ _ by assumption).1.mono HB2.out.size))).mono ?_; rintro e w1 ⟨rfl, hb1⟩))
  have HB5 := Lib.hid (HB2.out.trans ((show Below w2.heap.size w2 w1 ∧ _ by assumption).1.mono HB2.out.size))
  have HW5 := Lib.hid (HW.out.below (show Below w2.heap.size w2 w1 ∧ _ by assumption).1)
  clear CF C1 C2 C3 C4 CS SRC HQ1 HK FS HW HR5 HR3 HR4 HL3 HK0 HBA HB0 HB1 HB2
  rcases Nat.eq_zero_or_pos n with rfl | hp
  · have cp := C0.out w1 HB5.out (List.eq_nil_of_length_eq_zero HN.out)
    have CP := Lib.hid cp
    clear cp C0 C9
    go_wp2_with fail
    refine CP.out.mono ?_
    rintro e w6 ⟨rfl, hb6⟩
    have HB6 := Lib.hid ((HB5.out.trans (hb6.mono HB5.out.size)).alloc (Nat.le_trans HB5.out.size hb6.size) (.cells #[.slice none 0 0] 25))
    clear hb6
    go_wp2_with fail
    refine (lives24_any _).mono ?_; rintro e w7 ⟨rfl, hb7⟩
    have HB7 := Lib.hid (HB6.out.trans (hb7.mono HB6.out.size)); clear hb7
    go_wp2
    go_ret
    exact ⟨rfl, HB7.out⟩
  · obtain ⟨k, rfl⟩ : ∃ k, n = k + 1 := ⟨n - 1, by omega⟩
    have hkl : k < l.length := by rw [HN.out]; omega
    have cp := C9.out k HN.out w1 HB5.out
    obtain ⟨y, hy⟩ : ∃ y, l[k]! = y := ⟨_, rfl⟩
    have hy2 : y.l.length ≤ 1000000 := by rw [← hy, epget hkl]; exact HZ.out _ (List.getElem_mem hkl)
    rw [hy] at cp
    have hpw : SPcs w1 ⟨aw, l, cw⟩ := HW5.out.in
    obtain ⟨ad, ha, hab, q0⟩ := hpw.row k hkl
    have ha : aw = some ad := ha
    subst ha
    have q0 : w1.cell? (ad.add k) = some (l[k]!).v := q0
    have hyp : EPcs w1 y := by rw [← hy]; exact hpw.all.at k hkl
    rw [hy] at q0
    have hab : ad.block < w1.heap.size := hab
    obtain ⟨ya, yl, yc⟩ := y
    simp only at cp hy2
    simp only [EPc.v] at q0
    obtain ⟨q, hq⟩ : ∃ q, yl.length = q := ⟨_, rfl⟩
    have hck : k + 1 ≤ cw := by have h : l.length ≤ cw := HW5.out.le; rw [HN.out] at h; exact h
    have hcw : cw ≤ 9223372036854775807 := by have h : cw ≤ maxLen := HW5.out.cap; unfold maxLen at h; omega
    obtain ⟨LK, hLK⟩ : ∃ LK, (lsP l).take k = LK := ⟨_, rfl⟩
    rw [hLK] at cp
    have htk : (l.take k).length = k := by rw [List.length_take]; omega
    have c1 : ∀ a5 c5 l5 W, SRow W 0 ⟨a5, l5, c5⟩ → lsP l5 = LK → Below w1.heap.size w1 W → Calls Try.prog 7 #[.slice a5 l5.length c5, .slice (some ad) k cw] W fun e w' => e = .returned (.bool true) ∧ Below W.heap.size W w' := fun a5 c5 l5 W h3 e3 hb => by
      have ht := (hpw.later hb).take k
      have e4 : lsP l5 = lsP (l.take k) := by rw [e3, lsP_take, hLK]
      have hz5 : ∀ x ∈ l.take k, x.l.length ≤ 1000000 := fun x hx => HZ.out x (List.mem_of_mem_take hx)
      have h := rsteps23_any a5 (some ad) l5 (l.take k) c5 cw W h3.in ht (fun x hx => by
        have g : x.l ∈ lsP (l.take k) := by rw [← e4]; exact List.mem_map_of_mem hx
        obtain ⟨z, hz, ez⟩ := List.mem_map.1 g
        rw [← ez]
        exact hz5 z hz) hz5
      rw [decide_eq_true e4, htk] at h
      exact h
    have c2 : ∀ a6 c6 W, ERow W 0 ⟨a6, yl, c6⟩ → Below w1.heap.size w1 W → Calls Try.prog 13 #[stpV a6 q c6, stpV ya q yc] W fun e w' => e = .returned (.bool true) ∧ Below W.heap.size W w' := fun a6 c6 W h3 hb => by
      have h := rsame23_any a6 ya yl yl c6 yc W h3.in.row (hyp.later hb).row hy2 hy2
      rw [decide_eq_true rfl, hq] at h
      exact h
    have c3 : ∀ W, Below w1.heap.size w1 W → Calls Try.prog 7 #[.slice a (k + 1) c, .slice (some ad) (k + 1) cw] W fun e w' => e = .returned (.bool true) ∧ Below W.heap.size W w' := fun W hb => by
      have h := rsteps23_any a (some ad) l l c cw W (HFP.out.later (HB5.out.trans (hb.mono HB5.out.size))) (hpw.later hb) HZ.out HZ.out
      rw [decide_eq_true rfl, HN.out] at h
      exact h
    have cp : Calls Try.prog 12 #[.slice a (k + 1) c] w1 fun e w' => ∃ a5 c5 l5 a6 c6, e = .returned (.tuple #[.slice a5 l5.length c5, stpV a6 q c6, .int .i64 0]) ∧ lsP l5 = LK ∧ SRow w' 0 ⟨a5, l5, c5⟩ ∧ ERow w' 0 ⟨a6, yl, c6⟩ ∧ Below w1.heap.size w1 w' := cp.mono fun e w' ⟨a5, c5, l5, a6, c6, he, h1, h2, h3, h4, h5⟩ => ⟨a5, c5, l5, a6, c6, by rw [he, hq], h1, h2.mono (Nat.zero_le _), h4.mono (Nat.zero_le _), h5⟩
    rw [hq] at q0
    have CP := Lib.hid cp; have C1 := Lib.hid c1; have C2 := Lib.hid c2; have C3 := Lib.hid c3; have HQ0 := Lib.hid q0; have HAB := Lib.hid hab
    clear cp c1 c2 c3 q0 hab hyp hpw hy hy2 hq hLK htk hkl C0 C9 HFP HZ HN hp
    go_wp2_with fail
    refine CP.out.mono ?_
    rintro e w6 ⟨a5, c5, l5, a6, c6, rfl, hl5, hr5, hr6, hb6⟩
    have hbx : Below w6.heap.size w6 (w6.alloc (.cells #[.slice a6 q c6] 25)) := (Below.refl _ _).alloc (Nat.le_refl _) _
    have HR5 := Lib.hid (hr5.below hbx); have HR6 := Lib.hid (hr6.below hbx); have HL5 := Lib.hid hl5
    have HB6 := Lib.hid (hb6.trans (hbx.mono hb6.size))
    have HX := Lib.hid (Blk.new w6 #[.slice a6 q c6] 25)
    clear hr5 hr6 hl5 hb6 hbx
    obtain ⟨wT, hwT⟩ : ∃ wT, w6.alloc (.cells #[.slice a6 q c6] 25) = wT := ⟨_, rfl⟩
    rw [hwT] at HR5 HR6 HB6 HX
    have fs : ∀ w', Below wT.heap.size wT w' → Below wT.heap.size wT w' ∧ (w'.cell? ⟨w6.heap.size, 0, none⟩ = some (.slice a6 q c6) ∧ w'.cell? (ad.add k) = some (.slice ya q yc)) := fun w' h =>
      ⟨h, (HX.out.onto h).cell 0 _ rfl, ((HB6.out.trans (h.mono HB6.out.size)).cell (p := ad.add k) (by rw [stk_block]; exact HAB.out)).trans (by rw [HQ0.out])⟩
    have FS := Lib.hid fs
    clear fs
    have g1 : ¬ ((k : Int) + 1 = 0) := by omega
    have g2 : (k : Int) + 1 - 1 = (k : Int) := by omega
    have hw1 : IntKind.i64.wrap ((k : Int) + 1 - 1) = (k : Int) := by rw [g2]; exact IntWalk.i64_in _ (by omega)
    have hw2 : IntKind.i64.wrap (k : Int) = (k : Int) := IntWalk.i64_in _ (by omega)
    have g3 : (0 : Int) ≤ (k : Int) := by omega
    have g4 : (k : Int) < (k : Int) + 1 := by omega
    have g5 : k ≤ cw := by omega
    have hlb : Below w.heap.size w wT := HB5.out.trans (HB6.out.mono HB5.out.size)
    have HLB := Lib.hid hlb
    clear hlb ho2
    go_wp2_with fail
    have H0 := Lib.hid (Below.refl wT.heap.size wT).drew
    refine wp_region_held_drew (S := (fun w' : World => Below wT.heap.size wT w' ∧ (w'.cell? ⟨w6.heap.size, 0, none⟩ = some (.slice a6 q c6) ∧ w'.cell? (ad.add k) = some (.slice ya q yc)))) (by kernel_rfl) (FS.out _ H0.out) (fun hHeld => ?_)
    refine wpAnyH_take (i := 0) (v := ?_) (by simp only [List.getElem?_toArray, List.getElem?_cons_succ, List.getElem?_cons_zero]; rfl) (by kernel_rfl) (by kernel_rfl) (by kernel_rfl) (fun _ _ _ h => by exact h) (Or.inl ⟨by rfl, ?_⟩) (by assumption) ?_
    rotate_left
    · (intro w hSw; (try dsimp only at hSw); go_simp; try with_reducible rfl)
    try simp only [Act.put, List.setIfInBounds_toArray, List.set_cons_zero, List.set_cons_succ]
    refine wpAnyH_take (i := 1) (v := ?_) (by simp only [List.getElem?_toArray, List.getElem?_cons_succ, List.getElem?_cons_zero]; rfl) (by kernel_rfl) (by kernel_rfl) (by kernel_rfl) (fun _ _ _ h => by exact h) (Or.inl ⟨by rfl, ?_⟩) (by assumption) ?_
    rotate_left
    · (intro w hSw; (try dsimp only at hSw); go_simp; try with_reducible rfl)
    try simp only [Act.put, List.setIfInBounds_toArray, List.set_cons_zero, List.set_cons_succ]
    refine wpAnyH_take (i := 2) (v := ?_) (by simp only [List.getElem?_toArray, List.getElem?_cons_succ, List.getElem?_cons_zero]; rfl) (by kernel_rfl) (by kernel_rfl) (by kernel_rfl) (fun _ _ _ h => by exact h) (Or.inl ⟨by rfl, ?_⟩) (by assumption) ?_
    rotate_left
    · (intro w hSw; (try dsimp only at hSw); go_simp; try with_reducible rfl)
    try simp only [Act.put, List.setIfInBounds_toArray, List.set_cons_zero, List.set_cons_succ]
    refine wpAnyH_take (i := 3) (v := ?_) (by simp only [List.getElem?_toArray, List.getElem?_cons_succ, List.getElem?_cons_zero]; rfl) (by kernel_rfl) (by kernel_rfl) (by kernel_rfl) (fun _ _ _ h => by exact h) (Or.inl ⟨by rfl, ?_⟩) (by assumption) ?_
    rotate_left
    · (intro w hSw; (try dsimp only at hSw); go_simp; try with_reducible rfl)
    try simp only [Act.put, List.setIfInBounds_toArray, List.set_cons_zero, List.set_cons_succ]
    refine wpAnyH_take (i := 4) (v := ?_) (by simp only [List.getElem?_toArray, List.getElem?_cons_succ, List.getElem?_cons_zero]; rfl) (by kernel_rfl) (by kernel_rfl) (by kernel_rfl) (fun _ _ _ h => by exact h) (Or.inl ⟨by rfl, ?_⟩) (by assumption) ?_
    rotate_left
    · (intro w hSw; (try dsimp only at hSw); go_simp; try with_reducible rfl)
    try simp only [Act.put, List.setIfInBounds_toArray, List.set_cons_zero, List.set_cons_succ]
    refine wpAnyH_take (i := 5) (v := ?_) (by simp only [List.getElem?_toArray, List.getElem?_cons_succ, List.getElem?_cons_zero]; rfl) (by kernel_rfl) (by kernel_rfl) (by kernel_rfl) (fun _ _ _ h => by exact h) (Or.inl ⟨by rfl, ?_⟩) (by assumption) ?_
    rotate_left
    · (intro w hSw; (try dsimp only at hSw); go_simp; try with_reducible rfl)
    try simp only [Act.put, List.setIfInBounds_toArray, List.set_cons_zero, List.set_cons_succ]
    refine wpAnyH_take (i := 6) (v := ?_) (by simp only [List.getElem?_toArray, List.getElem?_cons_succ, List.getElem?_cons_zero]; rfl) (by kernel_rfl) (by kernel_rfl) (by kernel_rfl) (fun _ _ _ h => by exact h) (Or.inl ⟨by rfl, ?_⟩) (by assumption) ?_
    rotate_left
    · (intro w hSw; (try dsimp only at hSw); go_simp; try with_reducible rfl)
    try simp only [Act.put, List.setIfInBounds_toArray, List.set_cons_zero, List.set_cons_succ]
    refine wpAnyH_take (i := 7) (v := ?_) (by simp only [List.getElem?_toArray, List.getElem?_cons_succ, List.getElem?_cons_zero]; rfl) (by kernel_rfl) (by kernel_rfl) (by kernel_rfl) (fun _ _ _ h => by exact h) (Or.inl ⟨by rfl, ?_⟩) (by assumption) ?_
    rotate_left
    · (intro w hSw; (try dsimp only at hSw); go_simp; try with_reducible rfl)
    try simp only [Act.put, List.setIfInBounds_toArray, List.set_cons_zero, List.set_cons_succ]
    refine wpAnyH_ready (rs := [8]) (by kernel_rfl) (by simp) ?_
    refine AllReadyH.cons (by simp only [List.getElem?_toArray, List.getElem?_cons_succ, List.getElem?_cons_zero]; rfl) (fun K hK => ?_) AllReadyH.nil
    go_simp
    (go_at_call 7; refine (C1.out _ _ _ _ (HR5.out.below H0.out) HL5.out (HB6.out.trans (H0.out.mono HB6.out.size))).mono ?_; rintro e wa ⟨rfl, hba⟩; have H1 := Lib.hid (H0.out.trans (hba.mono H0.out.size)); clear hba)
    try go_wp2_with fail
    refine hK.out _ _ ?_ (fun hHeld => ?_)
    · exact FS.out _ H1.out
    clear hK K
    try simp only [Act.put, List.setIfInBounds_toArray, List.set_cons_zero, List.set_cons_succ]
    refine wpAnyH_take (i := 9) (v := ?_) (by simp only [List.getElem?_toArray, List.getElem?_cons_succ, List.getElem?_cons_zero]; rfl) (by kernel_rfl) (by kernel_rfl) (by kernel_rfl) (fun _ _ _ h => by exact h) (Or.inl ⟨by rfl, ?_⟩) (by assumption) ?_
    rotate_left
    · (intro w hSw; (try dsimp only at hSw); go_simp; try with_reducible rfl)
    try simp only [Act.put, List.setIfInBounds_toArray, List.set_cons_zero, List.set_cons_succ]
    refine wpAnyH_take (i := 10) (v := ?_) (by simp only [List.getElem?_toArray, List.getElem?_cons_succ, List.getElem?_cons_zero]; rfl) (by kernel_rfl) (by kernel_rfl) (by kernel_rfl) (fun _ _ _ h => by exact h) (Or.inl ⟨by rfl, ?_⟩) (by assumption) ?_
    rotate_left
    · (intro w hSw; (try dsimp only at hSw); go_simp; try with_reducible rfl)
    try simp only [Act.put, List.setIfInBounds_toArray, List.set_cons_zero, List.set_cons_succ]
    refine wpAnyH_take (i := 11) (v := ?_) (by simp only [List.getElem?_toArray, List.getElem?_cons_succ, List.getElem?_cons_zero]; rfl) (by kernel_rfl) (by kernel_rfl) (by kernel_rfl) (fun _ _ _ h => by exact h) (Or.inl ⟨by rfl, ?_⟩) (by assumption) ?_
    rotate_left
    · (intro w hSw; (try dsimp only at hSw); go_simp; try with_reducible rfl)
    try simp only [Act.put, List.setIfInBounds_toArray, List.set_cons_zero, List.set_cons_succ]
    refine wpAnyH_take (i := 12) (v := ?_) (by simp only [List.getElem?_toArray, List.getElem?_cons_succ, List.getElem?_cons_zero]; rfl) (by kernel_rfl) (by kernel_rfl) (by kernel_rfl) (fun _ _ _ h => by exact h) (Or.inl ⟨by rfl, ?_⟩) (by assumption) ?_
    rotate_left
    · (intro w hSw; (try dsimp only at hSw); go_simp; try with_reducible rfl)
    try simp only [Act.put, List.setIfInBounds_toArray, List.set_cons_zero, List.set_cons_succ]
    refine wpAnyH_take (i := 13) (v := ?_) (by simp only [List.getElem?_toArray, List.getElem?_cons_succ, List.getElem?_cons_zero]; rfl) (by kernel_rfl) (by kernel_rfl) (by kernel_rfl) (fun _ _ _ h => by exact h) (Or.inl ⟨by rfl, ?_⟩) (by assumption) ?_
    rotate_left
    · (intro w hSw; (try dsimp only at hSw); go_simp; try with_reducible rfl)
    try simp only [Act.put, List.setIfInBounds_toArray, List.set_cons_zero, List.set_cons_succ]
    refine wpAnyH_take (i := 14) (v := ?_) (by simp only [List.getElem?_toArray, List.getElem?_cons_succ, List.getElem?_cons_zero]; rfl) (by kernel_rfl) (by kernel_rfl) (by kernel_rfl) (fun _ _ _ h => by exact h) (Or.inl ⟨by rfl, ?_⟩) (by assumption) ?_
    rotate_left
    · (intro w hSw; (try dsimp only at hSw); go_simp; try with_reducible rfl)
    try simp only [Act.put, List.setIfInBounds_toArray, List.set_cons_zero, List.set_cons_succ]
    refine wpAnyH_take (i := 15) (v := ?_) (by simp only [List.getElem?_toArray, List.getElem?_cons_succ, List.getElem?_cons_zero]; rfl) (by kernel_rfl) (by kernel_rfl) (by kernel_rfl) (fun _ _ _ h => by exact h) (Or.inl ⟨by rfl, ?_⟩) (by assumption) ?_
    rotate_left
    · (intro w hSw; (try dsimp only at hSw); go_simp; try with_reducible rfl)
    try simp only [Act.put, List.setIfInBounds_toArray, List.set_cons_zero, List.set_cons_succ]
    refine wpAnyH_take (i := 16) (v := ?_) (by simp only [List.getElem?_toArray, List.getElem?_cons_succ, List.getElem?_cons_zero]; rfl) (by kernel_rfl) (by kernel_rfl) (by kernel_rfl) (fun _ _ _ h => by exact h) (Or.inl ⟨by rfl, ?_⟩) (by assumption) ?_
    rotate_left
    · (intro w hSw; (try dsimp only at hSw); go_simp; try with_reducible rfl)
    try simp only [Act.put, List.setIfInBounds_toArray, List.set_cons_zero, List.set_cons_succ]
    refine wpAnyH_ready (rs := [17]) (by kernel_rfl) (by simp) ?_
    refine AllReadyH.cons (by simp only [List.getElem?_toArray, List.getElem?_cons_succ, List.getElem?_cons_zero]; rfl) (fun K hK => ?_) AllReadyH.nil
    go_simp
    (go_at_call 13; refine (C2.out _ _ _ (HR6.out.below H1.out) (HB6.out.trans (H1.out.mono HB6.out.size))).mono ?_; rintro e wb ⟨rfl, hbb⟩; have H2 := Lib.hid (H1.out.trans (hbb.mono H1.out.size)); clear hbb)
    try go_wp2_with fail
    refine hK.out _ _ ?_ (fun hHeld => ?_)
    · exact FS.out _ H2.out
    clear hK K
    try simp only [Act.put, List.setIfInBounds_toArray, List.set_cons_zero, List.set_cons_succ]
    refine wpAnyH_take (i := 18) (v := ?_) (by simp only [List.getElem?_toArray, List.getElem?_cons_succ, List.getElem?_cons_zero]; rfl) (by kernel_rfl) (by kernel_rfl) (by kernel_rfl) (fun _ _ _ h => by exact h) (Or.inl ⟨by rfl, ?_⟩) (by assumption) ?_
    rotate_left
    · (intro w hSw; (try dsimp only at hSw); go_simp; try with_reducible rfl)
    try simp only [Act.put, List.setIfInBounds_toArray, List.set_cons_zero, List.set_cons_succ]
    refine wpAnyH_take (i := 19) (v := ?_) (by simp only [List.getElem?_toArray, List.getElem?_cons_succ, List.getElem?_cons_zero]; rfl) (by kernel_rfl) (by kernel_rfl) (by kernel_rfl) (fun _ _ _ h => by exact h) (Or.inl ⟨by rfl, ?_⟩) (by assumption) ?_
    rotate_left
    · (intro w hSw; (try dsimp only at hSw); go_simp; try with_reducible rfl)
    try simp only [Act.put, List.setIfInBounds_toArray, List.set_cons_zero, List.set_cons_succ]
    refine wpAnyH_take (i := 20) (v := ?_) (by simp only [List.getElem?_toArray, List.getElem?_cons_succ, List.getElem?_cons_zero]; rfl) (by kernel_rfl) (by kernel_rfl) (by kernel_rfl) (fun _ _ _ h => by exact h) (Or.inl ⟨by rfl, ?_⟩) (by assumption) ?_
    rotate_left
    · (intro w hSw; (try dsimp only at hSw); go_simp; try with_reducible rfl)
    try simp only [Act.put, List.setIfInBounds_toArray, List.set_cons_zero, List.set_cons_succ]
    refine wpAnyH_take (i := 21) (v := ?_) (by simp only [List.getElem?_toArray, List.getElem?_cons_succ, List.getElem?_cons_zero]; rfl) (by kernel_rfl) (by kernel_rfl) (by kernel_rfl) (fun _ _ _ h => by exact h) (Or.inl ⟨by rfl, ?_⟩) (by assumption) ?_
    rotate_left
    · (intro w hSw; (try dsimp only at hSw); go_simp; try with_reducible rfl)
    try simp only [Act.put, List.setIfInBounds_toArray, List.set_cons_zero, List.set_cons_succ]
    refine wpAnyH_ready (rs := [22]) (by kernel_rfl) (by simp) ?_
    refine AllReadyH.cons (by simp only [List.getElem?_toArray, List.getElem?_cons_succ, List.getElem?_cons_zero]; rfl) (fun K hK => ?_) AllReadyH.nil
    go_simp
    (go_at_call 7; refine (C3.out _ (HB6.out.trans (H2.out.mono HB6.out.size))).mono ?_; rintro e wc ⟨rfl, hbc⟩; have H3 := Lib.hid (H2.out.trans (hbc.mono H2.out.size)); clear hbc)
    try go_wp2_with fail
    refine hK.out _ _ ?_ (fun hHeld => ?_)
    · exact FS.out _ H3.out
    clear hK K
    try simp only [Act.put, List.setIfInBounds_toArray, List.set_cons_zero, List.set_cons_succ]
    refine wpAnyH_take (i := 23) (v := ?_) (by simp only [List.getElem?_toArray, List.getElem?_cons_succ, List.getElem?_cons_zero]; rfl) (by kernel_rfl) (by kernel_rfl) (by kernel_rfl) (fun _ _ _ h => by exact h) (Or.inl ⟨by rfl, ?_⟩) (by assumption) ?_
    rotate_left
    · (intro w hSw; (try dsimp only at hSw); go_simp; try with_reducible rfl)
    try simp only [Act.put, List.setIfInBounds_toArray, List.set_cons_zero, List.set_cons_succ]
    refine wpAnyH_take (i := 24) (v := ?_) (by simp only [List.getElem?_toArray, List.getElem?_cons_succ, List.getElem?_cons_zero]; rfl) (by kernel_rfl) (by kernel_rfl) (by kernel_rfl) (fun _ _ _ h => by exact h) (Or.inl ⟨by rfl, ?_⟩) (by assumption) ?_
    rotate_left
    · (intro w hSw; (try dsimp only at hSw); go_simp; try with_reducible rfl)
    try simp only [Act.put, List.setIfInBounds_toArray, List.set_cons_zero, List.set_cons_succ]
    refine wpAnyH_ready (rs := [25]) (by kernel_rfl) (by simp) ?_
    refine AllReadyH.cons (by simp only [List.getElem?_toArray, List.getElem?_cons_succ, List.getElem?_cons_zero]; rfl) (fun K hK => ?_) AllReadyH.nil
    go_simp
    (go_at_call 6; refine (lives24_any _).mono ?_; rintro e wd ⟨rfl, hbd⟩; have H4 := Lib.hid (H3.out.trans (hbd.mono H3.out.size)); clear hbd)
    try go_wp2_with fail
    refine hK.out _ _ ?_ (fun hHeld => ?_)
    · exact FS.out _ H4.out
    clear hK K
    try simp only [Act.put, List.setIfInBounds_toArray, List.set_cons_zero, List.set_cons_succ]
    refine wpAnyH_take (i := 26) (v := ?_) (by simp only [List.getElem?_toArray, List.getElem?_cons_succ, List.getElem?_cons_zero]; rfl) (by kernel_rfl) (by kernel_rfl) (by kernel_rfl) (fun _ _ _ h => by exact h) (Or.inl ⟨by rfl, ?_⟩) (by assumption) ?_
    rotate_left
    · (intro w hSw; (try dsimp only at hSw); go_simp; try with_reducible rfl)
    try simp only [Act.put, List.setIfInBounds_toArray, List.set_cons_zero, List.set_cons_succ]
    refine wpAnyH_take (i := 27) (v := ?_) (by simp only [List.getElem?_toArray, List.getElem?_cons_succ, List.getElem?_cons_zero]; rfl) (by kernel_rfl) (by kernel_rfl) (by kernel_rfl) (fun _ _ _ h => by exact h) (Or.inl ⟨by rfl, ?_⟩) (by assumption) ?_
    rotate_left
    · (intro w hSw; (try dsimp only at hSw); go_simp; try with_reducible rfl)
    try simp only [Act.put, List.setIfInBounds_toArray, List.set_cons_zero, List.set_cons_succ]
    refine wpAnyH_done (by kernel_rfl) ?_ _
    go_wp2
    go_ret
    exact ⟨by simp, HLB.out.trans (H4.out.mono HLB.out.size)⟩

theorem stackPushes_walk (a : Option Addr) (l : List EPc) (c : Nat) (sa : Option Addr) (sl : List Edt) (sc : Nat) (w : World) (fp : SPcs w ⟨a, l, c⟩) (ff : ∀ x ∈ l, (x.l.length ≤ x.c ∧ x.c ≤ maxLen) ∧ ∀ y ∈ x.l, y.fits) (gp : EPcs w ⟨sa, sl, sc⟩) (gl : sl.length ≤ sc ∧ sc ≤ maxLen) (gf : ∀ x ∈ sl, x.fits) :
    Calls Try.prog 3 #[.slice a l.length c, .agg #[.slice sa sl.length sc]] w fun e w' => e = .returned (.bool true) ∧ Below w.heap.size w w' := by
  by_cases h : fewS l = false ∨ 40 < sl.length
  · exact stackPushes_out a l c sa sl sc w fp ff gl h
  · have h1 : fewS l = true := by
      cases hf : fewS l
      · exact absurd (.inl hf) h
      · rfl
    exact stackPushes_in a l c sa sl sc w fp gp ff h1 (by omega)
end Go.Proofs.Ythboipmlkgmofaa
