/-
  The laws on steps (layer 23): StepAdds. (Its last region is written by gen_adds23.py.)
-/
import Derived.Test.YtbghfifcbpcmbaaLawStep
import Derived.Deep.DeepCutAuto
import Derived.Deep.AppendLies
namespace Go.Proofs.Ytbghfifcbpcmbaa
open Go.RowKit
set_option linter.unusedVariables false
set_option linter.unusedSimpArgs false

/-- The boxes of a step and of an edit that came in. -/
structure Two (w : World) (a : Option Addr) (l : List Edt) (c : Nat) (x : Edt) (n : Nat) (W : World) : Prop where
  below : Below w.heap.size w W
  size : w.heap.size + 2 ≤ W.heap.size
  s0 : W.cell? ⟨w.heap.size, 0, none⟩ = some (.slice a n c)
  e0 : W.cell? ⟨w.heap.size + 1, 0, none⟩ = some (.int .i64 x.p)
  e1 : W.cell? ⟨w.heap.size + 1, 1, none⟩ = some (.string x.o)
  e2 : W.cell? ⟨w.heap.size + 1, 2, none⟩ = some (.string x.n)
  row : EPcs W ⟨a, l, c⟩
theorem Two.on {w W W2 : World} {a : Option Addr} {l : List Edt} {c n : Nat} {x : Edt} (h : Two w a l c x n W) (hb : Below W.heap.size W W2) : Two w a l c x n W2 := by
  have hs := h.size
  refine ⟨h.below.trans (hb.mono h.below.size), Nat.le_trans h.size hb.size, (hb.cell (p := ⟨w.heap.size, 0, none⟩) (show w.heap.size < _ by omega)).trans h.s0, (hb.cell (p := ⟨w.heap.size + 1, 0, none⟩) (show w.heap.size + 1 < _ by omega)).trans h.e0,
    (hb.cell (p := ⟨w.heap.size + 1, 1, none⟩) (show w.heap.size + 1 < _ by omega)).trans h.e1, (hb.cell (p := ⟨w.heap.size + 1, 2, none⟩) (show w.heap.size + 1 < _ by omega)).trans h.e2, h.row.later hb⟩
theorem Two.drew {w W : World} {a : Option Addr} {l : List Edt} {c n : Nat} {x : Edt} (h : Two w a l c x n W) : Two w a l c x n W.drew := ⟨h.below.drew, h.size, h.s0, h.e0, h.e1, h.e2, ⟨h.row.row, h.row.nil⟩⟩
theorem two_on {w w1 w2 : World} {a : Option Addr} {l : List Edt} {c n : Nat} {x : Edt} (h : Two w a l c x n w1 ∧ w1.cell? ⟨w.heap.size, 0, none⟩ = some (.slice a n c)) (hb : Below w1.heap.size w1 w2) : Two w a l c x n w2 ∧ w2.cell? ⟨w.heap.size, 0, none⟩ = some (.slice a n c) := ⟨h.1.on hb, (h.1.on hb).s0⟩
theorem Two.new (w : World) (a : Option Addr) (l : List Edt) (c n : Nat) (x : Edt) (hn : l.length = n) (h : EPcs w ⟨a, l, c⟩) : Two w a l c x n ((w.alloc (.cells #[.slice a n c] 24)).alloc (.cells #[.int .i64 x.p, .string x.o, .string x.n] 34)) := by
  have z1 : (w.alloc (.cells #[.slice a n c] 24)).heap.size = w.heap.size + 1 := by simp
  have b1 : Below w.heap.size w (w.alloc (.cells #[.slice a n c] 24)) := (Below.refl _ _).alloc (Nat.le_refl _) _
  have B1 := Blk.new w #[.slice a n c] 24
  obtain ⟨W1, hW1⟩ : ∃ W1, w.alloc (.cells #[.slice a n c] 24) = W1 := ⟨_, rfl⟩
  rw [hW1] at z1 b1 B1 ⊢
  have b2 : Below W1.heap.size W1 (W1.alloc (.cells #[.int .i64 x.p, .string x.o, .string x.n] 34)) := (Below.refl _ _).alloc (Nat.le_refl _) _
  have B2 := Blk.new W1 #[.int .i64 x.p, .string x.o, .string x.n] 34
  have B1 := B1.onto b2
  rw [z1] at B2
  have b3 := b1.trans (b2.mono (by omega))
  exact ⟨b3, by simp [z1], B1.cell 0 _ rfl, B2.cell 0 _ rfl, B2.cell 1 _ rfl, B2.cell 2 _ rfl, h.later b3⟩

set_option maxRecDepth 100000 in
set_option maxHeartbeats 1600000 in
/-- The ways that lead to lives. -/
theorem stepAdds_out (a : Option Addr) (l : List Edt) (c : Nat) (x : Edt) (i : Int) (w : World) (fp : EPcs w ⟨a, l, c⟩) (h : fewE l = false ∨ i < 0 ∨ 10000 < i) :
    Calls Try.prog 4 #[.agg #[.slice a l.length c], x.v, .int .i64 i] w fun e w' => e = .returned (.bool true) ∧ Below w.heap.size w w' := by
  obtain ⟨n, hn⟩ : ∃ n, l.length = n := ⟨_, rfl⟩
  have ht := Two.new w a l c n x hn fp
  obtain ⟨p, o, m⟩ := x
  obtain ⟨W1, hW1⟩ : ∃ W1, w.alloc (.cells #[.slice a n c] 24) = W1 := ⟨_, rfl⟩
  obtain ⟨wX, hwX⟩ : ∃ wX, W1.alloc (.cells #[.int .i64 p, .string o, .string m] 34) = wX := ⟨_, rfl⟩
  simp only at ht
  rw [hW1, hwX] at ht
  have cf := few23_any a l c wX ht.row.row
  rw [hn] at cf ⊢
  have x0 := ht.s0
  obtain ⟨r, hr⟩ : ∃ r, fewE l = r := ⟨_, rfl⟩
  rw [hr] at cf h
  have CF := Lib.hid cf; have HT := Lib.hid ht
  clear cf ht fp hn hr
  cases r with
  | false =>
    clear h
    go_enter Try.func4, Try.ntmps4
    go_wp2_with fail
    refine CF.out.mono ?_; rintro e w0 ⟨rfl, hb0⟩
    have HB0 := Lib.hid (HT.out.below.trans (hb0.mono HT.out.below.size)); clear hb0
    go_wp2_with fail
    refine (lives23_any _).mono ?_; rintro e w1 ⟨rfl, hb1⟩
    have HB := Lib.hid (HB0.out.trans (hb1.mono HB0.out.size)); clear hb1
    go_wp2
    go_ret
    exact ⟨rfl, HB.out⟩
  | true =>
    rcases (show i < 0 ∨ (0 ≤ i ∧ 10000 < i) by rcases h with h | h | h; cases h; exact .inl h; omega) with h | ⟨h0, h⟩
    all_goals
      go_enter Try.func4, Try.ntmps4
      go_wp2_with fail
      refine CF.out.mono ?_; rintro e w0 ⟨rfl, hb0⟩
      have HB0 := Lib.hid (HT.out.below.trans (hb0.mono HT.out.below.size)); clear hb0
      go_wp2_with fail
      refine (lives23_any _).mono ?_; rintro e w1 ⟨rfl, hb1⟩
      have HB := Lib.hid (HB0.out.trans (hb1.mono HB0.out.size)); clear hb1
      go_wp2
      go_ret
      exact ⟨rfl, HB.out⟩

/-- An append in a region that draws, behind a guard that is open. -/
theorem step_append_w {P : Program} (w : World) {ops : Array Oper} {o : Oper} {a : Act} {K : Act → World → Prop} {Q : Exit → Act → World → Prop} {E : Prop} (hw : Region.wanted o (yielded ops a.tmps) = true) (s x : Operand) (t : TypeId)
    (ho : o.op = .call { callee := .builtin .append, args := #[s, x], argTypes := #[t, t] })
    (base : Nat) (e : TypeId) (i : TypeInfo) (z : Value) (size bytes : Nat) (ht : P.underlying t = some (.slice e)) (hi : P.info? e = some i) (hz : i.zero = some z)
    (hsize : i.size = size) (hby : i.bytes = bytes) (hzs : z.cells.size = size) (hsz : 0 < size)
    (v : Value) (n : Nat) (xs : List Value) (hs : a.eval s = v) (hown : w.ownsRow base e size v n xs)
    (ad : Addr) (m c : Nat) (news : List Value) (hx : a.eval x = .slice (some ad) m c) (hl : news.length = m * size) (hnews : ∀ j u, news[j]? = some u → w.cell? (ad.add j) = some u) (h1 : ∀ u ∈ news, u.oneCell' = true)
    (h63 : n + m ≤ maxLen) (hbytes : (n + m) * bytes ≤ 140737488355328) (hbase : base ≤ w.heap.size)
    (h : ∀ v' w', w'.ownsRow base e size v' (n + m) (xs ++ news) → w.grownBy w' v.ownBlock → (v' = .slice none 0 0 ↔ v = .slice none 0 0 ∧ m = 0) → K (a.put o.dst v') w') :
    if Region.wanted o (yielded ops a.tmps) = true then Oper.wp P o a w K Q else E := by
  rw [if_pos hw]
  exact wp_append_own w s x t ho base e i z size bytes ht hi hz hsize hby hzs hsz v n xs hs hown ad m c news hx hl hnews h1 h63 hbytes hbase h
theorem blk_news {w : World} {b : Nat} {p : Int} {o m : ByteArray} {t : TypeId} (h : Blk w b #[.int .i64 p, .string o, .string m] t) : ∀ j u, ([.int .i64 p, .string o, .string m] : List Value)[j]? = some u → w.cell? ((⟨b, 0, none⟩ : Addr).add j) = some u := by
  intro j u hj
  match j, hj with
  | 0, hj => simp at hj; subst hj; exact h.cell 0 _ rfl
  | 1, hj => simp at hj; subst hj; exact h.cell 1 _ rfl
  | 2, hj => simp at hj; subst hj; exact h.cell 2 _ rfl
/-- A box of a step that the law made. -/
theorem tbox (w : World) (v : Value) : Blk (w.alloc (.cells #[v] 24)) w.heap.size #[v] 24 ∧ Below w.heap.size w (w.alloc (.cells #[v] 24)) := ⟨Blk.new _ _ _, (Below.refl _ _).alloc (Nat.le_refl _) _⟩

set_option maxRecDepth 100000 in
set_option maxHeartbeats 1600000 in
/-- What the law has made ahead of its tests: the copy of the edits. -/
theorem stepAdds_in (a : Option Addr) (l : List Edt) (c : Nat) (x : Edt) (i : Int) (w : World) (fp : EPcs w ⟨a, l, c⟩) (fl : l.length ≤ c ∧ c ≤ maxLen) (h : fewE l = true) (h0 : 0 ≤ i) (h1 : i ≤ 10000) :
    Calls Try.prog 4 #[.agg #[.slice a l.length c], x.v, .int .i64 i] w fun e w' => e = .returned (.bool true) ∧ Below w.heap.size w w' := by
  obtain ⟨i0, hi, hz0, hz1, hz2⟩ := info_parts edt_info
  obtain ⟨hl, hz, hpl⟩ := fewE_z h
  have hz := hz.mono (show 600 ≤ 4294967296 by decide)
  have hpl2 : Edtp l := fun x hx => by have := hpl x hx; omega
  obtain ⟨n, hn⟩ : ∃ n, l.length = n := ⟨_, rfl⟩
  have ht := Two.new w a l c n x hn fp
  obtain ⟨p, o, m⟩ := x
  obtain ⟨W1, hW1⟩ : ∃ W1, w.alloc (.cells #[.slice a n c] 24) = W1 := ⟨_, rfl⟩
  obtain ⟨wX, hwX⟩ : ∃ wX, W1.alloc (.cells #[.int .i64 p, .string o, .string m] 34) = wX := ⟨_, rfl⟩
  simp only at ht
  have hz1w : W1.heap.size = w.heap.size + 1 := by rw [← hW1]; simp
  rw [hW1, hwX] at ht
  have cf := few23_any a l c wX ht.row.row
  rw [hn, h] at cf
  have c1 := fun W (h : Two w a l c ⟨p, o, m⟩ n W) => sadd_any a l c ⟨p, o, m⟩ W h.row (by omega)
  have c2 := fun W (h : Two w a l c ⟨p, o, m⟩ n W) => sadd_any a l c ⟨0, ⟨#[]⟩, ⟨#[]⟩⟩ W h.row (by omega)
  have c3 := fun W (h : Two w a l c ⟨p, o, m⟩ n W) => sshift_any a l c i W h.row.row (by omega) hz hpl2 (by omega)
  have c4 := fun W (h : Two w a l c ⟨p, o, m⟩ n W) => rshift23_any a l c i W h.row.row (by omega) hz hpl2 (by omega)
  have c5 : ∀ a3 c3 a4 c4 W, ERow W 0 ⟨a3, l ++ [⟨p, o, m⟩], c3⟩ → ERow W 0 ⟨a4, l ++ [⟨p, o, m⟩], c4⟩ → Calls Try.prog 11 #[stpV a3 (n + 1) c3, stpV a4 (n + 1) c4] W fun e w' => e = .returned (.bool true) ∧ Below W.heap.size W w' := fun a3 c3 a4 c4 W h3 h4 => by
    have e1 : (l ++ [(⟨p, o, m⟩ : Edt)]).length = n + 1 := by rw [List.length_append, hn]; rfl
    have h := rsame23_any a3 a4 _ _ c3 c4 W h3.in.row h4.in.row (by rw [e1]; omega) (by rw [e1]; omega)
    rw [decide_eq_true rfl, e1] at h
    exact h
  have c6 : ∀ a3 c3 a4 c4 W, Edts W (· < W.heap.size) a3 l → Edts W (· < W.heap.size) a4 l → Calls Try.prog 11 #[stpV a3 n c3, stpV a4 n c4] W fun e w' => e = .returned (.bool true) ∧ Below W.heap.size W w' := fun a3 c3 a4 c4 W h3 h4 => by
    have h := rsame23_any a3 a4 _ _ c3 c4 W h3 h4 (by omega) (by omega)
    rw [decide_eq_true rfl, hn] at h
    exact h
  have C5 := Lib.hid c5; have C6 := Lib.hid c6; clear c5 c6
  obtain ⟨j, hj⟩ : ∃ j, shiftS i l = j := ⟨_, rfl⟩
  rw [hn, hj] at c3 c4
  have hfl := Edt.flat_len l
  have hofl := eone_flat l
  have hlc := fl.1
  have hcm := fl.2
  unfold maxLen at hcm
  have hnil : a = none → l = [] ∧ c = 0 := fun e => ⟨fp.len e, fp.nil e⟩
  rw [hn] at hl hlc hfl c1 c2 ⊢
  have HT := Lib.hid ht; have CF := Lib.hid cf; have C1 := Lib.hid c1; have C2 := Lib.hid c2; have C3 := Lib.hid c3; have C4 := Lib.hid c4; have HN := Lib.hid hn
  have HFL := Lib.hid hfl; have HOF := Lib.hid hofl; have HNIL := Lib.hid hnil; have HZ1 := Lib.hid hz1w
  clear ht cf c1 c2 c3 c4 fp fl h hz hpl hpl2 hj hn hfl hofl hnil hz1w
  have x0 := HT.out.s0
  go_enter Try.func4, Try.ntmps4
  go_wp2_with fail
  refine CF.out.mono ?_; rintro e w1 ⟨rfl, hb1⟩
  have HT1 := Lib.hid (HT.out.on hb1)
  clear hb1 x0
  have y0 := HT1.out.s0
  go_upto_region 3 with fail
  go_cut [7] (fun v wx => ∃ ad cv, v = .slice (some ad) n cv ∧ ERow wx 0 ⟨some ad, l, cv⟩ ∧ Two w a l c ⟨p, o, m⟩ n wx)
  case first =>
    have hown : (w1.alloc (.cells #[] 34)).ownsRow w1.heap.size 34 3 (.slice (some ⟨w1.heap.size, 0, none⟩) 0 0) 0 [] := World.ownsRow_made w1 #[] 0 (Nat.le_refl _) (Nat.zero_le _) (by simp)
    have hbA : Below w1.heap.size w1 (w1.alloc (.cells #[] 34)) := (Below.refl _ _).alloc (Nat.le_refl _) _
    have z0 := (hbA.cell (p := ⟨w.heap.size, 0, none⟩) (show w.heap.size < _ by have := HT1.out.size; omega)).trans y0
    cases a with
    | none =>
      obtain ⟨l0, c0⟩ := HNIL.out rfl
      have n0 : n = 0 := by rw [← HN.out, l0]; rfl
      subst l0
      subst c0
      subst n0
      have HTA := Lib.hid (HT1.out.on hbA)
      go_wp2_with (at_builtin; refine wpList_append_own_none rfl _ _ 22 rfl w1.heap.size 34 i0 3 Try.underlying22 hi _ _ _ rfl hown rfl ?_)
      go_meet
      exact ⟨_, _, rfl, ⟨fun k hk => absurd hk (by simp), (fun e => by cases e), Nat.le_refl _, Nat.zero_le _⟩, HTA.out⟩
    | some ad =>
      have HNW := Lib.hid (edts_news (HT1.out.on hbA).row.row)
      go_wp2_with (at_builtin; refine wpList_append_own _ rfl _ _ 22 rfl w1.heap.size 34 i0 _ 3 40 Try.underlying22 hi hz0 hz1 hz2 rfl (by decide) _ _ _ rfl hown ad n c (Edt.flat l) rfl HFL.out HNW.out HOF.out (by unfold maxLen; omega) (by omega) hbA.size ?_; intro v1 w2 ho1 hg1 hnn)
      have hb2 : Below w1.heap.size w1 w2 := hbA.grown hg1 hbA.size (own_block hown)
      have ho2 : w2.ownsRow w1.heap.size 34 3 v1 l.length (Edt.flat l) := by rw [HN.out]; simpa using ho1
      obtain ⟨av, cv, rfl, hv⟩ := own_erow ho2
      cases av with
      | none =>
        have hc0 : cv = 0 := hv.nil rfl
        have hle : l.length ≤ cv := hv.le
        have := (hnn.1 (by rw [hc0]; congr 1; omega)).1
        cases this
      | some av =>
        have HV := Lib.hid (hv.mono (Nat.zero_le _)); have HT2 := Lib.hid (HT1.out.on hb2)
        rw [HN.out]
        clear hv hb2 ho1 ho2 hg1 hown hbA hnn y0 z0
        go_wp2
        go_meet
        exact ⟨av, cv, rfl, HV.out, HT2.out⟩
  case rest =>
    obtain ⟨ad, cv, rfl, hv, ht2⟩ := hcut
    have HV := Lib.hid hv; have HT2 := Lib.hid ht2
    clear hv ht2 y0 hW1 hwX HNIL HT HT1
    have s0 := HT2.out.s0
    have s1 := HT2.out.e0
    have s2 := HT2.out.e1
    have s3 := HT2.out.e2
    rw [← HZ1.out] at s1 s2 s3
    go_wp2_with fail
    refine (C1.out _ HT2.out).mono ?_
    by_cases hm32 : 32 ≤ n
    · have ea : ∀ x, addS l x = ([], 9) := fun x => by unfold addS; rw [if_pos (by rw [HN.out]; exact hm32)]
      rw [ea]
      rintro e w3 ⟨a3, c3, rfl, hr3, hb3⟩
      obtain ⟨b3, hb3b⟩ := tbox w3 (.slice a3 0 c3)
      obtain ⟨W3, hW3⟩ : ∃ W3, w3.alloc (.cells #[.slice a3 0 c3] 24) = W3 := ⟨_, rfl⟩
      rw [hW3] at b3 hb3b
      have HT3 := Lib.hid ((HT2.out.on hb3).on hb3b); have HK3 := Lib.hid b3
      have s0 := HT3.out.s0
      clear s1 s2 s3 hb3 hb3b b3 hr3
      simp only [List.length_nil]
      go_wp2_with fail
      refine (C2.out _ HT3.out).mono ?_
      rw [ea]
      rintro e w4 ⟨a4, c4, rfl, hr4, hb4⟩
      obtain ⟨b4, hb4b⟩ := tbox w4 (.slice a4 0 c4)
      obtain ⟨W4, hW4⟩ : ∃ W4, w4.alloc (.cells #[.slice a4 0 c4] 24) = W4 := ⟨_, rfl⟩
      rw [hW4] at b4 hb4b
      have HT4 := Lib.hid ((HT3.out.on hb4).on hb4b); have HK4 := Lib.hid ((HK3.out.onto hb4).onto hb4b)
      have s0 := HT4.out.s0
      have k0 := HK4.out.cell 0 _ rfl
      have hm3 : (32 : Int) ≤ (n : Int) := by omega
      clear hb4 hb4b b4 hr4 ea hW3
      simp only [List.length_nil]
      go_wp2_with fail
      refine (lives23_any _).mono ?_; rintro e w5 ⟨rfl, hb5⟩
      have HB := Lib.hid (HT4.out.below.trans (hb5.mono HT4.out.below.size)); clear hb5
      go_wp2
      go_ret
      exact ⟨rfl, HB.out⟩
    · have ea : ∀ x, addS l x = (l ++ [x], 0) := fun x => by unfold addS; rw [if_neg (by rw [HN.out]; exact hm32)]
      have el : ∀ x, (l ++ [x]).length = n + 1 := fun x => by rw [List.length_append, HN.out]; rfl
      rw [ea]
      rintro e w3 ⟨a3, c3, rfl, hr3, hb3⟩
      have HEL := Lib.hid el
      simp only [el]
      obtain ⟨b3, hb3b⟩ := tbox w3 (.slice a3 (n + 1) c3)
      obtain ⟨W3, hW3⟩ : ∃ W3, w3.alloc (.cells #[.slice a3 (n + 1) c3] 24) = W3 := ⟨_, rfl⟩
      rw [hW3] at b3 hb3b
      have HT3 := Lib.hid ((HT2.out.on hb3).on hb3b); have HK3 := Lib.hid b3; have HR3 := Lib.hid ((hr3.mono (Nat.zero_le _)).below hb3b)
      have HV3 := Lib.hid ((HV.out.below hb3).below hb3b)
      have s0 := HT3.out.s0
      clear s1 s2 s3 hb3 hb3b b3 hr3 el
      go_wp2_with fail
      refine (C2.out _ HT3.out).mono ?_
      rw [ea]
      rintro e w4 ⟨a4, c4, rfl, hr4, hb4⟩
      simp only [HEL.out]
      obtain ⟨b4, hb4b⟩ := tbox w4 (.slice a4 (n + 1) c4)
      obtain ⟨W4, hW4⟩ : ∃ W4, w4.alloc (.cells #[.slice a4 (n + 1) c4] 24) = W4 := ⟨_, rfl⟩
      rw [hW4] at b4 hb4b
      have HT4 := Lib.hid ((HT3.out.on hb4).on hb4b); have HK4 := Lib.hid ((HK3.out.onto hb4).onto hb4b); have HU4 := Lib.hid b4; have HR4 := Lib.hid ((HR3.out.below hb4).below hb4b); have HV4 := Lib.hid ((HV3.out.below hb4).below hb4b)
      have s0 := HT4.out.s0
      have hm3 : (n : Int) < 32 := by omega
      clear hb4 hb4b b4 hr4 ea hW3
      have w1 : IntKind.i64.wrap ((n : Int) + 1) = (n : Int) + 1 := by rw [IntKind.wrap_i64]; omega
      have fs : ∀ w', Below W4.heap.size W4 w' → Below W4.heap.size W4 w' ∧ w'.cell? ⟨w.heap.size, 0, none⟩ = some (.slice a n c) ∧ w'.cell? ⟨W1.heap.size, 0, none⟩ = some (.int .i64 p) ∧ w'.cell? ⟨W1.heap.size, 1, none⟩ = some (.string o) ∧ w'.cell? ⟨W1.heap.size, 2, none⟩ = some (.string m) ∧ w'.cell? ⟨w3.heap.size, 0, none⟩ = some (.slice a3 (n + 1) c3) ∧ w'.cell? ⟨w4.heap.size, 0, none⟩ = some (.slice a4 (n + 1) c4) := fun w' h => by
        have t := HT4.out.on h
        refine ⟨h, t.s0, ?_, ?_, ?_, (HK4.out.onto h).cell 0 _ rfl, (HU4.out.onto h).cell 0 _ rfl⟩
        · rw [HZ1.out]; exact t.e0
        · rw [HZ1.out]; exact t.e1
        · rw [HZ1.out]; exact t.e2
      have FS := Lib.hid fs
      clear fs
      go_wp2_with fail
      clear hW4
      refine wp_region_held_drew (S := (fun w' : World => Below W4.heap.size W4 w' ∧ w'.cell? ⟨w.heap.size, 0, none⟩ = some (.slice a n c) ∧ w'.cell? ⟨W1.heap.size, 0, none⟩ = some (.int .i64 p) ∧ w'.cell? ⟨W1.heap.size, 1, none⟩ = some (.string o) ∧ w'.cell? ⟨W1.heap.size, 2, none⟩ = some (.string m) ∧ w'.cell? ⟨w3.heap.size, 0, none⟩ = some (.slice a3 (n + 1) c3) ∧ w'.cell? ⟨w4.heap.size, 0, none⟩ = some (.slice a4 (n + 1) c4))) (by kernel_rfl) (FS.out _ (Below.refl W4.heap.size W4).drew) (fun hHeld => ?_)
      refine wpAnyH_take (i := 0) (v := ?_) (by simp only [List.getElem?_toArray, List.getElem?_cons_succ, List.getElem?_cons_zero]; rfl) (by kernel_rfl) (by kernel_rfl) (by kernel_rfl) (fun _ _ _ h => by exact h) (Or.inl ⟨by rfl, ?_⟩) (by assumption) ?_
      rotate_left
      · (intro w hSw; (try dsimp only at hSw); go_simp; try with_reducible rfl)
      try simp only [Act.put, List.setIfInBounds_toArray, List.set_cons_zero, List.set_cons_succ]
      refine wpAnyH_take (i := 1) (v := ?_) (by simp only [List.getElem?_toArray, List.getElem?_cons_succ, List.getElem?_cons_zero]; rfl) (by kernel_rfl) (by kernel_rfl) (by kernel_rfl) (fun _ _ _ h => by exact h) (Or.inl ⟨by rfl, ?_⟩) (by assumption) ?_
      rotate_left
      · (intro w hSw; (try dsimp only at hSw); go_simp; try with_reducible rfl)
      try simp only [Act.put, List.setIfInBounds_toArray, List.set_cons_zero, List.set_cons_succ]
      refine wpAnyH_take (i := 2) (v := ?_) (by simp only [List.getElem?_toArray, List.getElem?_cons_succ, List.getElem?_cons_zero]; rfl) (by kernel_rfl) (by kernel_rfl) (by kernel_rfl) (fun _ _ _ h => by exact h) (Or.inl ⟨by rfl, ?_⟩) (by assumption) ?_
      rotate_left
      · (intro w hSw; (try dsimp only at hSw); go_simp; try with_reducible rfl)
      try simp only [Act.put, List.setIfInBounds_toArray, List.set_cons_zero, List.set_cons_succ]
      refine wpAnyH_take (i := 3) (v := ?_) (by simp only [List.getElem?_toArray, List.getElem?_cons_succ, List.getElem?_cons_zero]; rfl) (by kernel_rfl) (by kernel_rfl) (by kernel_rfl) (fun _ _ _ h => by exact h) (Or.inl ⟨by rfl, ?_⟩) (by assumption) ?_
      rotate_left
      · (intro w hSw; (try dsimp only at hSw); go_simp; try with_reducible rfl)
      try simp only [Act.put, List.setIfInBounds_toArray, List.set_cons_zero, List.set_cons_succ]
      refine wpAnyH_take (i := 4) (v := ?_) (by simp only [List.getElem?_toArray, List.getElem?_cons_succ, List.getElem?_cons_zero]; rfl) (by kernel_rfl) (by kernel_rfl) (by kernel_rfl) (fun _ _ _ h => by exact h) (Or.inl ⟨by rfl, ?_⟩) (by assumption) ?_
      rotate_left
      · (intro w hSw; (try dsimp only at hSw); go_simp; try with_reducible rfl)
      try simp only [Act.put, List.setIfInBounds_toArray, List.set_cons_zero, List.set_cons_succ]
      refine wpAnyH_take (i := 5) (v := ?_) (by simp only [List.getElem?_toArray, List.getElem?_cons_succ, List.getElem?_cons_zero]; rfl) (by kernel_rfl) (by kernel_rfl) (by kernel_rfl) (fun _ _ _ h => by exact h) (Or.inl ⟨by rfl, ?_⟩) (by assumption) ?_
      rotate_left
      · (intro w hSw; (try dsimp only at hSw); go_simp; try with_reducible rfl)
      try simp only [Act.put, List.setIfInBounds_toArray, List.set_cons_zero, List.set_cons_succ]
      refine wpAnyH_take (i := 6) (v := ?_) (by simp only [List.getElem?_toArray, List.getElem?_cons_succ, List.getElem?_cons_zero]; rfl) (by kernel_rfl) (by kernel_rfl) (by kernel_rfl) (fun _ _ _ h => by exact h) (Or.inl ⟨by rfl, ?_⟩) (by assumption) ?_
      rotate_left
      · (intro w hSw; (try dsimp only at hSw); go_simp; try with_reducible rfl)
      try simp only [Act.put, List.setIfInBounds_toArray, List.set_cons_zero, List.set_cons_succ]
      refine wpAnyH_take (i := 7) (v := ?_) (by simp only [List.getElem?_toArray, List.getElem?_cons_succ, List.getElem?_cons_zero]; rfl) (by kernel_rfl) (by kernel_rfl) (by kernel_rfl) (fun _ _ _ h => by exact h) (Or.inl ⟨by rfl, ?_⟩) (by assumption) ?_
      rotate_left
      · (intro w hSw; (try dsimp only at hSw); go_simp; try with_reducible rfl)
      try simp only [Act.put, List.setIfInBounds_toArray, List.set_cons_zero, List.set_cons_succ]
      refine wpAnyH_take (i := 8) (v := ?_) (by simp only [List.getElem?_toArray, List.getElem?_cons_succ, List.getElem?_cons_zero]; rfl) (by kernel_rfl) (by kernel_rfl) (by kernel_rfl) (fun _ _ _ h => by exact h) (Or.inl ⟨by rfl, ?_⟩) (by assumption) ?_
      rotate_left
      · (intro w hSw; (try dsimp only at hSw); go_simp; try with_reducible rfl)
      try simp only [Act.put, List.setIfInBounds_toArray, List.set_cons_zero, List.set_cons_succ]
      refine wpAnyH_take (i := 9) (v := ?_) (by simp only [List.getElem?_toArray, List.getElem?_cons_succ, List.getElem?_cons_zero]; rfl) (by kernel_rfl) (by kernel_rfl) (by kernel_rfl) (fun _ _ _ h => by exact h) (Or.inl ⟨by rfl, ?_⟩) (by assumption) ?_
      rotate_left
      · (intro w hSw; (try dsimp only at hSw); go_simp; try with_reducible rfl)
      try simp only [Act.put, List.setIfInBounds_toArray, List.set_cons_zero, List.set_cons_succ]
      refine wpAnyH_take (i := 10) (v := ?_) (by simp only [List.getElem?_toArray, List.getElem?_cons_succ, List.getElem?_cons_zero]; rfl) (by kernel_rfl) (by kernel_rfl) (by kernel_rfl) (fun _ _ _ h => by exact h) (Or.inl ⟨by rfl, ?_⟩) (by assumption) ?_
      rotate_left
      · (intro w hSw; (try dsimp only at hSw); go_simp; try with_reducible rfl)
      try simp only [Act.put, List.setIfInBounds_toArray, List.set_cons_zero, List.set_cons_succ]
      refine wpAnyH_take (i := 11) (v := ?_) (by simp only [List.getElem?_toArray, List.getElem?_cons_succ, List.getElem?_cons_zero]; rfl) (by kernel_rfl) (by kernel_rfl) (by kernel_rfl) (fun _ _ _ h => by exact h) (Or.inl ⟨by rfl, ?_⟩) (by assumption) ?_
      rotate_left
      · (intro w hSw; (try dsimp only at hSw); go_simp; try with_reducible rfl)
      try simp only [Act.put, List.setIfInBounds_toArray, List.set_cons_zero, List.set_cons_succ]
      refine wpAnyH_take (i := 12) (v := ?_) (by simp only [List.getElem?_toArray, List.getElem?_cons_succ, List.getElem?_cons_zero]; rfl) (by kernel_rfl) (by kernel_rfl) (by kernel_rfl) (fun _ _ _ h => by exact h) (Or.inl ⟨by rfl, ?_⟩) (by assumption) ?_
      rotate_left
      · (intro w hSw; (try dsimp only at hSw); go_simp; try with_reducible rfl)
      try simp only [Act.put, List.setIfInBounds_toArray, List.set_cons_zero, List.set_cons_succ]
      refine wpAnyH_take (i := 13) (v := ?_) (by simp only [List.getElem?_toArray, List.getElem?_cons_succ, List.getElem?_cons_zero]; rfl) (by kernel_rfl) (by kernel_rfl) (by kernel_rfl) (fun _ _ _ h => by exact h) (Or.inl ⟨by rfl, ?_⟩) (by assumption) ?_
      rotate_left
      · (intro w hSw; (try dsimp only at hSw); go_simp; try with_reducible rfl)
      try simp only [Act.put, List.setIfInBounds_toArray, List.set_cons_zero, List.set_cons_succ]
      refine wpAnyH_take (i := 14) (v := ?_) (by simp only [List.getElem?_toArray, List.getElem?_cons_succ, List.getElem?_cons_zero]; rfl) (by kernel_rfl) (by kernel_rfl) (by kernel_rfl) (fun _ _ _ h => by exact h) (Or.inl ⟨by rfl, ?_⟩) (by assumption) ?_
      rotate_left
      · (intro w hSw; (try dsimp only at hSw); go_simp; try with_reducible rfl)
      try simp only [Act.put, List.setIfInBounds_toArray, List.set_cons_zero, List.set_cons_succ]
      refine wpAnyH_take (i := 15) (v := ?_) (by simp only [List.getElem?_toArray, List.getElem?_cons_succ, List.getElem?_cons_zero]; rfl) (by kernel_rfl) (by kernel_rfl) (by kernel_rfl) (fun _ _ _ h => by exact h) (Or.inl ⟨by rfl, ?_⟩) (by assumption) ?_
      rotate_left
      · (intro w hSw; (try dsimp only at hSw); go_simp; try with_reducible rfl)
      try simp only [Act.put, List.setIfInBounds_toArray, List.set_cons_zero, List.set_cons_succ]
      refine wpAnyH_take (i := 16) (v := ?_) (by simp only [List.getElem?_toArray, List.getElem?_cons_succ, List.getElem?_cons_zero]; rfl) (by kernel_rfl) (by kernel_rfl) (by kernel_rfl) (fun _ _ _ h => by exact h) (Or.inl ⟨by rfl, ?_⟩) (by assumption) ?_
      rotate_left
      · (intro w hSw; (try dsimp only at hSw); go_simp; try with_reducible rfl)
      try simp only [Act.put, List.setIfInBounds_toArray, List.set_cons_zero, List.set_cons_succ]
      refine wpAnyH_take (i := 18) (v := ?_) (by simp only [List.getElem?_toArray, List.getElem?_cons_succ, List.getElem?_cons_zero]; rfl) (by kernel_rfl) (by kernel_rfl) (by kernel_rfl) (fun _ _ _ h => by exact h) (Or.inl ⟨by rfl, ?_⟩) (by assumption) ?_
      rotate_left
      · (intro w hSw; (try dsimp only at hSw); go_simp; try with_reducible rfl)
      try simp only [Act.put, List.setIfInBounds_toArray, List.set_cons_zero, List.set_cons_succ]
      refine wpAnyH_take (i := 20) (v := ?_) (by simp only [List.getElem?_toArray, List.getElem?_cons_succ, List.getElem?_cons_zero]; rfl) (by kernel_rfl) (by kernel_rfl) (by kernel_rfl) (fun _ _ _ h => by exact h) (Or.inl ⟨by rfl, ?_⟩) (by assumption) ?_
      rotate_left
      · (intro w hSw; (try dsimp only at hSw); go_simp; try with_reducible rfl)
      try simp only [Act.put, List.setIfInBounds_toArray, List.set_cons_zero, List.set_cons_succ]
      refine wpAnyH_ready (rs := [17, 21]) (by kernel_rfl) (by simp) ?_
      refine AllReadyH.cons (by simp only [List.getElem?_toArray, List.getElem?_cons_succ, List.getElem?_cons_zero]; rfl) (fun K hK => ?_) (AllReadyH.cons (by simp only [List.getElem?_toArray, List.getElem?_cons_succ, List.getElem?_cons_zero]; rfl) (fun K hK => ?_) AllReadyH.nil)
      · go_simp
        have HBA := Lib.hid ((Below.refl W4.heap.size W4).drew.alloc (Below.refl W4.heap.size W4).drew.size (.cells #[] 34)); have HOA := Lib.hid (show (W4.drew.alloc (.cells #[] 34)).ownsRow W4.heap.size 34 3 (.slice (some ⟨W4.drew.heap.size, 0, none⟩) 0 0) 0 [] from World.ownsRow_made W4.drew #[] 0 (Below.refl W4.heap.size W4).drew.size (Nat.zero_le _) (by simp))
        try go_wp2_with fail
        refine hK.out _ _ ?_ (fun hHeld => ?_)
        · exact FS.out _ HBA.out
        clear hK K
        try simp only [Act.put, List.setIfInBounds_toArray, List.set_cons_zero, List.set_cons_succ]
        refine wpAnyH_ready (rs := [19, 21]) (by kernel_rfl) (by simp) ?_
        refine AllReadyH.cons (by simp only [List.getElem?_toArray, List.getElem?_cons_succ, List.getElem?_cons_zero]; rfl) (fun K hK => ?_) (AllReadyH.cons (by simp only [List.getElem?_toArray, List.getElem?_cons_succ, List.getElem?_cons_zero]; rfl) (fun K hK => ?_) AllReadyH.nil)
        · refine step_append_w _ (by rfl) (.tmp 76) (.tmp 77) 22 rfl W4.heap.size 34 i0 _ 3 40 Try.underlying22 hi hz0 hz1 hz2 rfl (by decide) (.slice (some ⟨W4.heap.size, 0, none⟩) 0 0) 0 ([]) rfl HOA.out ad n cv (Edt.flat l) rfl HFL.out (edts_news (HV4.out.below HBA.out).row) HOF.out (by unfold maxLen; omega) (by omega) HBA.out.size ?_
          intro v8 w6 ho6 hg6 _
          have HB6 := Lib.hid (HBA.out.grown hg6 HBA.out.size (own_block HOA.out)); have HO6 := Lib.hid (show w6.ownsRow W4.heap.size 34 3 v8 n (Edt.flat l) by simpa using ho6); skip
          refine hK.out _ _ ?_ (fun hHeld => ?_)
          · exact FS.out _ HB6.out
          clear hK K
          try simp only [Act.put, List.setIfInBounds_toArray, List.set_cons_zero, List.set_cons_succ]
          refine wpAnyH_ready (rs := [21]) (by kernel_rfl) (by simp) ?_
          refine AllReadyH.cons (by simp only [List.getElem?_toArray, List.getElem?_cons_succ, List.getElem?_cons_zero]; rfl) (fun K hK => ?_) AllReadyH.nil
          go_simp
          have HE7 := Lib.hid (Blk.new w6 #[.int .i64 p, .string o, .string m] 34); have HB7 := Lib.hid (HB6.out.alloc HB6.out.size (.cells #[.int .i64 p, .string o, .string m] 34)); have HO7 := Lib.hid (HO6.out.alloc (.cells #[.int .i64 p, .string o, .string m] 34))
          try go_wp2_with fail
          refine hK.out _ _ ?_ (fun hHeld => ?_)
          · exact FS.out _ HB7.out
          clear hK K
          try simp only [Act.put, List.setIfInBounds_toArray, List.set_cons_zero, List.set_cons_succ]
          refine wpAnyH_ready (rs := [22]) (by kernel_rfl) (by simp) ?_
          refine AllReadyH.cons (by simp only [List.getElem?_toArray, List.getElem?_cons_succ, List.getElem?_cons_zero]; rfl) (fun K hK => ?_) AllReadyH.nil
          refine step_append_w _ (by rfl) (.tmp 78) (.tmp 80) 22 rfl W4.heap.size 34 i0 _ 3 40 Try.underlying22 hi hz0 hz1 hz2 rfl (by decide) v8 n (Edt.flat l) rfl HO7.out ⟨w6.heap.size, 0, none⟩ 1 1 [.int .i64 p, .string o, .string m] rfl rfl (blk_news HE7.out) (one_edt _ _ _) (by unfold maxLen; omega) (by omega) (HB7.out).size ?_
          intro v9 w8 ho8 hg8 _
          have HB8 := Lib.hid ((HB7.out).grown hg8 (HB7.out).size (own_block (HO7.out)))
          have ho9 : w8.ownsRow W4.heap.size 34 3 v9 (l ++ [(⟨p, o, m⟩ : Edt)]).length (Edt.flat (l ++ [⟨p, o, m⟩])) := by rw [HEL.out, Edt.flat_app]; exact ho8
          obtain ⟨a8, c8, ev, hr8⟩ := own_erow ho9
          rw [HEL.out] at ev
          subst ev
          have HR8 := Lib.hid (hr8.mono (b2 := 0) (Nat.zero_le _)); clear hr8 ho8 ho9 hg8
          refine hK.out _ _ ?_ (fun hHeld => ?_)
          · exact FS.out _ HB8.out
          clear hK K
          try simp only [Act.put, List.setIfInBounds_toArray, List.set_cons_zero, List.set_cons_succ]
          refine wpAnyH_take (i := 23) (v := ?_) (by simp only [List.getElem?_toArray, List.getElem?_cons_succ, List.getElem?_cons_zero]; rfl) (by kernel_rfl) (by kernel_rfl) (by kernel_rfl) (fun _ _ _ h => by exact h) (Or.inl ⟨by rfl, ?_⟩) (by assumption) ?_
          rotate_left
          · (intro w hSw; (try dsimp only at hSw); go_simp; try with_reducible rfl)
          try simp only [Act.put, List.setIfInBounds_toArray, List.set_cons_zero, List.set_cons_succ]
          refine wpAnyH_ready (rs := [24]) (by kernel_rfl) (by simp) ?_
          refine AllReadyH.cons (by simp only [List.getElem?_toArray, List.getElem?_cons_succ, List.getElem?_cons_zero]; rfl) (fun K hK => ?_) AllReadyH.nil
          go_simp
          (go_at_call 11; refine (C5.out a3 c3 a8 c8 _ (HR4.out.below HB8.out) HR8.out).mono ?_; rintro e w9 ⟨rfl, hb9⟩; have HB9 := Lib.hid (HB8.out.trans (hb9.mono HB8.out.size)); clear hb9)
          try go_wp2_with fail
          refine hK.out _ _ ?_ (fun hHeld => ?_)
          · exact FS.out _ HB9.out
          clear hK K
          try simp only [Act.put, List.setIfInBounds_toArray, List.set_cons_zero, List.set_cons_succ]
          refine wpAnyH_take (i := 25) (v := ?_) (by simp only [List.getElem?_toArray, List.getElem?_cons_succ, List.getElem?_cons_zero]; rfl) (by kernel_rfl) (by kernel_rfl) (by kernel_rfl) (fun _ _ _ h => by exact h) (Or.inl ⟨by rfl, ?_⟩) (by assumption) ?_
          rotate_left
          · (intro w hSw; (try dsimp only at hSw); go_simp; try with_reducible rfl)
          try simp only [Act.put, List.setIfInBounds_toArray, List.set_cons_zero, List.set_cons_succ]
          refine wpAnyH_take (i := 26) (v := ?_) (by simp only [List.getElem?_toArray, List.getElem?_cons_succ, List.getElem?_cons_zero]; rfl) (by kernel_rfl) (by kernel_rfl) (by kernel_rfl) (fun _ _ _ h => by exact h) (Or.inl ⟨by rfl, ?_⟩) (by assumption) ?_
          rotate_left
          · (intro w hSw; (try dsimp only at hSw); go_simp; try with_reducible rfl)
          try simp only [Act.put, List.setIfInBounds_toArray, List.set_cons_zero, List.set_cons_succ]
          refine wpAnyH_take (i := 27) (v := ?_) (by simp only [List.getElem?_toArray, List.getElem?_cons_succ, List.getElem?_cons_zero]; rfl) (by kernel_rfl) (by kernel_rfl) (by kernel_rfl) (fun _ _ _ h => by exact h) (Or.inl ⟨by rfl, ?_⟩) (by assumption) ?_
          rotate_left
          · (intro w hSw; (try dsimp only at hSw); go_simp; try with_reducible rfl)
          try simp only [Act.put, List.setIfInBounds_toArray, List.set_cons_zero, List.set_cons_succ]
          refine wpAnyH_take (i := 28) (v := ?_) (by simp only [List.getElem?_toArray, List.getElem?_cons_succ, List.getElem?_cons_zero]; rfl) (by kernel_rfl) (by kernel_rfl) (by kernel_rfl) (fun _ _ _ h => by exact h) (Or.inl ⟨by rfl, ?_⟩) (by assumption) ?_
          rotate_left
          · (intro w hSw; (try dsimp only at hSw); go_simp; try with_reducible rfl)
          try simp only [Act.put, List.setIfInBounds_toArray, List.set_cons_zero, List.set_cons_succ]
          refine wpAnyH_take (i := 29) (v := ?_) (by simp only [List.getElem?_toArray, List.getElem?_cons_succ, List.getElem?_cons_zero]; rfl) (by kernel_rfl) (by kernel_rfl) (by kernel_rfl) (fun _ _ _ h => by exact h) (Or.inl ⟨by rfl, ?_⟩) (by assumption) ?_
          rotate_left
          · (intro w hSw; (try dsimp only at hSw); go_simp; try with_reducible rfl)
          try simp only [Act.put, List.setIfInBounds_toArray, List.set_cons_zero, List.set_cons_succ]
          refine wpAnyH_take (i := 30) (v := ?_) (by simp only [List.getElem?_toArray, List.getElem?_cons_succ, List.getElem?_cons_zero]; rfl) (by kernel_rfl) (by kernel_rfl) (by kernel_rfl) (fun _ _ _ h => by exact h) (Or.inl ⟨by rfl, ?_⟩) (by assumption) ?_
          rotate_left
          · (intro w hSw; (try dsimp only at hSw); go_simp; try with_reducible rfl)
          try simp only [Act.put, List.setIfInBounds_toArray, List.set_cons_zero, List.set_cons_succ]
          refine wpAnyH_ready (rs := [31]) (by kernel_rfl) (by simp) ?_
          refine AllReadyH.cons (by simp only [List.getElem?_toArray, List.getElem?_cons_succ, List.getElem?_cons_zero]; rfl) (fun K hK => ?_) AllReadyH.nil
          go_simp
          (go_at_call 11; refine (C6.out a c (some ad) cv _ (HT4.out.on HB9.out).row.row (HV4.out.below HB9.out).in.row).mono ?_; rintro e w10 ⟨rfl, hb10⟩; have HB10 := Lib.hid (HB9.out.trans (hb10.mono HB9.out.size)); clear hb10)
          try go_wp2_with fail
          refine hK.out _ _ ?_ (fun hHeld => ?_)
          · exact FS.out _ HB10.out
          clear hK K
          try simp only [Act.put, List.setIfInBounds_toArray, List.set_cons_zero, List.set_cons_succ]
          refine wpAnyH_take (i := 32) (v := ?_) (by simp only [List.getElem?_toArray, List.getElem?_cons_succ, List.getElem?_cons_zero]; rfl) (by kernel_rfl) (by kernel_rfl) (by kernel_rfl) (fun _ _ _ h => by exact h) (Or.inl ⟨by rfl, ?_⟩) (by assumption) ?_
          rotate_left
          · (intro w hSw; (try dsimp only at hSw); go_simp; try with_reducible rfl)
          try simp only [Act.put, List.setIfInBounds_toArray, List.set_cons_zero, List.set_cons_succ]
          refine wpAnyH_take (i := 33) (v := ?_) (by simp only [List.getElem?_toArray, List.getElem?_cons_succ, List.getElem?_cons_zero]; rfl) (by kernel_rfl) (by kernel_rfl) (by kernel_rfl) (fun _ _ _ h => by exact h) (Or.inl ⟨by rfl, ?_⟩) (by assumption) ?_
          rotate_left
          · (intro w hSw; (try dsimp only at hSw); go_simp; try with_reducible rfl)
          try simp only [Act.put, List.setIfInBounds_toArray, List.set_cons_zero, List.set_cons_succ]
          refine wpAnyH_done (by kernel_rfl) ?_ _
          have HT10 := Lib.hid (HT4.out.on HB10.out)
          have s0 := HT10.out.s0
          clear HV4 HR4 HR8 FS HFL HOF HK4 HU4
          go_wp2_with fail
          go_region_held3 (fun w' => Two w a l c ⟨p, o, m⟩ n w' ∧ w'.cell? ⟨w.heap.size, 0, none⟩ = some (.slice a n c))
            (first | exact ⟨HT10.out.drew, s0⟩ | exact two_on (by assumption) hb1)
            (first
              | (go_at_call 15; refine (C3.out _ (show _ ∧ _ by assumption).1).mono ?_; rintro e w1 ⟨rfl, hb1⟩)
              | (go_at_call 16; refine (C4.out _ (show _ ∧ _ by assumption).1).mono ?_; rintro e w1 ⟨rfl, hb1⟩)
              | (go_at_call 6; refine (lives23_any _).mono ?_; rintro e w1 ⟨rfl, hb1⟩))
          go_wp2
          go_ret
          exact ⟨by simp, (show Two w a l c _ n _ ∧ _ by assumption).1.below⟩
        · go_simp
          have HEA := Lib.hid (Blk.new (W4.drew.alloc (.cells #[] 34)) #[.int .i64 p, .string o, .string m] 34); replace HEA := Lib.hid (show Blk _ (W4.heap.size + 1) _ _ by have h := HEA.out; simpa using h); replace HBA := Lib.hid (HBA.out.alloc HBA.out.size (.cells #[.int .i64 p, .string o, .string m] 34)); replace HOA := Lib.hid (HOA.out.alloc (.cells #[.int .i64 p, .string o, .string m] 34))
          try go_wp2_with fail
          refine hK.out _ _ ?_ (fun hHeld => ?_)
          · exact FS.out _ HBA.out
          clear hK K
          try simp only [Act.put, List.setIfInBounds_toArray, List.set_cons_zero, List.set_cons_succ]
          refine wpAnyH_ready (rs := [19]) (by kernel_rfl) (by simp) ?_
          refine AllReadyH.cons (by simp only [List.getElem?_toArray, List.getElem?_cons_succ, List.getElem?_cons_zero]; rfl) (fun K hK => ?_) AllReadyH.nil
          refine step_append_w _ (by rfl) (.tmp 76) (.tmp 77) 22 rfl W4.heap.size 34 i0 _ 3 40 Try.underlying22 hi hz0 hz1 hz2 rfl (by decide) (.slice (some ⟨W4.heap.size, 0, none⟩) 0 0) 0 ([]) rfl HOA.out ad n cv (Edt.flat l) rfl HFL.out (edts_news (HV4.out.below HBA.out).row) HOF.out (by unfold maxLen; omega) (by omega) HBA.out.size ?_
          intro v8 w6 ho6 hg6 _
          have HB6 := Lib.hid (HBA.out.grown hg6 HBA.out.size (own_block HOA.out)); have HO6 := Lib.hid (show w6.ownsRow W4.heap.size 34 3 v8 n (Edt.flat l) by simpa using ho6); have HE6 := Lib.hid (blk_grown HEA.out hg6 (by simp [Value.ownBlock]))
          refine hK.out _ _ ?_ (fun hHeld => ?_)
          · exact FS.out _ HB6.out
          clear hK K
          try simp only [Act.put, List.setIfInBounds_toArray, List.set_cons_zero, List.set_cons_succ]
          refine wpAnyH_ready (rs := [22]) (by kernel_rfl) (by simp) ?_
          refine AllReadyH.cons (by simp only [List.getElem?_toArray, List.getElem?_cons_succ, List.getElem?_cons_zero]; rfl) (fun K hK => ?_) AllReadyH.nil
          refine step_append_w _ (by rfl) (.tmp 78) (.tmp 80) 22 rfl W4.heap.size 34 i0 _ 3 40 Try.underlying22 hi hz0 hz1 hz2 rfl (by decide) v8 n (Edt.flat l) rfl HO6.out ⟨(W4.heap.size + 1), 0, none⟩ 1 1 [.int .i64 p, .string o, .string m] rfl rfl (blk_news HE6.out) (one_edt _ _ _) (by unfold maxLen; omega) (by omega) (HB6.out).size ?_
          intro v9 w8 ho8 hg8 _
          have HB8 := Lib.hid ((HB6.out).grown hg8 (HB6.out).size (own_block (HO6.out)))
          have ho9 : w8.ownsRow W4.heap.size 34 3 v9 (l ++ [(⟨p, o, m⟩ : Edt)]).length (Edt.flat (l ++ [⟨p, o, m⟩])) := by rw [HEL.out, Edt.flat_app]; exact ho8
          obtain ⟨a8, c8, ev, hr8⟩ := own_erow ho9
          rw [HEL.out] at ev
          subst ev
          have HR8 := Lib.hid (hr8.mono (b2 := 0) (Nat.zero_le _)); clear hr8 ho8 ho9 hg8
          refine hK.out _ _ ?_ (fun hHeld => ?_)
          · exact FS.out _ HB8.out
          clear hK K
          try simp only [Act.put, List.setIfInBounds_toArray, List.set_cons_zero, List.set_cons_succ]
          refine wpAnyH_take (i := 23) (v := ?_) (by simp only [List.getElem?_toArray, List.getElem?_cons_succ, List.getElem?_cons_zero]; rfl) (by kernel_rfl) (by kernel_rfl) (by kernel_rfl) (fun _ _ _ h => by exact h) (Or.inl ⟨by rfl, ?_⟩) (by assumption) ?_
          rotate_left
          · (intro w hSw; (try dsimp only at hSw); go_simp; try with_reducible rfl)
          try simp only [Act.put, List.setIfInBounds_toArray, List.set_cons_zero, List.set_cons_succ]
          refine wpAnyH_ready (rs := [24]) (by kernel_rfl) (by simp) ?_
          refine AllReadyH.cons (by simp only [List.getElem?_toArray, List.getElem?_cons_succ, List.getElem?_cons_zero]; rfl) (fun K hK => ?_) AllReadyH.nil
          go_simp
          (go_at_call 11; refine (C5.out a3 c3 a8 c8 _ (HR4.out.below HB8.out) HR8.out).mono ?_; rintro e w9 ⟨rfl, hb9⟩; have HB9 := Lib.hid (HB8.out.trans (hb9.mono HB8.out.size)); clear hb9)
          try go_wp2_with fail
          refine hK.out _ _ ?_ (fun hHeld => ?_)
          · exact FS.out _ HB9.out
          clear hK K
          try simp only [Act.put, List.setIfInBounds_toArray, List.set_cons_zero, List.set_cons_succ]
          refine wpAnyH_take (i := 25) (v := ?_) (by simp only [List.getElem?_toArray, List.getElem?_cons_succ, List.getElem?_cons_zero]; rfl) (by kernel_rfl) (by kernel_rfl) (by kernel_rfl) (fun _ _ _ h => by exact h) (Or.inl ⟨by rfl, ?_⟩) (by assumption) ?_
          rotate_left
          · (intro w hSw; (try dsimp only at hSw); go_simp; try with_reducible rfl)
          try simp only [Act.put, List.setIfInBounds_toArray, List.set_cons_zero, List.set_cons_succ]
          refine wpAnyH_take (i := 26) (v := ?_) (by simp only [List.getElem?_toArray, List.getElem?_cons_succ, List.getElem?_cons_zero]; rfl) (by kernel_rfl) (by kernel_rfl) (by kernel_rfl) (fun _ _ _ h => by exact h) (Or.inl ⟨by rfl, ?_⟩) (by assumption) ?_
          rotate_left
          · (intro w hSw; (try dsimp only at hSw); go_simp; try with_reducible rfl)
          try simp only [Act.put, List.setIfInBounds_toArray, List.set_cons_zero, List.set_cons_succ]
          refine wpAnyH_take (i := 27) (v := ?_) (by simp only [List.getElem?_toArray, List.getElem?_cons_succ, List.getElem?_cons_zero]; rfl) (by kernel_rfl) (by kernel_rfl) (by kernel_rfl) (fun _ _ _ h => by exact h) (Or.inl ⟨by rfl, ?_⟩) (by assumption) ?_
          rotate_left
          · (intro w hSw; (try dsimp only at hSw); go_simp; try with_reducible rfl)
          try simp only [Act.put, List.setIfInBounds_toArray, List.set_cons_zero, List.set_cons_succ]
          refine wpAnyH_take (i := 28) (v := ?_) (by simp only [List.getElem?_toArray, List.getElem?_cons_succ, List.getElem?_cons_zero]; rfl) (by kernel_rfl) (by kernel_rfl) (by kernel_rfl) (fun _ _ _ h => by exact h) (Or.inl ⟨by rfl, ?_⟩) (by assumption) ?_
          rotate_left
          · (intro w hSw; (try dsimp only at hSw); go_simp; try with_reducible rfl)
          try simp only [Act.put, List.setIfInBounds_toArray, List.set_cons_zero, List.set_cons_succ]
          refine wpAnyH_take (i := 29) (v := ?_) (by simp only [List.getElem?_toArray, List.getElem?_cons_succ, List.getElem?_cons_zero]; rfl) (by kernel_rfl) (by kernel_rfl) (by kernel_rfl) (fun _ _ _ h => by exact h) (Or.inl ⟨by rfl, ?_⟩) (by assumption) ?_
          rotate_left
          · (intro w hSw; (try dsimp only at hSw); go_simp; try with_reducible rfl)
          try simp only [Act.put, List.setIfInBounds_toArray, List.set_cons_zero, List.set_cons_succ]
          refine wpAnyH_take (i := 30) (v := ?_) (by simp only [List.getElem?_toArray, List.getElem?_cons_succ, List.getElem?_cons_zero]; rfl) (by kernel_rfl) (by kernel_rfl) (by kernel_rfl) (fun _ _ _ h => by exact h) (Or.inl ⟨by rfl, ?_⟩) (by assumption) ?_
          rotate_left
          · (intro w hSw; (try dsimp only at hSw); go_simp; try with_reducible rfl)
          try simp only [Act.put, List.setIfInBounds_toArray, List.set_cons_zero, List.set_cons_succ]
          refine wpAnyH_ready (rs := [31]) (by kernel_rfl) (by simp) ?_
          refine AllReadyH.cons (by simp only [List.getElem?_toArray, List.getElem?_cons_succ, List.getElem?_cons_zero]; rfl) (fun K hK => ?_) AllReadyH.nil
          go_simp
          (go_at_call 11; refine (C6.out a c (some ad) cv _ (HT4.out.on HB9.out).row.row (HV4.out.below HB9.out).in.row).mono ?_; rintro e w10 ⟨rfl, hb10⟩; have HB10 := Lib.hid (HB9.out.trans (hb10.mono HB9.out.size)); clear hb10)
          try go_wp2_with fail
          refine hK.out _ _ ?_ (fun hHeld => ?_)
          · exact FS.out _ HB10.out
          clear hK K
          try simp only [Act.put, List.setIfInBounds_toArray, List.set_cons_zero, List.set_cons_succ]
          refine wpAnyH_take (i := 32) (v := ?_) (by simp only [List.getElem?_toArray, List.getElem?_cons_succ, List.getElem?_cons_zero]; rfl) (by kernel_rfl) (by kernel_rfl) (by kernel_rfl) (fun _ _ _ h => by exact h) (Or.inl ⟨by rfl, ?_⟩) (by assumption) ?_
          rotate_left
          · (intro w hSw; (try dsimp only at hSw); go_simp; try with_reducible rfl)
          try simp only [Act.put, List.setIfInBounds_toArray, List.set_cons_zero, List.set_cons_succ]
          refine wpAnyH_take (i := 33) (v := ?_) (by simp only [List.getElem?_toArray, List.getElem?_cons_succ, List.getElem?_cons_zero]; rfl) (by kernel_rfl) (by kernel_rfl) (by kernel_rfl) (fun _ _ _ h => by exact h) (Or.inl ⟨by rfl, ?_⟩) (by assumption) ?_
          rotate_left
          · (intro w hSw; (try dsimp only at hSw); go_simp; try with_reducible rfl)
          try simp only [Act.put, List.setIfInBounds_toArray, List.set_cons_zero, List.set_cons_succ]
          refine wpAnyH_done (by kernel_rfl) ?_ _
          have HT10 := Lib.hid (HT4.out.on HB10.out)
          have s0 := HT10.out.s0
          clear HV4 HR4 HR8 FS HFL HOF HK4 HU4
          go_wp2_with fail
          go_region_held3 (fun w' => Two w a l c ⟨p, o, m⟩ n w' ∧ w'.cell? ⟨w.heap.size, 0, none⟩ = some (.slice a n c))
            (first | exact ⟨HT10.out.drew, s0⟩ | exact two_on (by assumption) hb1)
            (first
              | (go_at_call 15; refine (C3.out _ (show _ ∧ _ by assumption).1).mono ?_; rintro e w1 ⟨rfl, hb1⟩)
              | (go_at_call 16; refine (C4.out _ (show _ ∧ _ by assumption).1).mono ?_; rintro e w1 ⟨rfl, hb1⟩)
              | (go_at_call 6; refine (lives23_any _).mono ?_; rintro e w1 ⟨rfl, hb1⟩))
          go_wp2
          go_ret
          exact ⟨by simp, (show Two w a l c _ n _ ∧ _ by assumption).1.below⟩
      · go_simp
        have HEA := Lib.hid (Blk.new W4.drew #[.int .i64 p, .string o, .string m] 34); have HBE := Lib.hid ((Below.refl W4.heap.size W4).drew.alloc (Nat.le_refl _) (.cells #[.int .i64 p, .string o, .string m] 34))
        try go_wp2_with fail
        refine hK.out _ _ ?_ (fun hHeld => ?_)
        · exact FS.out _ HBE.out
        clear hK K
        try simp only [Act.put, List.setIfInBounds_toArray, List.set_cons_zero, List.set_cons_succ]
        refine wpAnyH_ready (rs := [17]) (by kernel_rfl) (by simp) ?_
        refine AllReadyH.cons (by simp only [List.getElem?_toArray, List.getElem?_cons_succ, List.getElem?_cons_zero]; rfl) (fun K hK => ?_) AllReadyH.nil
        go_simp
        have HBA := Lib.hid (HBE.out.alloc HBE.out.size (.cells #[] 34)); have HOA := Lib.hid (show ((W4.drew.alloc (.cells #[.int .i64 p, .string o, .string m] 34)).alloc (.cells #[] 34)).ownsRow W4.heap.size 34 3 (.slice (some ⟨(W4.drew.alloc (.cells #[.int .i64 p, .string o, .string m] 34)).heap.size, 0, none⟩) 0 0) 0 [] from World.ownsRow_made (W4.drew.alloc (.cells #[.int .i64 p, .string o, .string m] 34)) #[] 0 HBE.out.size (Nat.zero_le _) (by simp)); replace HOA := Lib.hid (show World.ownsRow _ _ _ _ (.slice (some ⟨W4.heap.size + 1, 0, none⟩) 0 0) _ _ by have h := HOA.out; simpa using h); replace HEA := Lib.hid (HEA.out.alloc (.cells #[] 34))
        try go_wp2_with fail
        refine hK.out _ _ ?_ (fun hHeld => ?_)
        · exact FS.out _ HBA.out
        clear hK K
        try simp only [Act.put, List.setIfInBounds_toArray, List.set_cons_zero, List.set_cons_succ]
        refine wpAnyH_ready (rs := [19]) (by kernel_rfl) (by simp) ?_
        refine AllReadyH.cons (by simp only [List.getElem?_toArray, List.getElem?_cons_succ, List.getElem?_cons_zero]; rfl) (fun K hK => ?_) AllReadyH.nil
        refine step_append_w _ (by rfl) (.tmp 76) (.tmp 77) 22 rfl W4.heap.size 34 i0 _ 3 40 Try.underlying22 hi hz0 hz1 hz2 rfl (by decide) (.slice (some ⟨W4.heap.size + 1, 0, none⟩) 0 0) 0 ([]) rfl HOA.out ad n cv (Edt.flat l) rfl HFL.out (edts_news (HV4.out.below HBA.out).row) HOF.out (by unfold maxLen; omega) (by omega) HBA.out.size ?_
        intro v8 w6 ho6 hg6 _
        have HB6 := Lib.hid (HBA.out.grown hg6 HBA.out.size (own_block HOA.out)); have HO6 := Lib.hid (show w6.ownsRow W4.heap.size 34 3 v8 n (Edt.flat l) by simpa using ho6); have HE6 := Lib.hid (blk_grown HEA.out hg6 (by simp [Value.ownBlock]))
        refine hK.out _ _ ?_ (fun hHeld => ?_)
        · exact FS.out _ HB6.out
        clear hK K
        try simp only [Act.put, List.setIfInBounds_toArray, List.set_cons_zero, List.set_cons_succ]
        refine wpAnyH_ready (rs := [22]) (by kernel_rfl) (by simp) ?_
        refine AllReadyH.cons (by simp only [List.getElem?_toArray, List.getElem?_cons_succ, List.getElem?_cons_zero]; rfl) (fun K hK => ?_) AllReadyH.nil
        refine step_append_w _ (by rfl) (.tmp 78) (.tmp 80) 22 rfl W4.heap.size 34 i0 _ 3 40 Try.underlying22 hi hz0 hz1 hz2 rfl (by decide) v8 n (Edt.flat l) rfl HO6.out ⟨W4.drew.heap.size, 0, none⟩ 1 1 [.int .i64 p, .string o, .string m] rfl rfl (blk_news HE6.out) (one_edt _ _ _) (by unfold maxLen; omega) (by omega) (HB6.out).size ?_
        intro v9 w8 ho8 hg8 _
        have HB8 := Lib.hid ((HB6.out).grown hg8 (HB6.out).size (own_block (HO6.out)))
        have ho9 : w8.ownsRow W4.heap.size 34 3 v9 (l ++ [(⟨p, o, m⟩ : Edt)]).length (Edt.flat (l ++ [⟨p, o, m⟩])) := by rw [HEL.out, Edt.flat_app]; exact ho8
        obtain ⟨a8, c8, ev, hr8⟩ := own_erow ho9
        rw [HEL.out] at ev
        subst ev
        have HR8 := Lib.hid (hr8.mono (b2 := 0) (Nat.zero_le _)); clear hr8 ho8 ho9 hg8
        refine hK.out _ _ ?_ (fun hHeld => ?_)
        · exact FS.out _ HB8.out
        clear hK K
        try simp only [Act.put, List.setIfInBounds_toArray, List.set_cons_zero, List.set_cons_succ]
        refine wpAnyH_take (i := 23) (v := ?_) (by simp only [List.getElem?_toArray, List.getElem?_cons_succ, List.getElem?_cons_zero]; rfl) (by kernel_rfl) (by kernel_rfl) (by kernel_rfl) (fun _ _ _ h => by exact h) (Or.inl ⟨by rfl, ?_⟩) (by assumption) ?_
        rotate_left
        · (intro w hSw; (try dsimp only at hSw); go_simp; try with_reducible rfl)
        try simp only [Act.put, List.setIfInBounds_toArray, List.set_cons_zero, List.set_cons_succ]
        refine wpAnyH_ready (rs := [24]) (by kernel_rfl) (by simp) ?_
        refine AllReadyH.cons (by simp only [List.getElem?_toArray, List.getElem?_cons_succ, List.getElem?_cons_zero]; rfl) (fun K hK => ?_) AllReadyH.nil
        go_simp
        (go_at_call 11; refine (C5.out a3 c3 a8 c8 _ (HR4.out.below HB8.out) HR8.out).mono ?_; rintro e w9 ⟨rfl, hb9⟩; have HB9 := Lib.hid (HB8.out.trans (hb9.mono HB8.out.size)); clear hb9)
        try go_wp2_with fail
        refine hK.out _ _ ?_ (fun hHeld => ?_)
        · exact FS.out _ HB9.out
        clear hK K
        try simp only [Act.put, List.setIfInBounds_toArray, List.set_cons_zero, List.set_cons_succ]
        refine wpAnyH_take (i := 25) (v := ?_) (by simp only [List.getElem?_toArray, List.getElem?_cons_succ, List.getElem?_cons_zero]; rfl) (by kernel_rfl) (by kernel_rfl) (by kernel_rfl) (fun _ _ _ h => by exact h) (Or.inl ⟨by rfl, ?_⟩) (by assumption) ?_
        rotate_left
        · (intro w hSw; (try dsimp only at hSw); go_simp; try with_reducible rfl)
        try simp only [Act.put, List.setIfInBounds_toArray, List.set_cons_zero, List.set_cons_succ]
        refine wpAnyH_take (i := 26) (v := ?_) (by simp only [List.getElem?_toArray, List.getElem?_cons_succ, List.getElem?_cons_zero]; rfl) (by kernel_rfl) (by kernel_rfl) (by kernel_rfl) (fun _ _ _ h => by exact h) (Or.inl ⟨by rfl, ?_⟩) (by assumption) ?_
        rotate_left
        · (intro w hSw; (try dsimp only at hSw); go_simp; try with_reducible rfl)
        try simp only [Act.put, List.setIfInBounds_toArray, List.set_cons_zero, List.set_cons_succ]
        refine wpAnyH_take (i := 27) (v := ?_) (by simp only [List.getElem?_toArray, List.getElem?_cons_succ, List.getElem?_cons_zero]; rfl) (by kernel_rfl) (by kernel_rfl) (by kernel_rfl) (fun _ _ _ h => by exact h) (Or.inl ⟨by rfl, ?_⟩) (by assumption) ?_
        rotate_left
        · (intro w hSw; (try dsimp only at hSw); go_simp; try with_reducible rfl)
        try simp only [Act.put, List.setIfInBounds_toArray, List.set_cons_zero, List.set_cons_succ]
        refine wpAnyH_take (i := 28) (v := ?_) (by simp only [List.getElem?_toArray, List.getElem?_cons_succ, List.getElem?_cons_zero]; rfl) (by kernel_rfl) (by kernel_rfl) (by kernel_rfl) (fun _ _ _ h => by exact h) (Or.inl ⟨by rfl, ?_⟩) (by assumption) ?_
        rotate_left
        · (intro w hSw; (try dsimp only at hSw); go_simp; try with_reducible rfl)
        try simp only [Act.put, List.setIfInBounds_toArray, List.set_cons_zero, List.set_cons_succ]
        refine wpAnyH_take (i := 29) (v := ?_) (by simp only [List.getElem?_toArray, List.getElem?_cons_succ, List.getElem?_cons_zero]; rfl) (by kernel_rfl) (by kernel_rfl) (by kernel_rfl) (fun _ _ _ h => by exact h) (Or.inl ⟨by rfl, ?_⟩) (by assumption) ?_
        rotate_left
        · (intro w hSw; (try dsimp only at hSw); go_simp; try with_reducible rfl)
        try simp only [Act.put, List.setIfInBounds_toArray, List.set_cons_zero, List.set_cons_succ]
        refine wpAnyH_take (i := 30) (v := ?_) (by simp only [List.getElem?_toArray, List.getElem?_cons_succ, List.getElem?_cons_zero]; rfl) (by kernel_rfl) (by kernel_rfl) (by kernel_rfl) (fun _ _ _ h => by exact h) (Or.inl ⟨by rfl, ?_⟩) (by assumption) ?_
        rotate_left
        · (intro w hSw; (try dsimp only at hSw); go_simp; try with_reducible rfl)
        try simp only [Act.put, List.setIfInBounds_toArray, List.set_cons_zero, List.set_cons_succ]
        refine wpAnyH_ready (rs := [31]) (by kernel_rfl) (by simp) ?_
        refine AllReadyH.cons (by simp only [List.getElem?_toArray, List.getElem?_cons_succ, List.getElem?_cons_zero]; rfl) (fun K hK => ?_) AllReadyH.nil
        go_simp
        (go_at_call 11; refine (C6.out a c (some ad) cv _ (HT4.out.on HB9.out).row.row (HV4.out.below HB9.out).in.row).mono ?_; rintro e w10 ⟨rfl, hb10⟩; have HB10 := Lib.hid (HB9.out.trans (hb10.mono HB9.out.size)); clear hb10)
        try go_wp2_with fail
        refine hK.out _ _ ?_ (fun hHeld => ?_)
        · exact FS.out _ HB10.out
        clear hK K
        try simp only [Act.put, List.setIfInBounds_toArray, List.set_cons_zero, List.set_cons_succ]
        refine wpAnyH_take (i := 32) (v := ?_) (by simp only [List.getElem?_toArray, List.getElem?_cons_succ, List.getElem?_cons_zero]; rfl) (by kernel_rfl) (by kernel_rfl) (by kernel_rfl) (fun _ _ _ h => by exact h) (Or.inl ⟨by rfl, ?_⟩) (by assumption) ?_
        rotate_left
        · (intro w hSw; (try dsimp only at hSw); go_simp; try with_reducible rfl)
        try simp only [Act.put, List.setIfInBounds_toArray, List.set_cons_zero, List.set_cons_succ]
        refine wpAnyH_take (i := 33) (v := ?_) (by simp only [List.getElem?_toArray, List.getElem?_cons_succ, List.getElem?_cons_zero]; rfl) (by kernel_rfl) (by kernel_rfl) (by kernel_rfl) (fun _ _ _ h => by exact h) (Or.inl ⟨by rfl, ?_⟩) (by assumption) ?_
        rotate_left
        · (intro w hSw; (try dsimp only at hSw); go_simp; try with_reducible rfl)
        try simp only [Act.put, List.setIfInBounds_toArray, List.set_cons_zero, List.set_cons_succ]
        refine wpAnyH_done (by kernel_rfl) ?_ _
        have HT10 := Lib.hid (HT4.out.on HB10.out)
        have s0 := HT10.out.s0
        clear HV4 HR4 HR8 FS HFL HOF HK4 HU4
        go_wp2_with fail
        go_region_held3 (fun w' => Two w a l c ⟨p, o, m⟩ n w' ∧ w'.cell? ⟨w.heap.size, 0, none⟩ = some (.slice a n c))
          (first | exact ⟨HT10.out.drew, s0⟩ | exact two_on (by assumption) hb1)
          (first
            | (go_at_call 15; refine (C3.out _ (show _ ∧ _ by assumption).1).mono ?_; rintro e w1 ⟨rfl, hb1⟩)
            | (go_at_call 16; refine (C4.out _ (show _ ∧ _ by assumption).1).mono ?_; rintro e w1 ⟨rfl, hb1⟩)
            | (go_at_call 6; refine (lives23_any _).mono ?_; rintro e w1 ⟨rfl, hb1⟩))
        go_wp2
        go_ret
        exact ⟨by simp, (show Two w a l c _ n _ ∧ _ by assumption).1.below⟩

theorem stepAdds_walk (a : Option Addr) (l : List Edt) (c : Nat) (x : Edt) (i : Int) (w : World) (fp : EPcs w ⟨a, l, c⟩) (fl : l.length ≤ c ∧ c ≤ maxLen) (ff : ∀ x ∈ l, x.fits) (fx : x.fits) (fi : (Lit.int .i64 i).wf = true) :
    Calls Try.prog 4 #[.agg #[.slice a l.length c], x.v, .int .i64 i] w fun e w' => e = .returned (.bool true) ∧ Below w.heap.size w w' := by
  by_cases h : fewE l = false ∨ i < 0 ∨ 10000 < i
  · exact stepAdds_out a l c x i w fp h
  · have h1 : fewE l = true := by
      cases hf : fewE l
      · exact absurd (.inl hf) h
      · rfl
    exact stepAdds_in a l c x i w fp fl h1 (by omega) (by omega)
end Go.Proofs.Ytbghfifcbpcmbaa
