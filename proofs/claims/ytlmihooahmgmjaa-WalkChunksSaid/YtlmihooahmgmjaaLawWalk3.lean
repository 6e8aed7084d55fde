/-
  Layer 20's laws: WalkChunks.
-/
import Derived.Test.YtlmihooahmgmjaaLawWalk2
namespace Go.Proofs.Ytlmihooahmgmjaa
open Go.RowKit
set_option linter.unusedVariables false
set_option linter.unusedSimpArgs false
attribute [local go_sem] Oper.semAt_some

theorem results_one {fn : Func} {p : Tmp} {ty : TypeId} (h : fn.results = #[.cell p ty]) (tmps : Array Value) (P : Program) (w : World) :
    (results fn tmps).run P w = ((asAddr (tmps.getD p undef)).run P w).andThen fun a w₁ => (loadVar ty a).run P w₁ := by
  simp only [results, h]
  simp [Sem.run_bind, Result.andThen]
theorem load_bool {w : World} {b : Nat} {v : Value} (h : w.cell? ⟨b, 0, none⟩ = some v) : (loadVar 4 ⟨b, 0, none⟩).run Try.prog w = .ok v w := by
  simp [loadVar, go_sem, h]
/-- The marks that ranges over functions have left. -/
theorem leaves_marks {P : Program} {n : Nat} {fn : Func} {tmps : Array Value} {R : Ending → World → Prop} {B : Nat} {v : Value} : ∀ (Ds : List Nat) (w : World), Ds.Nodup → (∀ D ∈ Ds, B ≤ D ∧ w.heap[D]? = some (.deferred (some []))) →
    (∀ w', Turns (fun _ => True) B w w' → (results fn tmps).run P w' = .ok v w') → (∀ w', Turns (fun _ => True) B w w' → R (.returned v) w') →
    LeavesInM Fence.wide n P fn tmps R (Ds.map fun D => { target := .collected D, args := #[] }) .returning w
  | [], w, _, _, hr, h => ⟨v, hr w (.refl _ _ _), h w (.refl _ _ _)⟩
  | D :: Ds, w, hN, hD, hr, h => by
    have hK := (hD D (by simp)).2
    have hT : Turns (fun _ => True) B w (w.putObj D (.deferred none)) := (Turns.refl _ B w).put hK (hD D (by simp)).1 rfl _
    have hn := List.nodup_cons.1 hN
    exact ⟨by simp, .inl ⟨_, _, rfl, run_takeDeferred hK, leaves_marks Ds _ hn.2 (fun D' h' => ⟨(hD D' (by simp [h'])).1, by
      rw [World.putObj_heap_other (fun e => hn.1 (by rw [← e]; exact h'))]; exact (hD D' (by simp [h'])).2⟩) (fun w' hw => hr w' (hT.trans hw)) (fun w' hw => h w' (hT.trans hw))⟩⟩
theorem end_chunks {n : Nat} {w w2 : World} {tmps : Array Value} {Ds : List Nat} (ht : tmps.getD 2 undef = .pointer (some ⟨w.heap.size, 0, none⟩)) (hp : Boxed w2 w.heap.size 4 (.bool true)) (hb : Below w.heap.size w w2) (hN : Ds.Nodup)
    (hD : ∀ D ∈ Ds, w.heap.size ≤ D ∧ w2.heap[D]? = some (.deferred (some []))) :
    bodyPostM Fence.wide n Try.prog Try.f4 (fun e w' => e = .returned (.bool true) ∧ Below w.heap.size w w') .ret { tmps := tmps, defers := Ds.map fun D => { target := .collected D, args := #[] } } w2 :=
  leaves_marks (B := w.heap.size) (v := .bool true) Ds w2 hN hD (fun w' hT => by
    have hc : w'.cell? ⟨w.heap.size, 0, none⟩ = some (.bool true) := Boxed.cell (t := 4) (hT.far _ _ _ _ hp trivial)
    rw [results_one (p := 2) (ty := 4) rfl, ht]
    show Result.andThen (.ok _ _) _ = _
    simp only [Result.andThen]
    exact load_bool hc) (fun w' hT => ⟨rfl, hb.trans hT.bel⟩)
/-- Between two chunks of a turn. -/
def WcJ (A : World) (L : List ByteArray) (k : Nat) (A' : World) : Prop :=
  ∃ v, Boxed A' A.heap.size 28 v ∧ Boxed A' (A.heap.size + 1) 3 (.int .i64 (offL L k : Nat)) ∧ A'.ownsRow (A.heap.size + 2) 9 1 v (L.take k).length (strVs (L.take k)) ∧ Below A.heap.size A A'
/-- Between two turns. -/
def WcI (wc : World) (Ds : List Nat) (A : World) : Prop := Below wc.heap.size wc A ∧ Ds.Nodup ∧ ∀ D ∈ Ds, wc.heap.size ≤ D ∧ A.heap[D]? = some (.deferred (some []))
theorem WcI.later {wc : World} {Ds : List Nat} {A A' : World} (h : WcI wc Ds A) (hb : Below A.heap.size A A') : WcI wc Ds A' :=
  ⟨h.1.trans (hb.mono h.1.size), h.2.1, fun D hD => ⟨(h.2.2 D hD).1, (hb.block D (Array.getElem?_eq_some_iff.1 (h.2.2 D hD).2).1).trans (h.2.2 D hD).2⟩⟩

set_option maxRecDepth 100000 in
set_option maxHeartbeats 1600000 in
theorem walkChunks_walk (s : ByteArray) (w0 : s.size ≤ maxLen) (w : World) :
    Calls Try.prog 4 #[.string s] w fun e w' => e = .returned (.bool true) ∧ Below w.heap.size w w' := by
  have hn0 := Boxed.new w 4 (.bool false)
  have hb0 : Below w.heap.size w (w.alloc (.cells #[.bool false] 4)) := (Below.refl _ _).alloc (Nat.le_refl _) _
  by_cases hl : 1500 < s.size
  · have t1 : decide ((1500 : Int) < (s.size : Int)) = true := decide_eq_true (by omega)
    have t2 : decide (1500 < s.size) = true := decide_eq_true hl
    clear w0
    refine (callsIn_wide (n := 5)).1 ?_
    refine callsIn_of_wp_marks Try.func4 rfl trivial ?_ rfl
    simp only [Try.ntmps4, List.size_toArray, List.length_cons, List.length_nil, Nat.reduceAdd, Nat.reduceSub, Array.replicate_succ, Array.replicate_zero, List.push_toArray, List.append_toArray, List.nil_append, List.cons_append]
    gi_wp2_with fail
    refine ⟨trivial, ?_⟩
    gi_wp2_with fail
    refine ⟨trivial, (callsIn_wide.2 (lives20_any _)).mono ?_⟩; rintro e w1 ⟨rfl, hb1⟩
    have p1 : Boxed w1 w.heap.size 4 (.bool false) := (hb1.block _ hn0.lt).trans hn0
    have c1 := p1.cell
    have f1 := p1.frozen
    have HB := Lib.hid hb1; have HP := Lib.hid p1
    clear hb1 hn0 p1
    gi_wp2
    exact end_chunks (Ds := []) rfl (HP.out.set (.bool true)) ((hb0.trans (HB.out.mono (by simp))).setCell (p := ⟨w.heap.size, 0, none⟩) (Nat.le_refl _) _) List.nodup_nil (fun D h => by cases h)
  have t1 : decide ((1500 : Int) < (s.size : Int)) = false := decide_eq_false (by omega)
  have t2 : decide (1500 < s.size) = false := decide_eq_false hl
  have cv := rvalid_any s (by omega)
  by_cases hv : vldB s.data.toList = false
  · rw [hv] at cv
    have CV := Lib.hid cv
    clear cv hv w0
    refine (callsIn_wide (n := 5)).1 ?_
    refine callsIn_of_wp_marks Try.func4 rfl trivial ?_ rfl
    simp only [Try.ntmps4, List.size_toArray, List.length_cons, List.length_nil, Nat.reduceAdd, Nat.reduceSub, Array.replicate_succ, Array.replicate_zero, List.push_toArray, List.append_toArray, List.nil_append, List.cons_append]
    gi_wp2_with fail
    refine ⟨trivial, (callsIn_wide.2 (CV.out _)).mono ?_⟩; rintro e w1 ⟨rfl, hb1⟩
    have p1 : Boxed w1 w.heap.size 4 (.bool false) := (hb1.block _ hn0.lt).trans hn0
    have HB := Lib.hid (hb0.trans (hb1.mono (by simp))); have HP := Lib.hid p1
    clear hb1 hn0 p1
    gi_wp2_with fail
    refine ⟨trivial, (callsIn_wide.2 (lives20_any _)).mono ?_⟩; rintro e w2 ⟨rfl, hb2⟩
    have p2 : Boxed w2 w.heap.size 4 (.bool false) := (hb2.block _ HP.out.lt).trans HP.out
    have HB2 := Lib.hid (HB.out.trans (hb2.mono HB.out.size)); have HP2 := Lib.hid p2
    have c1 := p2.cell
    have f1 := p2.frozen
    clear hb2 p2
    gi_wp2
    exact end_chunks (Ds := []) rfl (HP2.out.set (.bool true)) (HB2.out.setCell (p := ⟨w.heap.size, 0, none⟩) (Nat.le_refl _) _) List.nodup_nil (fun D h => by cases h)
  have hv := bool_yes hv
  rw [hv] at cv
  have co := fun W => (ro_of s w0 W).mono fun e w' h => h.yes (ofE_yes hv (by omega))
  have CO := Lib.hid co; have CV := Lib.hid cv
  clear co cv hv w0
  refine (callsIn_wide (n := 5)).1 ?_
  refine callsIn_of_wp_marks Try.func4 rfl trivial ?_ rfl
  simp only [Try.ntmps4, List.size_toArray, List.length_cons, List.length_nil, Nat.reduceAdd, Nat.reduceSub, Array.replicate_succ, Array.replicate_zero, List.push_toArray, List.append_toArray, List.nil_append, List.cons_append]
  gi_wp2_with fail
  refine ⟨trivial, (callsIn_wide.2 (CV.out _)).mono ?_⟩; rintro e w1 ⟨rfl, hb1⟩
  have p1 : Boxed w1 w.heap.size 4 (.bool false) := (hb1.block _ hn0.lt).trans hn0
  have HB := Lib.hid (hb0.trans (hb1.mono (by simp))); have HP := Lib.hid p1
  clear hb1 hn0 p1 hb0
  gi_wp2_with fail
  refine ⟨trivial, (callsIn_wide.2 (CO.out _)).mono ?_⟩; rintro e w2 ⟨b, p, L, rfl, hR, hb2⟩
  have p2 : Boxed w2 w.heap.size 4 (.bool false) := (hb2.block _ HP.out.lt).trans HP.out
  have HB2 := Lib.hid (HB.out.trans (hb2.mono HB.out.size)); have HP2 := Lib.hid p2
  have cc := wk_chunks hR
  have hll := hR.x.len
  have htl := hR.x.tight
  have htx := hR.x.txt
  have CC := Lib.hid cc
  clear hb2 p2 hR cc
  gi_wp2_with fail
  refine ⟨trivial, (callsIn_wide.2 CC.out).mono ?_⟩; rintro e wc ⟨b0, rfl, hg, hbc⟩
  have pc : Boxed wc w.heap.size 4 (.bool false) := (hbc.block _ HP2.out.lt).trans HP2.out
  have HBC := Lib.hid (HB2.out.trans (hbc.mono HB2.out.size)); have HPC := Lib.hid pc
  have hzc : w2.heap.size ≤ wc.heap.size := hbc.size
  have HG := Lib.hid (hg (· = 9))
  clear hbc pc hg CC HP2 HB2 HP HB
  gi_wp2_with fail
  obtain ⟨i0, hi, hz0, hz1, hz2⟩ := info_parts string_info
  have hsm : s.size ≤ 1500 := by omega
  have fz := func_nil' (.func 20) #[.pointer (some ⟨b0, 0, none⟩)]
  refine wpIn_loop (fun a A => ∃ (t : Nat) (Ds : List Nat) (u7 u8 u9 u10 u29 u30 u31 u32 u33 u34 u35 u36 u37 u38 u39 u40 u41 u42 u43 u44 u45 u46 u47 u48 u49 u50 u51 u52 u53 u54 u55 u56 u57 u58 u59 u60 u61 u62 u63 u64 : Value), (t ≤ 2 ∧ WcI wc Ds A) ∧ a = { tmps := #[.string s, undef, .pointer (some ⟨w.heap.size, 0, none⟩), .pointer (some ⟨b, 0, none⟩), .int .i64 0, .func (.func 20) #[] #[.pointer (some ⟨b0, 0, none⟩)], .int .i64 (t : Nat), u7, u8, u9, u10, .string s, .int .i64 s.size, .bool false, .bool false, .string s, .bool true, .bool false, .bool false, undef, .tuple #[.pointer (some ⟨b, 0, none⟩), .int .i64 0], .string s, .tuple #[.pointer (some ⟨b, 0, none⟩), .int .i64 0], .pointer (some ⟨b, 0, none⟩), .int .i64 0, .int .i64 0, .bool false, .pointer (some ⟨b, 0, none⟩), .func (.func 20) #[] #[.pointer (some ⟨b0, 0, none⟩)], u29, u30, u31, u32, u33, u34, u35, u36, u37, u38, u39, u40, u41, u42, u43, u44, u45, u46, u47, u48, u49, u50, u51, u52, u53, u54, u55, u56, u57, u58, u59, u60, u61, u62, u63, u64, undef], defers := Ds.map fun D => { target := .collected D, args := #[] } }) (fun a _ => 2 - (intOf (a.tmps.getD 6 undef)).toNat) ?start ?round
  case start => exact ⟨0, [], _, _, _, _, _, _, _, _, _, _, _, _, _, _, _, _, _, _, _, _, _, _, _, _, _, _, _, _, _, _, _, _, _, _, _, _, _, _, _, _, ⟨Nat.zero_le _, Below.refl _ _, List.nodup_nil, fun D h => (by cases h)⟩, rfl⟩
  case round =>
    rintro a A ⟨t, Ds, u7, u8, u9, u10, u29, u30, u31, u32, u33, u34, u35, u36, u37, u38, u39, u40, u41, u42, u43, u44, u45, u46, u47, u48, u49, u50, u51, u52, u53, u54, u55, u56, u57, u58, u59, u60, u61, u62, u63, u64, ⟨ht, hI⟩, rfl⟩
    by_cases hlt : t < 2
    · have b1 : (t : Int) < 2 := by omega
      have b2 : decide ((t : Int) < 2) = true := decide_eq_true b1
      have b3 : decide (t < 2) = true := decide_eq_true hlt
      gi_wp2_with fail
      obtain ⟨A2, hA2⟩ : ∃ A2, (A.alloc (.cells #[.slice none 0 0] 28)).alloc (.cells #[.int .i64 0] 3) = A2 := ⟨_, rfl⟩
      have hs2 : A2.heap.size = A.heap.size + 2 := by rw [← hA2]; simp
      have hbA : Below A.heap.size A A2 := by rw [← hA2]; exact ((Below.refl _ A).alloc (Nat.le_refl _) _).alloc (by simp) _
      have q7 : Boxed A2 A.heap.size 28 (.slice none 0 0) := by rw [← hA2]; exact (Boxed.new A _ _).alloc _
      have q8 : Boxed A2 (A.heap.size + 1) 3 (.int .i64 (offL L 0 : Nat)) := by
        have := Boxed.new (A.alloc (.cells #[.slice none 0 0] 28)) 3 (.int .i64 0)
        rw [World.size_alloc] at this
        rw [← hA2]; exact this
      have hzA := hI.1.size
      rw [hA2]
      have HI := Lib.hid hI; have HZL := Lib.hid hzA
      clear hA2 hI
      refine rangeFunc_goes (gf := 20) (lb := #[.pointer (some ⟨b0, 0, none⟩)]) rfl (enters_of Try.func20 (by kernel_rfl) rfl) HG.out (HI.out.1.trans (hbA.mono hzA)) (fun _ => rfl)
        (WcJ A L) (fun _ _ => False)
        (fun k B C ⟨v, x1, x2, x3, x4⟩ hB hT => ⟨v, hT.box x1 (by omega), hT.box x2 (by omega), own_turns x3 hT rfl, x4.trans (hT.bel.mono (by omega))⟩)
        (fun c B C h _ _ => h)
        ⟨_, q7, q8, World.ownsRow_nil _ _ _ _, hbA⟩
        (fun x => { tmps := #[.string s, undef, .pointer (some ⟨w.heap.size, 0, none⟩), .pointer (some ⟨b, 0, none⟩), .int .i64 0, .func (.func 20) #[] #[.pointer (some ⟨b0, 0, none⟩)], .int .i64 (t : Nat), .pointer (some ⟨A.heap.size, 0, none⟩), .pointer (some ⟨A.heap.size + 1, 0, none⟩), .int .i64 x.1, .string x.2, .string s, .int .i64 s.size, .bool false, .bool false, .string s, .bool true, .bool false, .bool false, undef, .tuple #[.pointer (some ⟨b, 0, none⟩), .int .i64 0], .string s, .tuple #[.pointer (some ⟨b, 0, none⟩), .int .i64 0], .pointer (some ⟨b, 0, none⟩), .int .i64 0, .int .i64 0, .bool false, .pointer (some ⟨b, 0, none⟩), .func (.func 20) #[] #[.pointer (some ⟨b0, 0, none⟩)], .int .i64 t, .bool true, .bool true, .func (.func 20) #[] #[.pointer (some ⟨b0, 0, none⟩)], .bool true, .bool true, u35, u36, .func (.func 20) #[] #[.pointer (some ⟨b0, 0, none⟩)], .int .i64 x.1, .string x.2, u40, u41, u42, u43, u44, u45, u46, u47, u48, u49, u50, u51, u52, u53, u54, u55, u56, u57, u58, u59, u60, u61, u62, u63, u64, undef], defers := [] }) ?assign ?body ?done ?stop
      case assign =>
        intro l x W K hK
        gi_wp2
        exact hK
      case stop =>
        intro D' c W _ _ h _
        exact h.elim
      case body =>
        rintro l k x k' W hWs ⟨hk, rfl, rfl⟩ ⟨v, x7, x8, xr, xb⟩
        dsimp only
        obtain ⟨a, c, rfl, -⟩ := own_strs xr
        have hlen : (L.take k).length = k := by rw [List.length_take]; omega
        have hos := offL_succ hk
        have hle := offL_le hk
        have htk : L.take (k + 1) = L.take k ++ [L[k]] := List.take_succ_eq_append_getElem hk
        obtain ⟨y, hy⟩ : ∃ y, L[k] = y := ⟨_, rfl⟩
        obtain ⟨o, ho⟩ : ∃ o, offL L k = o := ⟨_, rfl⟩
        obtain ⟨l0, hl0⟩ : ∃ l0, L.take k = l0 := ⟨_, rfl⟩
        rw [hy] at hos hle htk ⊢
        rw [ho] at hos hle x8 ⊢
        rw [hl0] at hlen htk xr x7
        rw [hlen] at xr x7
        have hkL : k < 1000 := by omega
        have hoz : o + y.size ≤ 10000 := by rw [htx] at hle; omega
        have c7 := x7.cell
        have c8 := x8.cell
        have b4 : ¬ (1500 : Int) < (k : Int) := by omega
        have b5 : ¬ 1500 < k := by omega
        have HOS := Lib.hid hos; have HTK := Lib.hid htk; have HLEN := Lib.hid hlen; have X7 := Lib.hid x7; have X8 := Lib.hid x8; have XB := Lib.hid xb
        have hnews := news_one W (.string y) 9
        clear hos hle htk hlen hy ho hl0 xb
        gi_wp2_with (gi_at_builtin; refine wpListIn_append_own _ rfl _ _ 28 rfl (A.heap.size + 2) 9 i0 (.string ByteArray.empty) 1 16 Try.underlying28 hi hz0 hz1 hz2 rfl (by decide) _ k (strVs l0) rfl (xr.alloc _) ⟨W.heap.size, 0, none⟩ 1 1 [.string y] rfl rfl hnews (by simp [Value.oneCell']) (by unfold maxLen; omega) (by omega) (by simp; omega) ?_; intro v' w1 hown' hgrow _; obtain ⟨g', cap', rfl⟩ := ownsRow_succ hown'; have hv3 := (X7.out.alloc (.cells #[.string y] 9)).kept hgrow (X7.out.not_row (by decide) xr); have hn3 := (X8.out.alloc (.cells #[.string y] 9)).kept hgrow (X8.out.not_row (by decide) xr); have hn4 := hn3.other (show A.heap.size + 1 ≠ A.heap.size by omega) (.slice (some ⟨g', 0, none⟩) (k + 1) cap'); have hc3 := hv3.cell; have hf3 := hv3.frozen; have hc4 := hn4.cell; have hf4 := hn4.frozen)
        replace hgrow : (W.alloc (.cells #[.string y] 9)).grownBy w1 (Value.slice a k c).ownBlock := hgrow
        have hKp := (((Kp.refl (· = 9) w2.heap.size wc.heap.size (A.heap.size + 2) W).grown hgrow xr (by omega) (by omega) rfl).set (b := A.heap.size) (by omega) (by omega) (.slice (some ⟨g', 0, none⟩) (k + 1) cap')).set (b := A.heap.size + 1) (by omega) (by omega) (.int .i64 ((o : Int) + (y.size : Int)))
        have e7 := (hv3.set (.slice (some ⟨g', 0, none⟩) (k + 1) cap')).other (show A.heap.size ≠ A.heap.size + 1 by omega) (.int .i64 ((o : Int) + (y.size : Int)))
        have e8 := hn4.set (.int .i64 ((o : Int) + (y.size : Int)))
        have er := own_turns (T := (· = 9)) hown' (((Turns.refl _ 0 w1).set hv3 (Nat.zero_le _) (by decide) (.slice (some ⟨g', 0, none⟩) (k + 1) cap')).set hn4 (Nat.zero_le _) (by decide) (.int .i64 ((o : Int) + (y.size : Int)))) rfl
        have eb := (((XB.out.alloc (by omega) (.cells #[.string y] 9)).grown hgrow (by simp; omega) (fun j e => by have := own_blk xr e; omega)).setCell (p := ⟨A.heap.size, 0, none⟩) (Nat.le_refl _) (.slice (some ⟨g', 0, none⟩) (k + 1) cap')).setCell (p := ⟨A.heap.size + 1, 0, none⟩) (by show A.heap.size ≤ A.heap.size + 1; omega) (.int .i64 ((o : Int) + (y.size : Int)))
        refine ⟨hKp, _, e7, ?_, ?_, eb⟩
        · rw [HOS.out]; exact e8
        · rw [HTK.out, List.length_append, HLEN.out, strVs_one]; exact er
      case done =>
        rintro D' A3 hD hz3 ⟨v, x7, x8, xr, xb⟩ hK
        rw [List.take_length] at xr
        obtain ⟨a, c, rfl, hst⟩ := own_strs xr
        have hstH : StrsH A3 a L := hst.weak fun b hb => hb.2
        have k7 := x7.cell
        have cw := fun W (hW : Below A3.heap.size A3 W) => rwhole_any a L c W (hstH.on hW) (by omega) (by rw [htx]; omega)
        have cti := fun W (hW : Below A3.heap.size A3 W) => rtight_any a L c W (hstH.on hW) (by omega) (fun k h => by have := (htl k h).1.2.1; omega)
        rw [htx] at cw
        obtain ⟨N, hN⟩ : ∃ N, L.length = N := ⟨_, rfl⟩
        rw [hN] at k7
        simp only [hN] at cw cti
        have CW := Lib.hid cw; have CTI := Lib.hid cti; have HX7 := Lib.hid x7; have HN := Lib.hid hN
        have hm : WcI wc (D' :: Ds) A3 := ⟨HI.out.1.trans (xb.mono HZL.out), List.nodup_cons.2 ⟨fun h => by
            have h2 := (HI.out.2.2 D' h).2
            have := (Array.getElem?_eq_some_iff.1 h2).1
            omega, HI.out.2.1⟩, fun D h => by
          rcases List.mem_cons.1 h with rfl | h
          · exact ⟨by omega, hK⟩
          · have h2 := HI.out.2.2 D h
            exact ⟨h2.1, (xb.block D (Array.getElem?_eq_some_iff.1 h2.2).1).trans h2.2⟩⟩
        have HM := Lib.hid hm
        clear xr xb hst hstH cw cti x7 x8 hN hm
        gi_wp2_with fail
        refine ⟨trivial, (callsIn_wide.2 (CW.out _ (Below.refl _ _))).mono ?_⟩; rintro e w5 ⟨rfl, hb5⟩
        have k7' : w5.cell? ⟨A.heap.size, 0, none⟩ = some (.slice a N c) := by
          have := Boxed.cell (t := 28) ((hb5.block _ HX7.out.lt).trans HX7.out)
          rw [HN.out] at this; exact this
        have HB5 := Lib.hid hb5
        clear hb5 k7
        gi_wp2_with fail
        refine ⟨trivial, (callsIn_wide.2 (CTI.out _ HB5.out)).mono ?_⟩; rintro e w6 ⟨bb, rfl, hiff, hb6⟩
        obtain rfl : bb = true := hiff.2 htl
        have HM6 := Lib.hid (HM.out.later (HB5.out.trans (hb6.mono HB5.out.size)))
        clear hb6 hiff
        gi_wp2
        refine ⟨⟨t + 1, D' :: Ds, _, _, _, _, _, _, _, _, _, _, _, _, _, _, _, _, _, _, _, _, _, _, _, _, _, _, _, _, _, _, _, _, _, _, _, _, _, _, _, _, ⟨by omega, HM6.out⟩, rfl⟩, ?_⟩
        simp [intOf]
        omega
    · obtain rfl : t = 2 := by omega
      gi_wp2_with fail
      refine ⟨trivial, (callsIn_wide.2 (lives20_any _)).mono ?_⟩; rintro e w5 ⟨rfl, hb5⟩
      have hzA := hI.1.size
      have hlt0 := HPC.out.lt
      have p5 : Boxed w5 w.heap.size 4 (.bool false) := ((hI.1.trans (hb5.mono hzA)).block _ hlt0).trans HPC.out
      have HI5 := Lib.hid (hI.later hb5)
      have HP5 := Lib.hid p5
      have hzw := HBC.out.size
      have c1 := p5.cell
      have f1 := p5.frozen
      clear hb5 p5 hI
      gi_wp2
      exact end_chunks (Ds := Ds) rfl (HP5.out.set (.bool true)) ((HBC.out.trans (HI5.out.1.mono hzw)).setCell (p := ⟨w.heap.size, 0, none⟩) (Nat.le_refl _) _) HI5.out.2.1 (fun D h => ⟨by have := (HI5.out.2.2 D h).1; omega, by
        rw [Below.heap_setCell _ _ _ D (by have := (HI5.out.2.2 D h).1; show D ≠ w.heap.size; omega)]; exact (HI5.out.2.2 D h).2⟩)
end Go.Proofs.Ytlmihooahmgmjaa
