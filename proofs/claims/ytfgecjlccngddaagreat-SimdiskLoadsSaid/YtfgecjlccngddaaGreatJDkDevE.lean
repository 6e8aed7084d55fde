/-
  Joined: DkDev13.
-/
import Derived.Test.YtfgecjlccngddaaGreatJDkDevD
namespace Go.Proofs.YtfgecjlccngddaaGreat
set_option linter.unusedSimpArgs false
set_option linter.unusedVariables false
open Go.RowKit
set_option linter.unusedVariables false

theorem fold_one (g g' : Int → Int) (x : Int) : ∀ (l : List Int) (s : Int), l.Nodup → x ∈ l → (∀ i ∈ l, i ≠ x → g' i = g i) → l.foldl (fun n i => n - g' i) s = l.foldl (fun n i => n - g i) s - (g' x - g x) := by
  have add : ∀ (f : Int → Int) (l : List Int) (s y : Int), l.foldl (fun n i => n - f i) (s - y) = l.foldl (fun n i => n - f i) s - y := by
    intro f l
    induction l with
    | nil => intro s y; rfl
    | cons i r ih =>
      intro s y
      show r.foldl _ (s - y - f i) = r.foldl _ (s - f i) - y
      rw [show s - y - f i = s - f i - y from by omega, ih]
  have same : ∀ (l : List Int) (s : Int), (∀ i ∈ l, g' i = g i) → l.foldl (fun n i => n - g' i) s = l.foldl (fun n i => n - g i) s := by
    intro l
    induction l with
    | nil => intro s _; rfl
    | cons i r ih =>
      intro s h
      show r.foldl _ (s - g' i) = r.foldl _ (s - g i)
      rw [h i (by simp)]
      exact ih _ fun j hj => h j (by simp [hj])
  intro l
  induction l with
  | nil => intro s _ h; cases h
  | cons i r ih =>
    intro s hn hx h
    obtain ⟨h1, h2⟩ := List.nodup_cons.1 hn
    show r.foldl _ (s - g' i) = r.foldl _ (s - g i) - _
    by_cases e : i = x
    · subst e
      rw [same r _ (fun j hj => h j (by simp [hj]) (fun g => h1 (g ▸ hj))), show s - g' i = s - g i - (g' i - g i) from by omega, add]
    · rw [h i (by simp) e]
      exact ih _ h2 ((List.mem_cons.1 hx).resolve_left fun g => e g.symm) fun j hj => h j (by simp [hj])
theorem Dsk.free_set {M : Nat} {D : Dsk} (h : D.ok M) {n : Int} (hn : n ∈ idsK D.L) (t : Tp) : (D.set n t).free = D.free - ((t.sec : Int) - ((D.t n).sec : Int)) := by
  have hr := fun i hi => ids_le h i hi
  rw [Dsk.free_fold, Dsk.free_fold]
  show (idsK D.L).foldl (fun m i => m - (((D.set n t).t i).sec : Int)) D.sec = _
  rw [fold_one (fun i => ((D.t i).sec : Int)) (fun i => (((D.set n t).t i).sec : Int)) n (idsK D.L) D.sec ((rise_idsK D.L).imp fun h => Int.ne_of_lt h) hn (fun i hi hne => by show (((D.set n t).t i).sec : Int) = _; rw [D.t_set n i t (hr n hn) (hr i hi), if_neg (fun g => hne g.symm)])]
  show _ - ((((D.set n t).t n).sec : Int) - _) = _
  rw [D.t_set n n t (hr n hn) (hr n hn), if_pos rfl]
section
/-- What the sectors' test reads, in each world that new blocks alone part from the first. -/
def Cp13 (n0 bi bx t ad bm : Nat) (n : Int) (tb : Nat) (w6 w' : World) : Prop :=
  Below w6.heap.size w6 w' ∧ w'.cell? ⟨bx, 0, none⟩ = some (.pointer (some ⟨t, 0, none⟩)) ∧ w'.cell? ⟨n0, 0, none⟩ = some (.pointer (some ⟨ad, 0, none⟩)) ∧ w'.cell? ⟨bi, 0, none⟩ = some (.int .i64 n) ∧ w'.cell? ⟨ad, 1, none⟩ = some (.map (some bm)) ∧
    (Instr.lookup 63 (.map (some bm)) (.int .i64 n) false).run Tryz.prog w' = .ok (.pointer (some ⟨tb, 0, none⟩)) w'
variable {w w' : World} {ad bm : Nat} {an af : Addr} {Sn Sf : List Nat} {ids : List Int} {blk : Int → Nat} {born : Nat} {D : Dsk}
theorem cp13_of {w6 w' : World} {n0 bi bx t : Nat} {k m : ByteArray} {n : Int} (h : Cop w n0 ad bm an af Sn Sf blk D n bi bx t k m w6) (hn : n ∈ idsK D.L) (hn0 : n0 ≤ w.heap.size) (hb : Below w6.heap.size w6 w') : Cp13 n0 bi bx t ad bm n (blk n) w6 w' := by
  have h2 := h.below hb hn0
  exact ⟨hb, h2.b2.cell 0 _ rfl, h2.b0.cell 0 _ rfl, h2.b1.cell 0 _ rfl, h2.dk.cells.2.1, h2.dk.map.look hn⟩
set_option maxRecDepth 100000 in
set_option maxHeartbeats 1600000 in
theorem dappend_yes (h : DkM w ad bm an af Sn Sf (idsK D.L) blk D.tp.length D) (hD : D.ok 199) (s b : ByteArray) (hs : s.size ≤ maxLen) (hb : b.size ≤ 200) (ho : D.fu.off = false) {n : Int} (hf : findE (nowL D.L) s = some n) (hn : n ∈ idsK D.L) {X : Dsk} {c : Int}
    (hno : (D.set n ⟨(D.t n).k, (D.t n).n ++ b⟩).free < 0 → X = D ∧ c = 12) (hyes : ¬ (D.set n ⟨(D.t n).k, (D.t n).n ++ b⟩).free < 0 → Dsk.then (D.ask false) (fun E => E.set n ⟨(D.t n).k, (D.t n).n ++ b⟩) = (X, c)) :
    Calls Tryz.prog 11 #[.pointer (some ⟨ad, 0, none⟩), .string s, .string b] w (UpdK w (dkS ad bm Sn Sf (idsK D.L) blk) ⟨ad, 0, none⟩ X (.int .i64 c)) := by
  rw [D.free_set hD hn] at hno hyes
  have hlt := h.lt
  have HLT := Lib.hid hlt
  clear hlt
  obtain ⟨w0, hw0⟩ : ∃ w0, w0 = w.alloc (.cells #[.pointer (some ⟨ad, 0, none⟩)] 23) := ⟨_, rfl⟩
  have hb0 : Below w.heap.size w w0 := by rw [hw0]; exact (Below.refl _ w).alloc (Nat.le_refl _) _
  have k0 : Blk w0 w.heap.size #[.pointer (some ⟨ad, 0, none⟩)] 23 := by rw [hw0]; exact Blk.new w _ _
  have CR := Lib.hid (dfind_yes (h.below hb0) (Dsk.okL hD) ho s hs hf); have HB := Lib.hid hb0; have HI := Lib.hid h; have HD := Lib.hid hD; have HN := Lib.hid hn; have K0 := Lib.hid k0
  have hsz := (D.sec_le hD n).2
  have x0 := k0.cell 0 _ rfl
  obtain ⟨⟨tk, tn⟩, ht⟩ : ∃ t, D.t n = t := ⟨_, rfl⟩
  rw [ht] at hno hyes hsz
  have HT := Lib.hid ht; have HNO := Lib.hid hno; have HYES := Lib.hid hyes; have HSZ := Lib.hid hsz; have HBS := Lib.hid hb
  clear h hb0 k0 hD hn hf hno hyes ht hsz hb
  subst hw0
  go_enter Tryz.func11, Tryz.ntmps11
  go_wp2_with fail
  refine CR.out.mono ?_
  rintro e w1 ⟨rfl, hb1⟩
  obtain ⟨w2, hw2⟩ : ∃ w2, w2 = w1.alloc (.cells #[.int .i64 n] 3) := ⟨_, rfl⟩
  have hb2 : Below w1.heap.size w1 w2 := by rw [hw2]; exact (Below.refl _ _).alloc (Nat.le_refl _) _
  have k1 : Blk w2 w1.heap.size #[.int .i64 n] 3 := by rw [hw2]; exact Blk.new _ _ _
  have k0 := (K0.out.onto hb1).onto hb2
  have hbb := HB.out.trans (hb1.mono HB.out.size)
  have hbc := hbb.trans (hb2.mono hbb.size)
  have hge : w.heap.size ≤ w1.heap.size := hbb.size
  have H2 := Lib.hid (HI.out.below hbc); have K0' := Lib.hid k0; have K1 := Lib.hid k1; have HW := Lib.hid hw2; have HBC := Lib.hid hbc; have HGE := Lib.hid hge
  clear hb1 hb2 hbb hbc k0 k1 hge
  go_upto_region 4 with fail
  rw [← HW.out]
  clear hw2
  go_cut [9] (fun u9 wx => ∃ bx t, u9 = .pointer (some ⟨bx, 0, none⟩) ∧ Cop w w.heap.size ad bm an af Sn Sf blk D n w1.heap.size bx t tk tn wx)
  case first =>
    have CC := Lib.hid (fun (W : World) (hW : Below w2.heap.size w2 W) => tcopy_yes (Tap.below (by have := H2.out.taps n HN.out; rw [HT.out] at this; exact this) hW))
    have y0 := (show Blk w2.drew w.heap.size #[.pointer (some ⟨ad, 0, none⟩)] 23 from K0'.out).cell 0 _ rfl
    have y1 := (show Blk w2.drew w1.heap.size #[.int .i64 n] 3 from K1.out).cell 0 _ rfl
    obtain ⟨d0, d1, d2, d3, d4, d5⟩ := H2.out.drew.cells
    have hlook := H2.out.drew.map.look HN.out
    have hba := (Below.refl w2.heap.size w2).alloc (Nat.le_refl _) (.cells #[.pointer none] 79)
    have z0 := (show Blk (w2.alloc (.cells #[.pointer none] 79)).drew w.heap.size #[.pointer (some ⟨ad, 0, none⟩)] 23 from K0'.out.alloc _).cell 0 _ rfl
    have z1 := (show Blk (w2.alloc (.cells #[.pointer none] 79)).drew w1.heap.size #[.int .i64 n] 3 from K1.out.alloc _).cell 0 _ rfl
    obtain ⟨f0, f1, f2, f3, f4, f5⟩ := (H2.out.below hba).drew.cells
    have hlook2 := (H2.out.below hba).drew.map.look HN.out
    have HBA := Lib.hid hba
    clear hba d0 d2 d3 d4 d5 f0 f2 f3 f4 f5
    go_region_with (go_at_call 36; refine (CC.out _ ?_).mono ?_; (first | exact (Below.refl _ _).drew | exact HBA.out.drew); rintro e w5 ⟨t, rfl, hgt, htt, hb5⟩; (try (have hbk : Blk w5 w2.heap.size #[.pointer none] 79 := (show Blk (w2.alloc (.cells #[.pointer none] 79)).drew w2.heap.size #[.pointer none] 79 from Blk.new w2 _ _).onto hb5; have u0 := hbk.cell 0 _ rfl; have s0 := hbk.free 0; clear hbk)); have HB5 := Lib.hid hb5; have HT5 := Lib.hid htt; have HG5 := Lib.hid hgt; clear hb5 htt hgt)
    all_goals
      go_wp2_with fail
      go_meet
      first
        | exact ⟨_, _, rfl, cop_a H2.out K0'.out K1.out HBC.out HBC.out.size HGE.out HB5.out HT5.out HG5.out⟩
        | exact ⟨_, _, rfl, cop_b H2.out K0'.out K1.out HBC.out HBC.out.size HGE.out HB5.out HT5.out HG5.out⟩
  case rest =>
    obtain ⟨bx, t, rfl, hc⟩ := hcut
    have e2 := hc.b2.cell 0 _ rfl
    have HC := Lib.hid hc
    clear hc
    have CT := Lib.hid (tappend_yes HC.out.tap b (by have h1 : tn.size ≤ 39800 := HSZ.out.2; have h2 := HBS.out; omega))
    go_wp2_with fail
    refine CT.out.mono ?_
    rintro e w6 ⟨rfl, htt, haa⟩
    have hd := HC.out.turn HLT.out (Nat.le_refl _) htt haa
    have HD6 := Lib.hid hd
    clear htt haa hd e2
    have hfree := D.lefts_is (fun _ => false) 39800 (fun i => (D.sec_le HD.out i).1) (idsK D.L) D.sec
    rw [D.lefts_no _ _ _ (fun _ => rfl), ← D.free_fold] at hfree
    have hfew := ids_few (M := 199) (D := D) HD.out (by omega)
    have hsec := HD.out.1
    have hs2 : (⟨tk, tn⟩ : Tp).sec ≤ 39800 := by have := (D.sec_le HD.out n).1; rw [HT.out] at this; exact this
    have hs1 : (⟨tk, tn ++ b⟩ : Tp).sec ≤ 40000 := by
      have h1 := HSZ.out; have h2 := HBS.out
      unfold Tp.sec
      have := cntN_le (max tk.size (tn ++ b).size)
      have e : (tn ++ b).size = tn.size + b.size := by simp
      have h3 : tk.size ≤ 39800 := h1.1
      have h4 : tn.size ≤ 39800 := h1.2
      show cntN (max tk.size (tn ++ b).size) ≤ 40000
      omega
    have hk4 : tk.size ≤ 4294967296 := by have : tk.size ≤ 39800 := HSZ.out.1; omega
    have hsz2 : (tn ++ b).size = tn.size + b.size := by simp
    have hn4 : (tn ++ b).size ≤ 4294967296 := by have h1 : tn.size ≤ 39800 := HSZ.out.2; have h2 := HBS.out; omega
    have C1 := fun (W : World) (hW : Below w6.heap.size w6 W) => tsec_yes (t := ⟨tk, tn ++ b⟩) (Tap.below HD6.out.tap hW) hk4 hn4
    have C2 := fun (W : World) (hW : Below w6.heap.size w6 W) => tsec_yes (t := D.t n) ((HD6.out.dk.below hW).taps n HN.out) (by have := (D.sec_le HD.out n).2; omega) (by have := (D.sec_le HD.out n).2; omega)
    have C3 := fun (W : World) (hW : Below w6.heap.size w6 W) => dfree_b (HD6.out.dk.below hW) HD.out hfew
    rw [HT.out] at C2
    rw [← D.free_fold] at C3
    have hno := HNO.out; have hyes := HYES.out
    obtain ⟨s1, e1⟩ : ∃ s1, (⟨tk, tn ++ b⟩ : Tp).sec = s1 := ⟨_, rfl⟩
    obtain ⟨s2, e2⟩ : ∃ s2, (⟨tk, tn⟩ : Tp).sec = s2 := ⟨_, rfl⟩
    obtain ⟨fr, e3⟩ : ∃ fr, D.free = fr := ⟨_, rfl⟩
    simp only [e1, e2, e3] at C1 C2 C3 hno hyes hs1 hs2 hfree
    have y1 : IntKind.i64.wrap ((s1 : Int) - (s2 : Int)) = (s1 : Int) - (s2 : Int) := IntWalk.i64_in _ (by omega)
    have y2 : wrap64 ((s1 : Int) - (s2 : Int)) = (s1 : Int) - (s2 : Int) := by unfold wrap64; omega
    have S0 := Lib.hid (cp13_of HD6.out HN.out (Nat.le_refl _) (Below.refl _ w6).drew)
    have C1 := Lib.hid C1; have C2 := Lib.hid C2; have C3 := Lib.hid C3; have HNO2 := Lib.hid hno; have HYES2 := Lib.hid hyes
    clear hfree hfew hsec hs1 hs2 hno hyes e1 e2 e3
    go_upto_region 6 with fail
    go_cut [41] (fun u wx => u = .bool (decide (fr < (s1 : Int) - (s2 : Int))) ∧ Below w6.heap.size w6 wx)
    case first =>
      go_region_held3 (fun w' => Below w6.heap.size w6 w' ∧ w'.cell? ⟨bx, 0, none⟩ = some (.pointer (some ⟨t, 0, none⟩)) ∧ w'.cell? ⟨w.heap.size, 0, none⟩ = some (.pointer (some ⟨ad, 0, none⟩)) ∧ w'.cell? ⟨w1.heap.size, 0, none⟩ = some (.int .i64 n) ∧ w'.cell? ⟨ad, 1, none⟩ = some (.map (some bm)) ∧
          (Instr.lookup 63 (.map (some bm)) (.int .i64 n) false).run Tryz.prog w' = .ok (.pointer (some ⟨blk n, 0, none⟩)) w')
        (first | exact S0.out | exact cp13_of HD6.out HN.out (Nat.le_refl _) ((show Cp13 w.heap.size w1.heap.size bx t ad bm n (blk n) w6 _ by assumption).1.trans (hb1.mono (show Cp13 w.heap.size w1.heap.size bx t ad bm n (blk n) w6 _ by assumption).1.size)))
        (first
          | (go_at_call_of 45 (blk n); refine (C2.out _ (show Cp13 w.heap.size w1.heap.size bx t ad bm n (blk n) w6 _ by assumption).1).mono ?_; rintro e w7 ⟨rfl, hb1⟩)
          | (go_at_call 45; refine (C1.out _ (show Cp13 w.heap.size w1.heap.size bx t ad bm n (blk n) w6 _ by assumption).1).mono ?_; rintro e w7 ⟨rfl, hb1⟩)
          | (go_at_call 28; refine (C3.out _ (show Cp13 w.heap.size w1.heap.size bx t ad bm n (blk n) w6 _ by assumption).1).mono ?_; rintro e w7 ⟨rfl, hb1⟩))
      all_goals
        go_wp2_with fail
        go_meet
        exact ⟨rfl, (show Cp13 w.heap.size w1.heap.size bx t ad bm n (blk n) w6 _ by assumption).1⟩
    case rest =>
      obtain ⟨rfl, hb8⟩ := hcut
      have hd := HD6.out.below hb8 (Nat.le_refl _)
      have hd8 := Lib.hid hd
      have g0 := hd.b0.cell 0 _ rfl
      clear hd hb8
      by_cases hm : fr < (s1 : Int) - (s2 : Int)
      · obtain ⟨rfl, rfl⟩ := HNO2.out (by omega)
        have HD8 := Lib.hid hd8.out
        go_wp2
        go_ret
        exact upd_same HI.out.is HD8.out.bel _
      · have HY := Lib.hid (HYES2.out (by omega))
        have CP := dput_of (g := 46) (pre := #[]) (post := #[.pointer (some ⟨bx, 0, none⟩), .pointer (some ⟨w.heap.size, 0, none⟩), .pointer (some ⟨w1.heap.size, 0, none⟩)]) hd8.out.dk HD.out eAppend (fun E => E.set n ⟨tk, tn ++ b⟩) w.heap.size hd8.out.bel.size (fun w3 Sf1 h3 ha3 hs3 =>
          dappend_c (D := (D.ask false).1) (B := w.heap.size) h3 (ids_few (M := 199) (D := D) HD.out (by omega)) HN.out (Tap.apart hd8.out.tap ha3 (hd8.out.far HLT.out t hd8.out.l3))
            (fun g => by
              rcases ask_S (ad := ad) (bm := bm) (Sn := Sn) (ids := idsK D.L) (blk := blk) hs3 t g with g | g
              · exact hd8.out.far HLT.out t hd8.out.l3 g
              · have := Tap3.lt hd8.out.tap; omega) hd8.out.l3
            ((ha3.cell (p := ⟨bx, 0, none⟩) hd8.out.b2.lt (hd8.out.far HLT.out bx hd8.out.l2)).trans (hd8.out.b2.cell 0 _ rfl))
            ((ha3.cell (p := ⟨w.heap.size, 0, none⟩) hd8.out.b0.lt (hd8.out.far HLT.out w.heap.size (Nat.le_refl _))).trans (hd8.out.b0.cell 0 _ rfl))
            ((ha3.cell (p := ⟨w1.heap.size, 0, none⟩) hd8.out.b1.lt (hd8.out.far HLT.out w1.heap.size hd8.out.l1)).trans (hd8.out.b1.cell 0 _ rfl)))
        rw [HY.out] at CP
        have CP := Lib.hid CP
        have hm2 : (s1 : Int) - (s2 : Int) ≤ fr := by omega
        go_wp2_with (go_at_call 39; refine CP.out.mono ?_; rintro e w9 ⟨rfl, hE⟩; have HE := Lib.hid hE; clear hE)
        go_ret
        exact upd_from hd8.out.bel ⟨rfl, HE.out⟩
end
theorem dkcut_any {w : World} {S : List Nat} {a : Addr} {D : Dsk} (h : IsDk w S a D) (hD : D.ok 199) (s : ByteArray) (hs : s.size ≤ maxLen) (n : Int) (h0 : -9223372036854775808 ≤ n) (h1 : n ≤ 9223372036854775807) :
    Calls Tryz.prog 25 #[.pointer (some a), .string s, .int .i64 n] w (UpdK w S a (D.cut s n).1 (.int .i64 (D.cut s n).2)) := by
  obtain ⟨ad, bm, an, af, Sn, Sf, blk, rfl, rfl, k⟩ := h.out
  unfold Dsk.cut
  cases ho : D.fu.off with
  | true => rw [if_pos rfl]; exact dcut_off k s ho n
  | false =>
    rw [if_neg (by simp)]
    by_cases hc : D.id s = 0
    · rw [if_pos hc]; exact dcut_no k s (Dsk.okL hD) hs ho (id_none hD hc) n
    · rw [if_neg hc]
      refine dcut_yes k hD s hs n ho (id_some hD hc).1 (id_some hD hc).2 (fun g => ?_) (fun g => ?_)
      · rw [if_pos g]; exact ⟨rfl, rfl⟩
      · rw [if_neg g]
theorem dkappend_any {w : World} {S : List Nat} {a : Addr} {D : Dsk} (h : IsDk w S a D) (hD : D.ok 199) (s b : ByteArray) (hs : s.size ≤ maxLen) (hb : b.size ≤ 200) :
    Calls Tryz.prog 11 #[.pointer (some a), .string s, .string b] w (UpdK w S a (D.append s b).1 (.int .i64 (D.append s b).2)) := by
  obtain ⟨ad, bm, an, af, Sn, Sf, blk, rfl, rfl, k⟩ := h.out
  unfold Dsk.append
  cases ho : D.fu.off with
  | true => rw [if_pos rfl]; exact dappend_off k s ho b
  | false =>
    rw [if_neg (by simp)]
    by_cases hc : D.id s = 0
    · rw [if_pos hc]; exact dappend_no k s (Dsk.okL hD) hs ho (id_none hD hc) b
    · rw [if_neg hc]
      refine dappend_yes k hD s b hs hb ho (id_some hD hc).1 (id_some hD hc).2 (fun g => ?_) (fun g => ?_)
      · rw [if_pos g]; exact ⟨rfl, rfl⟩
      · rw [if_neg g]
end Go.Proofs.YtfgecjlccngddaaGreat
