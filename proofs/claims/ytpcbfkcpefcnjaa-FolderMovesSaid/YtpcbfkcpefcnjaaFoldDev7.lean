/-
  Contracts of the program's folder (layer 9), seventh part: all numbers that can be there still.
-/
import Derived.Test.YtpcbfkcpefcnjaaFoldDev6
namespace Go.Proofs.Ytpcbfkcpefcnjaa
open Go.RowKit
set_option linter.unusedVariables false

/-- A row of changes at whatever address, none if there is none. -/
def ChgsO (w : World) (B : Nat) (a : Option Addr) (cs : List Chg) : Prop := ∀ (k : Nat) (h : k < cs.length), ∃ ad, a = some ad ∧ ad.block < B ∧ w.cell? (ad.add (k * 4)) = some (.int .i64 (cs[k]).kind) ∧ w.cell? ⟨(ad.add (k * 4)).block, (ad.add (k * 4)).off + 1, none⟩ = some (.string (cs[k]).name) ∧
    w.cell? ⟨(ad.add (k * 4)).block, (ad.add (k * 4)).off + 2, none⟩ = some (.string (cs[k]).dest) ∧ w.cell? ⟨(ad.add (k * 4)).block, (ad.add (k * 4)).off + 3, none⟩ = some (.int .i64 (cs[k]).id)
theorem own_chgsO {w : World} {base : Nat} {t : TypeId} {v : Value} {cs : List Chg} (h : w.ownsRow base t 4 v cs.length (Chg.flat cs)) : ∃ a c, v = .slice a cs.length c ∧ cs.length ≤ c ∧ ChgsO w w.heap.size a cs := by
  rcases own_form h with ⟨rfl, h0⟩ | ⟨g, cap, rfl, h1, h2⟩
  · exact ⟨none, 0, by rw [h0], by omega, fun k hk => absurd hk (by omega)⟩
  · have hc := own_chgs h
    exact ⟨_, cap, rfl, h1, fun k hk => ⟨_, rfl, (h.lt g rfl).2, hc k hk⟩⟩
theorem ChgsO.below {w w' : World} {B : Nat} {a : Option Addr} {cs : List Chg} (h : ChgsO w B a cs) (hb : Below B w w') : ChgsO w' B a cs := fun k hk => by
  obtain ⟨ad, e, hl, c0, c1, c2, c3⟩ := h k hk
  have hk2 : (ad.add (k * 4)).block = ad.block := add_block _ _
  exact ⟨ad, e, hl, (hb.cell (p := ad.add (k * 4)) (by rw [hk2]; exact hl)).trans c0, (hb.cell (p := ⟨(ad.add (k * 4)).block, (ad.add (k * 4)).off + 1, none⟩) (by show (ad.add (k * 4)).block < B; rw [hk2]; exact hl)).trans c1,
    (hb.cell (p := ⟨(ad.add (k * 4)).block, (ad.add (k * 4)).off + 2, none⟩) (by show (ad.add (k * 4)).block < B; rw [hk2]; exact hl)).trans c2, (hb.cell (p := ⟨(ad.add (k * 4)).block, (ad.add (k * 4)).off + 3, none⟩) (by show (ad.add (k * 4)).block < B; rw [hk2]; exact hl)).trans c3⟩
theorem sorted_ids {zs : List Int} {l : List Ent} {cs : List Chg} (hm : mays l cs) (hz : zs.Perm (l.map (·.id))) : Lib.compact ((zs ++ putIds cs).mergeSort fun x y => decide (x ≤ y)) = idsK (hist l cs) := by
  refine compact_ids hm ?_ fun n => ?_
  · have := List.pairwise_mergeSort (le := fun x y : Int => decide (x ≤ y)) (fun a b c h1 h2 => by simp only [decide_eq_true_eq] at *; omega) (fun a b => by simp only [Bool.or_eq_true, decide_eq_true_eq]; omega) (zs ++ putIds cs)
    exact this.imp fun h => by simpa using h
  · rw [(List.mergeSort_perm _ _).mem_iff, List.mem_append, List.mem_append, hz.mem_iff]
set_option maxRecDepth 100000 in
set_option maxHeartbeats 3200000 in
theorem foids_f {w : World} {a bn bk : Nat} {v : Value} {cs : List Chg} {l : List Ent} (h : Fold w a bn bk v cs l) (hn : l.length ≤ 1000000) (hcs : cs.length ≤ 1000000) :
    Calls Try.prog 23 #[.pointer (some ⟨a, 0, none⟩)] w (RetInts w (idsK (hist l cs))) := by
  obtain ⟨i0, hi, hz0, hz1, hz2⟩ := info_parts int_info
  obtain ⟨c0, c1, c2, f0, f1, f2⟩ := blk3 h.blk
  have CO := Lib.hid (foown_yes h)
  have CV := Lib.hid (fovals_any bk w)
  have CC := Lib.hid (focollect_any h.kept h.oke hn)
  have HM := Lib.hid h.may; have HB := Lib.hid h.blk
  obtain ⟨av, cv, rfl, hcv, hch⟩ := own_chgsO h.row
  have HCH := Lib.hid hch
  clear h hch
  obtain ⟨n, hnn⟩ : ∃ n, cs.length = n := ⟨_, rfl⟩
  rw [hnn] at c2 hcs hcv HB
  have HN := Lib.hid hnn; have HL := Lib.hid hn
  clear hnn hn hcv
  go_enter Try.func23, Try.ntmps23
  go_wp2_with (first
    | (go_at_call 29; refine CO.out.mono ?_; rintro e w' ⟨rfl, rfl⟩)
    | (go_at_call 43; refine CV.out.mono ?_; rintro e w' ⟨rfl, rfl⟩)
    | (go_at_call 42; refine CC.out.mono ?_; rintro e w1 ⟨v1, zs, rfl, hz, hrow, hb⟩; have hb0 : Below w.heap.size w w1 := ((Below.refl _ w).alloc (Nat.le_refl _) (.cells #[.map (some bk)] 48)).trans (hb.mono (Nat.le_succ _)); have d2 := (hb0.cell (p := ⟨a, 2, none⟩) (lt_of_block HB.out)).trans c2; have hr0 := own_base hrow (Nat.le_succ w.heap.size); have HZ := Lib.hid hz; have HB0 := Lib.hid hb0; have HR0 := Lib.hid hr0; clear hz hrow hb hb0 hr0 c0 c1 c2 f0 f1 f2))
  go_loopw [3, 19] (fun u i wr => ∃ k : Nat, k ≤ n ∧ i = .int .i64 k ∧ wr.ownsRow w.heap.size 3 1 u (zs ++ putIds (cs.take k)).length ((zs ++ putIds (cs.take k)).map (Value.int .i64)) ∧ Below w.heap.size w wr) (fun _ i _ => n - (intOf i).toNat)
  case atStart => exact ⟨0, Nat.zero_le _, rfl, by simpa [putIds] using HR0.out, HB0.out⟩
  case round =>
    obtain ⟨k, hk, rfl, hown, hbel⟩ := hrel
    by_cases hlt : k < n
    · have hkl : k < cs.length := by rw [HN.out]; exact hlt
      obtain ⟨ad, rfl, hab, e0, e1, e2, e3⟩ := (HCH.out.below hbel) k hkl
      have hyes := putIds_yes cs k hkl
      have hno := putIds_no cs k hkl
      have hpl := putIds_len cs k
      have hzl : zs.length ≤ 1000000 := by rw [HZ.out.length_eq, List.length_map]; exact HL.out
      obtain ⟨x, hx⟩ : ∃ x, cs[k]'hkl = x := ⟨_, rfl⟩
      rw [hx] at e0 e1 e2 e3 hyes hno
      obtain ⟨kd, s, d, id⟩ := x
      simp only at e0 e1 e2 e3 hyes hno
      have b0 : (0 : Int) ≤ (k : Int) := by omega
      have b1 : (k : Int) < (n : Int) := by omega
      clear hx d2
      by_cases hkd : kd = 0
      · have HY := Lib.hid (hyes hkd)
        subst hkd
        have hnw : ∀ j u, ([.int .i64 id] : List Value)[j]? = some u → ((wr.alloc (.cells #[.int .i64 0, .string s, .string d, .int .i64 id] 60)).alloc (.cells #[.int .i64 id] 3)).cell? ((⟨wr.heap.size + 1, 0, none⟩ : Addr).add j) = some u := by
          have := news_int (wr.alloc (.cells #[.int .i64 0, .string s, .string d, .int .i64 id] 60)) id 3
          simpa using this
        have hsz := hbel.size
        have NW := Lib.hid hnw
        clear hyes hno hnw
        go_wp2_with (at_builtin; refine wpList_append_own _ rfl _ _ 55 rfl w.heap.size 3 i0 (.int .i64 0) 1 8 Try.underlying55 hi hz0 hz1 hz2 rfl (by decide) _ _ _ rfl ((hown.alloc _).alloc _) ⟨wr.heap.size + 1, 0, none⟩ 1 1 [.int .i64 id] rfl rfl NW.out (one_int _) (by rw [List.length_append]; unfold maxLen; omega) (by rw [List.length_append]; omega) (by simp; omega) ?_; intro v' w2 hown' hgrow _)
        have hb2 : Below w.heap.size w w2 := ((hbel.alloc hsz _).alloc (by simp; omega) _).grown hgrow (by simp; omega) (own_block hown)
        have ho2 : w2.ownsRow w.heap.size 3 1 v' (zs ++ putIds (cs.take (k + 1))).length ((zs ++ putIds (cs.take (k + 1))).map (Value.int .i64)) := by
          rw [HY.out, ← List.append_assoc, List.map_append, @List.length_append _ (zs ++ putIds (cs.take k)) [id]]
          exact hown'
        have HO2 := Lib.hid ho2; have HB2 := Lib.hid hb2
        clear hown' hgrow hown hbel ho2 hb2
        go_wp2
        go_roundw
        case rel => exact ⟨k + 1, by omega, by go_num, HO2.out, HB2.out⟩
        case measure => simp [intOf]; omega
      · have HY := Lib.hid (hno hkd)
        have t0 : (kd == 0) = false := beq_eq_false_iff_ne.2 hkd
        have hsz := hbel.size
        have HO := Lib.hid hown
        clear hyes hno hown
        go_wp2
        go_roundw
        case rel => exact ⟨k + 1, by omega, by go_num, by rw [HY.out]; exact HO.out.alloc _, hbel.alloc hsz _⟩
        case measure => simp [intOf]; omega
    · obtain rfl : k = n := by omega
      have hzl : zs.length ≤ 1000000 := by rw [HZ.out.length_eq, List.length_map]; exact HL.out
      have hpl := putIds_len cs k
      have hlen : (zs ++ putIds (cs.take k)).length ≤ 100000000 := by rw [List.length_append]; omega
      have CS := Lib.hid (fosort_any hown hlen)
      rw [List.take_of_length_le (by rw [HN.out]; exact Nat.le_refl _)] at CS hown hlen
      have HO := Lib.hid hown; have HLN := Lib.hid hlen; have HBEL := Lib.hid hbel
      clear hown hlen hpl hzl hbel
      go_wp2_with (first
        | (go_at_call 44; refine CS.out.mono ?_; rintro e w3 ⟨rfl, ho3, hg3⟩; have hb3 : Below w.heap.size w w3 := HBEL.out.grown hg3 HBEL.out.size (own_block HO.out); have HO3 := Lib.hid ho3; have HB3 := Lib.hid hb3; clear ho3 hg3 hb3)
        | (go_at_call 45; refine (focompact_any (zs := (zs ++ putIds cs).mergeSort fun x y => decide (x ≤ y)) (by rw [List.length_mergeSort]; exact HO3.out) (by rw [List.length_mergeSort]; exact HLN.out)).mono ?_; rintro e w4 ⟨v4, rfl, ho4, hg4⟩; have hb4 : Below w.heap.size w w4 := HB3.out.grown hg4 HB3.out.size (own_block HO3.out); have HO4 := Lib.hid ho4; have HB4 := Lib.hid hb4; clear ho4 hg4 hb4))
      go_ret
      have ho := HO4.out
      rw [sorted_ids HM.out HZ.out] at ho
      obtain ⟨a4, c4, rfl, hi4⟩ := own_ints ho
      exact ⟨a4, c4, rfl, hi4, HB4.out⟩
end Go.Proofs.Ytpcbfkcpefcnjaa
