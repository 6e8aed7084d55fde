/-
  The library's slices.Grow, slices.Concat over stacks.
-/
import Derived.Test.YthboipmlkgmofaaStkRow
import Derived.Test.YthboipmlkgmofaaStackShelf
import Derived.Laws.AppendOwnNone
namespace Go.Proofs.Ythboipmlkgmofaa
open Go.Shelf Go.RowKit
set_option linter.unusedVariables false

set_option maxHeartbeats 800000 in
/-- Room for n of them. -/
theorem sgrow_any (n : Nat) (hn : n ≤ 1000000) (w : World) : Calls Try.prog 35 #[.slice none 0 0, .int .i64 n] w fun e w' => ∃ v, e = .returned v ∧ w'.ownsRow w.heap.size 25 1 v 0 [] ∧ Below w.heap.size w w' := by
  obtain ⟨i0, hi, hz0, hz1, hz2⟩ := info_parts step_info
  rcases Nat.eq_zero_or_pos n with rfl | hp
  · have h := Any8.slices_Grow_room Try.mkGrowS none 0 0 0 w (Nat.le_refl _) (by omega) (by omega) (by omega)
    change Calls Try.prog 35 _ _ _ at h
    refine h.mono ?_
    rintro e w' ⟨rfl, rfl⟩
    exact ⟨_, rfl, World.ownsRow_nil _ _ _ _, Below.refl _ _⟩
  · have h := Any8.slices_Grow_grow Try.mkGrowS i0 _ hi hz0 (by rw [hz1]; decide) none 0 0 n [] w (Nat.le_refl _) (by omega) (by rw [hz2]; omega) (by omega) (by simp) (fun _ => rfl) (fun a e => by cases e)
    change Calls Try.prog 35 _ _ _ at h
    refine h.mono ?_
    rintro e w' ⟨rfl, rfl⟩
    have hge := grownCap_ge w (0 + n) 0 (Try.mkGrowS_ren.t 25)
    have hle := grownCap_le_maxLen w (0 + n) 0 (Try.mkGrowS_ren.t 25) (by unfold maxLen; omega)
    refine ⟨_, rfl, World.ownsRow_made w.drew _ _ (Nat.le_refl _) hle ?_, ((Below.refl w.heap.size w).drew).alloc (Nat.le_refl _) _⟩
    simp only [Nat.zero_add] at hge ⊢
    simp [Builtin.zeroCells, Value.cells]
    omega

set_option maxRecDepth 100000 in
set_option maxHeartbeats 1600000 in
theorem sconcat_any (r : Nat) (ps : List SPc) (w : World) (hr : r < w.heap.size) (hps : ∀ k, k < ps.length → w.cell? ⟨r, k, none⟩ = some (ps[k]!).v) (hp : ∀ k, k < ps.length → SPcs w ps[k]!) (hl : ps.length ≤ 1000) (hs : ssumP ps ≤ 100000) :
    Calls Try.prog 28 #[.slice (some ⟨r, 0, none⟩) ps.length ps.length] w (RetSRow w (scatP ps)) := by
  obtain ⟨i0, hi, hz0, hz1, hz2⟩ := info_parts step_info
  obtain ⟨m, hm⟩ : ∃ m, ps.length = m := ⟨_, rfl⟩
  rw [hm] at hl ⊢
  have HM := Lib.hid hm; have HPS := Lib.hid hps; have HP := Lib.hid hp; have HS := Lib.hid hs; have HR := Lib.hid hr
  clear hm hps hp hs hr
  go_enter Try.func28, Try.ntmps28
  go_wp2
  go_loop [3, 11] (fun z i => ∃ k : Nat, k ≤ m ∧ i = .int .i64 k ∧ z = .int .i64 (ssumP (ps.take k) : Nat)) (fun _ i => m - (intOf i).toNat)
  case atStart => exact ⟨0, Nat.zero_le _, rfl, rfl⟩
  case round =>
    obtain ⟨k, hk, rfl, rfl⟩ := hrel
    have hb := Nat.le_trans (ssumP_le ps k) HS.out
    by_cases hlt : k < m
    · have hkl : k < ps.length := by rw [HM.out]; exact hlt
      have q0 := HPS.out k hkl
      have h2 := ssumP_more ps k hkl
      have hb2 := Nat.le_trans (ssumP_le ps (k + 1)) HS.out
      obtain ⟨x, hx⟩ : ∃ x, ps[k]! = x := ⟨_, rfl⟩
      rw [hx] at q0 h2
      obtain ⟨xa, xl, xc⟩ := x
      simp only [SPc.v] at q0 h2
      obtain ⟨n, hn⟩ : ∃ n, xl.length = n := ⟨_, rfl⟩
      rw [hn] at q0 h2
      obtain ⟨s, hs⟩ : ∃ s, ssumP (ps.take k) = s := ⟨_, rfl⟩
      rw [hs] at h2 hb ⊢
      have HX := Lib.hid h2
      have hb3 : s + n ≤ 100000 := by omega
      have b0 : (0 : Int) ≤ (k : Int) := by omega
      have b1 : (k : Int) < (m : Int) := by omega
      have b2 : ¬ (s : Int) + (n : Int) < 0 := by omega
      clear hx hn hs h2 hb2
      go_wp2
      go_round
      case rel => exact ⟨k + 1, by omega, by go_num, by rw [HX.out]; go_num⟩
      case measure => simp [intOf]; omega
    · obtain rfl : k = m := by omega
      have hz : ssumP (ps.take k) = ssumP ps := by rw [List.take_of_length_le (by rw [HM.out]; exact Nat.le_refl _)]
      rw [hz] at hb ⊢
      obtain ⟨s, hs⟩ : ∃ s, ssumP ps = s := ⟨_, rfl⟩
      rw [hs] at hb ⊢
      have cg := sgrow_any s (by omega) w
      have CG := Lib.hid cg; have HSS := Lib.hid hs
      clear hz hs cg
      go_wp2_with fail
      refine CG.out.mono ?_
      rintro e w1 ⟨v, rfl, hown0, hb1⟩
      have HB1 := Lib.hid hb1; have HO := Lib.hid hown0
      clear hb1 hown0
      go_wp2
      go_loopw [6, 27] (fun v i wr => ∃ j : Nat, j ≤ k ∧ i = .int .i64 j ∧ wr.ownsRow w.heap.size 25 1 v (scatP (ps.take j)).length (sflat (scatP (ps.take j))) ∧ Below w.heap.size w wr) (fun _ i _ => k - (intOf i).toNat)
      case atStart => exact ⟨0, Nat.zero_le _, rfl, HO.out, HB1.out⟩
      case round =>
        obtain ⟨j, hj, rfl, hown, hbel⟩ := hrel
        have hlen := scatP_len (ps.take j)
        have hle := Nat.le_trans (ssumP_le ps j) HS.out
        by_cases hlt : j < k
        · have hjl : j < ps.length := by rw [HM.out]; exact hlt
          have q0 := (hbel.cell (p := ⟨r, j, none⟩) HR.out).trans (HPS.out j hjl)
          have hp := HP.out j hjl
          have h2 := scatP_more ps j hjl
          have h3 := ssumP_more ps j hjl
          have hle2 := Nat.le_trans (ssumP_le ps (j + 1)) HS.out
          obtain ⟨x, hx⟩ : ∃ x, ps[j]! = x := ⟨_, rfl⟩
          rw [hx] at q0 hp h2 h3
          obtain ⟨o, ho⟩ : ∃ o, scatP (ps.take j) = o := ⟨_, rfl⟩
          rw [ho] at hown hlen h2
          have hol : o.length ≤ 100000 := by omega
          have hxl : o.length + x.l.length ≤ 100000 := by omega
          have H2 := Lib.hid h2
          have b0 : (0 : Int) ≤ (j : Int) := by omega
          have b1 : (j : Int) < (k : Int) := by omega
          clear hx ho h2 h3 hlen hle hle2
          obtain ⟨xa, xl, xc⟩ := x
          cases xa with
          | none =>
            have e0 : xl = [] := hp.len rfl
            have e1 : xc = 0 := hp.nil rfl
            subst e0
            subst e1
            simp only [SPc.v, List.length_nil] at q0
            clear hp hxl
            go_wp2_with (at_builtin; refine wpList_append_own_none rfl _ _ 39 rfl w.heap.size 25 i0 1 Try.underlying39 hi _ _ _ rfl hown rfl ?_)
            go_roundw
            case rel => exact ⟨j + 1, by omega, by go_num, by rw [H2.out, List.append_nil]; exact hown, hbel⟩
            case measure => simp [intOf]; omega
          | some ad =>
            have hnews := scs_news (hp.row.below (fun _ h => h) hbel)
            simp only [SPc.v] at q0
            have hfl := sflat_len xl
            have hofl := sone_flat xl
            obtain ⟨n, hn⟩ : ∃ n, xl.length = n := ⟨_, rfl⟩
            simp only [hn] at q0 hxl hfl
            have HNW := Lib.hid hnews; have HFL := Lib.hid hfl; have HOF := Lib.hid hofl; have HNN := Lib.hid hn
            clear hp hnews hfl hofl hn
            go_wp2_with (at_builtin; refine wpList_append_own _ rfl _ _ 39 rfl w.heap.size 25 i0 _ 1 24 Try.underlying39 hi hz0 hz1 hz2 rfl (by decide) _ _ _ rfl hown ad n xc (sflat xl) rfl HFL.out HNW.out HOF.out (by unfold maxLen; omega) (by omega) hbel.size ?_; intro v1 w1 ho1 hg1 _)
            have hb1 : Below w.heap.size w w1 := hbel.grown hg1 hbel.size (own_block hown)
            have ho2 : w1.ownsRow w.heap.size 25 1 v1 (scatP (ps.take (j + 1))).length (sflat (scatP (ps.take (j + 1)))) := by
              rw [H2.out, sflat_app, List.length_append, HNN.out]
              exact ho1
            have HO2 := Lib.hid ho2; have HB2 := Lib.hid hb1
            clear ho1 hg1 hown hbel hb1 ho2 q0
            go_wp2
            go_roundw
            case rel => exact ⟨j + 1, by omega, by go_num, HO2.out, HB2.out⟩
            case measure => simp [intOf]; omega
        · obtain rfl : j = k := by omega
          rw [List.take_of_length_le (by rw [HM.out]; exact Nat.le_refl _)] at hown
          obtain ⟨ad, cp, rfl, hn⟩ := own_srow hown ((scatP_all HP.out).later hbel)
          have HNN := Lib.hid hn; clear hn hown
          go_wp2
          go_ret
          exact ⟨ad, cp, rfl, HNN.out, hbel⟩
/-- Two stacks, one behind the other. -/
theorem scat2 {W : World} {p q : SPc} (i j : Nat) (hp : SPcs W p) (hq : SPcs W q) (hi : p.l.length = i) (hj : q.l.length = j) (hs : i + j ≤ 1000) (t : TypeId) :
    Calls Try.prog 28 #[.slice (some ⟨W.heap.size, 0, none⟩) 2 2] (W.alloc (.cells #[.slice p.a i p.c, .slice q.a j q.c] t)) (RetSRow (W.alloc (.cells #[.slice p.a i p.c, .slice q.a j q.c] t)) (p.l ++ q.l)) := by
  have hb : Below W.heap.size W (W.alloc (.cells #[.slice p.a i p.c, .slice q.a j q.c] t)) := (Below.refl W.heap.size W).alloc (Nat.le_refl _) _
  have h := sconcat_any W.heap.size [p, q] (W.alloc (.cells #[.slice p.a i p.c, .slice q.a j q.c] t)) (by simp) (fun k hk => by
    match k, hk with
    | 0, _ => simp [World.cell?_alloc_new, SPc.v, hi]
    | 1, _ => simp [World.cell?_alloc_new, SPc.v, hj]) (fun k hk => by
    match k, hk with
    | 0, _ => exact hp.later hb
    | 1, _ => exact hq.later hb) (by simp) (by simp [ssumP]; omega)
  have e : scatP [p, q] = p.l ++ q.l := by simp [scatP]
  rw [e] at h
  exact h
end Go.Proofs.Ythboipmlkgmofaa
