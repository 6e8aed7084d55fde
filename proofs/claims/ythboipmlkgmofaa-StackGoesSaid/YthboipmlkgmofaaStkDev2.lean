/-
  The program's stacks (layer 24), second part: each, Depth.
-/
import Derived.Test.YthboipmlkgmofaaStkDev
namespace Go.Proofs.Ythboipmlkgmofaa
open Go.RowKit
set_option linter.unusedVariables false
set_option linter.unusedSimpArgs false

/-- A step of no edits. -/
def nilS : EPc := ⟨none, [], 0⟩
theorem smade (n : Nat) : (madeCells #[.slice none 0 0] (n * 1)).toList = sflat (List.replicate n nilS) := by
  refine List.ext_getElem? fun j => ?_
  rcases Nat.lt_or_ge j n with g | g
  · rw [sflat_get _ _ (by rw [List.length_replicate]; exact g), epget (by rw [List.length_replicate]; exact g), List.getElem_replicate]
    unfold madeCells
    simp [g, Nat.mod_one]
    rfl
  · rw [List.getElem?_eq_none (by simp [madeCells]; exact g), List.getElem?_eq_none (by rw [sflat_len, List.length_replicate]; omega)]
theorem sflat_set (l : List EPc) (k : Nat) (x : EPc) : (sflat l).set k x.v = sflat (l.set k x) := by
  unfold sflat
  rw [List.map_set]
/-- What makes a stack tells: a row of its own, its steps' rows too. -/
def RetStk (w : World) (L : List (List Edt)) (e : Ending) (w' : World) : Prop := ∃ a c l, e = .returned (.slice a l.length c) ∧ lsP l = L ∧ SRow w' w.heap.size ⟨a, l, c⟩ ∧ (∃ g, a = some ⟨g, 0, none⟩ ∧ w.heap.size ≤ g ∧ ∀ x ∈ l, ERow w' (g + 1) x) ∧ w'.ownsRow w.heap.size 25 1 (.slice a l.length c) l.length (sflat l) ∧ Below w.heap.size w w'
theorem own_mono {w : World} {base b2 size n : Nat} {e : TypeId} {v : Value} {xs : List Value} (h : w.ownsRow base e size v n xs) (hb : b2 ≤ base) : w.ownsRow b2 e size v n xs := by
  refine ⟨h.1, ?_⟩
  rcases h.2 with h2 | ⟨g, cap, cur, hv, hg0, hr⟩
  · exact .inl h2
  · exact .inr ⟨g, cap, cur, hv, Nat.le_trans hb hg0, hr⟩

set_option maxRecDepth 100000 in
set_option maxHeartbeats 1600000 in
theorem each_any (a : Option Addr) (l : List EPc) (c : Nat) (w : World) (hp : SPcs w ⟨a, l, c⟩) (hl : l.length ≤ 1000) (hb : ∀ x ∈ l, x.l.length ≤ 1000000) :
    Calls Try.prog 19 #[.slice a l.length c, .func (.func 20) #[] #[]] w (RetStk w (lsP l)) := by
  obtain ⟨i0, hi, hz0, hz1, hz2⟩ := info_parts step_info
  obtain ⟨n, hn⟩ : ∃ n, l.length = n := ⟨_, rfl⟩
  obtain ⟨wM, hrun, hown, hgrow⟩ := run_make_full (P := Try.prog) w w.heap.size 39 25 i0 _ 1 Try.underlying39 hi hz0 hz1 .i64 .i64 n (by rw [hz2]; omega) (by unfold maxLen; omega) (Nat.le_refl _)
  have hbM : Below w.heap.size w wM := (Below.refl _ _).grown hgrow (Nat.le_refl _) (fun k hk => by cases hk)
  have hown : wM.ownsRow w.heap.size 25 1 (.slice (some ⟨w.heap.size, 0, none⟩) n n) n (sflat ([] ++ List.replicate (n - 0) nilS)) := by
    rw [List.nil_append, Nat.sub_zero, ← smade]
    exact hown
  obtain ⟨g, hg⟩ : ∃ g, w.heap.size = g := ⟨_, rfl⟩
  rw [hn] at hl ⊢
  have HG := Lib.hid hg; have HP := Lib.hid hp; have HN := Lib.hid hn; have HOWN := Lib.hid hown; have HBM := Lib.hid hbM; have HBB := Lib.hid hb
  rw [hg] at hrun
  clear hn hown hgrow hbM hg hi hz0 hz1 hz2 hp hb
  go_enter Try.func19, Try.ntmps19
  go_wp2
  clear hrun
  go_loopw [13] (fun i wr => ∃ (k : Nat) (qs : List EPc), k ≤ n ∧ i = .int .i64 k ∧ qs.length = k ∧ wr.ownsRow w.heap.size 25 1 (.slice (some ⟨g, 0, none⟩) n n) n (sflat (qs ++ List.replicate (n - k) nilS)) ∧ lsP qs = (lsP l).take k ∧ (∀ x ∈ qs, ERow wr (g + 1) x) ∧ Below w.heap.size w wr) (fun i _ => n - (intOf i).toNat)
  case atStart => exact ⟨0, [], Nat.zero_le _, rfl, rfl, by rw [← HG.out]; exact HOWN.out, rfl, fun x hx => absurd hx (by simp), HBM.out⟩
  case round =>
    obtain ⟨k, qs, hk, rfl, hqk, hown, hqs, hall, hbel⟩ := hrel
    by_cases hlt : k < n
    · have hkl : k < l.length := by rw [HN.out]; exact hlt
      have hpr := HP.out.later hbel
      obtain ⟨ad, rfl, hab, q0⟩ := hpr.row k hkl
      have hx1 := hpr.all.at k hkl
      have hx2 := HBB.out (l[k]!) (by rw [epget hkl]; exact List.getElem_mem hkl)
      have hx3 : lsP qs ++ [(l[k]!).l] = (lsP l).take (k + 1) := by rw [ltake (by rw [lsP_len]; exact hkl), hqs, lsP_get l k hkl]
      obtain ⟨x, hx⟩ : ∃ x, l[k]! = x := ⟨_, rfl⟩
      rw [hx] at q0 hx1 hx2 hx3
      obtain ⟨xa, xl, xc⟩ := x
      simp only [EPc.v] at q0 hx2 hx3
      have hgl : g < wr.heap.size := (hown.lt _ rfl).2
      have hbx : Below wr.heap.size wr (wr.alloc (.cells #[.slice xa xl.length xc] 25)) := (Below.refl _ _).alloc (Nat.le_refl _) _
      have co := own_any xa xl xc _ (hx1.later hbx) hx2
      obtain ⟨m, hm⟩ : ∃ m, xl.length = m := ⟨_, rfl⟩
      have CO := Lib.hid co; have HO := Lib.hid hown; have HM := Lib.hid hm; have HX3 := Lib.hid hx3; have HALL := Lib.hid hall; have HBX := Lib.hid hbx; have HGL := Lib.hid hgl; have HQ := Lib.hid hqk
      rw [hm] at q0 CO HBX
      have b0 : (0 : Int) ≤ (k : Int) := by omega
      have b1 : (k : Int) < (n : Int) := by omega
      clear co hown hm hx hx1 hx2 hx3 hall hbx hgl hab hpr hqs hqk
      go_wp2_with fail
      refine CO.out.mono ?_
      rintro e w3 ⟨a3, c3, rfl, hr3, hb3⟩
      rw [HM.out]
      have hb4 : Below wr.heap.size wr w3 := HBX.out.trans (hb3.mono HBX.out.size)
      have HO3 := Lib.hid (own_on HO.out hb4)
      have HB3 := Lib.hid (hbel.trans (hb4.mono hbel.size))
      have f0 := HO3.out.frozenAt k
      have hkq : k < (qs ++ List.replicate (n - k) nilS).length := by rw [List.length_append, List.length_replicate, HQ.out]; omega
      have q3 := (HO3.out.cellAt k (by omega)).trans (sflat_get _ k hkq)
      rw [show (qs ++ List.replicate (n - k) nilS)[k]! = nilS by rw [epget hkq, List.getElem_append_right (by rw [HQ.out]; exact Nat.le_refl _), List.getElem_replicate]] at q3
      have q3 : w3.cell? ⟨g, k, none⟩ = some (.slice none 0 0) := q3
      have HO4 := Lib.hid (HO3.out.stored k (.slice a3 xl.length c3)).1
      have HE : sflat ((qs ++ List.replicate (n - k) nilS).set k ⟨a3, xl, c3⟩) = sflat ((qs ++ [⟨a3, xl, c3⟩]) ++ List.replicate (n - (k + 1)) nilS) := by
        rw [List.set_append_right _ _ (by rw [HQ.out]; exact Nat.le_refl _), HQ.out, Nat.sub_self, show n - k = (n - (k + 1)) + 1 by omega, List.replicate_succ, List.set_cons_zero, List.append_assoc]
        rfl
      have HS := Lib.hid ((sflat_set (qs ++ List.replicate (n - k) nilS) k ⟨a3, xl, c3⟩).trans HE)
      have HB4 := Lib.hid (HB3.out.setCell (p := ⟨g, k, none⟩) (Nat.le_of_eq HG.out) (.slice a3 m c3))
      have HR3 := Lib.hid ((hr3.mono (b2 := g + 1) (by have := HGL.out; simp; omega)).set (p := ⟨g, k, none⟩) (Nat.lt_succ_self g) (.slice a3 m c3))
      have HAL := Lib.hid (fun x hx => ((HALL.out x hx).below hb4).set (p := ⟨g, k, none⟩) (Nat.lt_succ_self g) (.slice a3 m c3))
      clear hr3 hb3 hb4 hbel q0 HE hkq
      go_wp2
      go_roundw
      case rel =>
        refine ⟨k + 1, qs ++ [⟨a3, xl, c3⟩], by omega, by go_num, by rw [List.length_append, HQ.out]; rfl, ?_, by rw [lsP_app]; exact HX3.out, ?_, HB4.out⟩
        · have h := HO4.out
          have hS := HS.out
          simp only [EPc.v] at hS
          rw [hS, HM.out] at h
          exact h
        · intro x hx
          rcases List.mem_append.1 hx with hx | hx
          · exact HAL.out x hx
          · obtain rfl := List.mem_singleton.1 hx
            exact HR3.out
      case measure => simp [intOf]; omega
    · obtain rfl : k = n := by omega
      rw [Nat.sub_self, List.replicate_zero, List.append_nil] at hown
      have hown : wr.ownsRow w.heap.size 25 1 (.slice (some ⟨g, 0, none⟩) k k) qs.length (sflat qs) := by rw [hqk]; exact hown
      obtain ⟨a4, c4, ev, hrow⟩ := own_srow hown (fun x hx => (hall x hx).in)
      rw [hqk] at ev
      injection ev with e1 e2 e3
      subst e1
      subst e3
      have hq2 : lsP qs = lsP l := by rw [hqs, List.take_of_length_le (by rw [lsP_len, HN.out]; exact Nat.le_refl _)]
      have HROW := Lib.hid hrow; have HQ := Lib.hid hqk; have HOO := Lib.hid (show wr.ownsRow w.heap.size 25 1 (.slice (some ⟨g, 0, none⟩) qs.length k) qs.length (sflat qs) by have h := hown; rw [hqk] at h ⊢; exact h); have HQ2 := Lib.hid hq2; have HALL := Lib.hid hall
      clear hrow hown hqk hqs hall hq2
      go_wp2
      go_ret
      exact ⟨_, k, qs, by rw [HQ.out]; rfl, HQ2.out, HROW.out, ⟨g, rfl, Nat.le_of_eq HG.out, HALL.out⟩, HOO.out, hbel⟩

set_option maxRecDepth 100000 in
set_option maxHeartbeats 1600000 in
theorem depth_any (a : Option Addr) (l : List EPc) (c : Nat) (w : World) (hp : SPcs w ⟨a, l, c⟩) (hl : l.length ≤ 1000) (hb : ∀ x ∈ l, x.l.length ≤ 1000000) :
    Calls Try.prog 10 #[.slice a l.length c] w fun e w' => e = .returned (.int .i64 (depthL (lsP l) : Nat)) ∧ Below w.heap.size w w' := by
  have hbd : depthL (lsP l) ≤ 1000000000 := by
    have h1 := depthL_bound (L := lsP l) (b := 1000000) (fun x hx => by obtain ⟨y, hy, rfl⟩ := List.mem_map.1 hx; exact hb y hy)
    rw [lsP_len] at h1
    omega
  obtain ⟨n, hn⟩ : ∃ n, l.length = n := ⟨_, rfl⟩
  have HP := Lib.hid hp; have HN := Lib.hid hn; have HBD := Lib.hid hbd
  rw [hn] at hl ⊢
  clear hn hp hb hbd
  go_enter Try.func10, Try.ntmps10
  go_wp2
  go_loopw [3, 8] (fun z i wr => ∃ k : Nat, k ≤ n ∧ i = .int .i64 k ∧ z = .int .i64 (depthL ((lsP l).take k) : Nat) ∧ Below w.heap.size w wr) (fun _ i _ => n - (intOf i).toNat)
  case atStart => exact ⟨0, Nat.zero_le _, rfl, rfl, Below.refl _ _⟩
  case round =>
    obtain ⟨k, hk, rfl, rfl, hbel⟩ := hrel
    have hle := Nat.le_trans (depthL_le (lsP l) k) HBD.out
    by_cases hlt : k < n
    · have hkl : k < l.length := by rw [HN.out]; exact hlt
      obtain ⟨ad, rfl, hab, q0⟩ := (HP.out.later hbel).row k hkl
      have h2 := depthL_more (lsP l) k (by rw [lsP_len]; exact hkl)
      have hle2 := Nat.le_trans (depthL_le (lsP l) (k + 1)) HBD.out
      rw [lsP_get l k hkl] at h2
      obtain ⟨x, hx⟩ : ∃ x, l[k]! = x := ⟨_, rfl⟩
      rw [hx] at q0 h2
      obtain ⟨xa, xl, xc⟩ := x
      simp only [EPc.v] at q0 h2
      obtain ⟨m, hm⟩ : ∃ m, xl.length = m := ⟨_, rfl⟩
      rw [hm] at q0 h2
      obtain ⟨s, hs⟩ : ∃ s, depthL ((lsP l).take k) = s := ⟨_, rfl⟩
      rw [hs] at h2 hle ⊢
      have HX := Lib.hid h2
      have hb3 : s + m ≤ 1000000000 := by omega
      have b0 : (0 : Int) ≤ (k : Int) := by omega
      have b1 : (k : Int) < (n : Int) := by omega
      clear hx hm hs h2 hle2 hab
      go_wp2
      go_roundw
      case rel => exact ⟨k + 1, by omega, by go_num, by rw [HX.out]; go_num, hbel.alloc hbel.size _⟩
      case measure => simp [intOf]; omega
    · obtain rfl : k = n := by omega
      have hz : depthL ((lsP l).take k) = depthL (lsP l) := by rw [List.take_of_length_le (by rw [lsP_len, HN.out]; exact Nat.le_refl _)]
      rw [hz] at hle ⊢
      clear hz
      go_wp2
      go_ret
      exact ⟨rfl, hbel⟩
end Go.Proofs.Ythboipmlkgmofaa
