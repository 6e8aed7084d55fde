/-
  The program's marks (layer 22), sixth part: Between.
-/
import Derived.Test.YtimlfgjljnkbcaaStable
import Derived.Test.YtimlfgjljnkbcaaMarkRef4
namespace Go.Proofs.Ytimlfgjljnkbcaa
open Go.Shelf Go.RowKit
set_option linter.unusedVariables false

/-- Behind the sort: what lay below is as it was; the row reads as what is sorted. -/
theorem sorted_below {w w2 w3 : World} {g base : Nat} {f : Array Mrk} (hw : base ≤ w.heap.size) (hb : Below base w w2) (hg : base ≤ g) (S : SWK encM 2 w2 g 0 f w3) : Below base w w3 := by
  obtain ⟨n, os, rfl⟩ := S
  have h1 : Below base w (Sort.putRowK encM 2 (Sort.ahead w2 n) g 0 f) := Lib.below_putRow hb hg
  have h2 := Lib.below_grow base (Sort.putRowK encM 2 (Sort.ahead w2 n) g 0 f) (Nat.le_trans hw h1.size) 0 os
  exact h1.trans h2
theorem sorted_row {w2 w3 : World} {g : Nat} {d f : Array Mrk} (R : RowK encM 2 w2 g 0 d) (S : SWK encM 2 w2 g 0 f w3) (hs : f.size = d.size) (B : Nat → Prop) (hB : B g) : Mrks w3 B (some ⟨g, 0, none⟩) f.toList := fun k hk => by
  have hH := S.holds R.hblk R.hH hs
  have hk2 : k < f.size := by simpa using hk
  have c0 := (hH.cell hk2 (c := 0) (by omega)).1
  have c1 := (hH.cell hk2 (c := 1) (by omega)).1
  have e : f[k]! = f.toList[k] := by rw [getElem!_pos f k hk2]; simp
  rw [e] at c0 c1
  have e0 : (⟨g, 0, none⟩ : Addr).add (k * 2) = ⟨g, k * 2, none⟩ := by
    unfold Addr.add
    by_cases h : k * 2 = 0
    · simp [h]
    · simp [h]
  refine ⟨_, rfl, hB, ?_, ?_⟩
  · rw [e0]
    rw [show (⟨g, k * 2, none⟩ : Addr) = ⟨g, 0 + k * 2 + 0, none⟩ by simp]
    exact c0
  · rw [e0]
    rw [show (⟨g, k * 2 + 1, none⟩ : Addr) = ⟨g, 0 + k * 2 + 1, none⟩ by simp]
    exact c1
/-- A row of the call's own holds its marks. -/
theorem own_holds {w : World} {base g n cap : Nat} {t : TypeId} {l : List Mrk} (h : w.ownsRow base t 2 (.slice (some ⟨g, 0, none⟩) n cap) n (Mrk.flat l)) : Sort.HoldsK encM 2 w g 0 l.toArray := by
  have hl : l.length = n := by have := h.1; rw [Mrk.flat_len] at this; omega
  intro j hj
  have hj2 : j < n * 2 := by
    have : j < l.toArray.size * 2 := by simpa using hj
    simpa [hl] using this
  refine ⟨?_, h.frozenAt _⟩
  rw [show 0 + j = j by omega, h.cellAt j hj2, Sort.get_flatK _ _ _ _ (by simpa [hl] using hj2)]
  have hk : j / 2 < l.length := by omega
  obtain ⟨g0, g1⟩ := Mrk.flat_get l (j / 2) hk
  have e : l.toArray[j / 2]! = l[j / 2] := by rw [getElem!_pos l.toArray (j / 2) (by simpa using hk)]; simp
  rw [e]
  rcases (show j = j / 2 * 2 ∧ j % 2 = 0 ∨ j = j / 2 * 2 + 1 ∧ j % 2 = 1 by omega) with ⟨e1, e2⟩ | ⟨e1, e2⟩
  · rw [e2]
    conv => lhs; rw [e1]
    rw [g0]
    rfl
  · rw [e2]
    conv => lhs; rw [e1]
    rw [g1]
    rfl
theorem srt_list {f : Array Mrk} {n : Nat} (h : SrtM f 0 n) (hn : f.size = n) : SrtL f.toList := by
  unfold SrtL
  rw [List.pairwise_iff_getElem]
  intro i j hi hj hij
  have hi2 : i < f.size := by simpa using hi
  have hj2 : j < f.size := by simpa using hj
  have := h i j (Nat.zero_le _) hij (by omega)
  rw [getElem!_pos f i hi2, getElem!_pos f j hj2] at this
  simpa using this

set_option maxHeartbeats 800000 in
theorem insert_none (w : World) : Calls Try.prog 54 #[.slice none 0 0, .int .i64 0, .int .i64 0, .func (.func 44) #[] #[]] w fun e w' => e = .returned (.tuple #[]) ∧ w' = w := by
  go_enter Try.func54, Try.ntmps54
  go_wp2
  refine wp_loop_rounds 1 ?_
  rw [rounds_succ]
  go_wp2
  go_end0
  exact ⟨rfl, rfl⟩
set_option maxHeartbeats 800000 in
theorem stable_none (w : World) : Calls Try.prog 50 #[.slice none 0 0, .int .i64 0, .func (.func 44) #[] #[]] w fun e w' => e = .returned (.tuple #[]) ∧ w' = w := by
  go_enter Try.func50, Try.ntmps50
  go_wp2
  refine wp_loop_rounds 1 ?_
  rw [rounds_succ]
  go_wp2_with fail
  refine (insert_none _).mono ?_
  rintro e w1 ⟨rfl, rfl⟩
  go_wp2_with fail
  refine wp_loop_rounds 1 ?_
  rw [rounds_succ]
  go_wp2
  go_end0
  exact ⟨rfl, rfl⟩
set_option maxHeartbeats 800000 in
theorem sort_none (w : World) : Calls Try.prog 43 #[.slice none 0 0, .func (.func 44) #[] #[]] w fun e w' => e = .returned (.tuple #[]) ∧ w' = w := by
  go_enter Try.func43, Try.ntmps43
  go_wp2_with fail
  refine (stable_none _).mono ?_
  rintro e w1 ⟨rfl, rfl⟩
  go_wp2
  go_end0
  exact ⟨rfl, rfl⟩
set_option maxHeartbeats 800000 in
theorem sort_some (g cap n : Nat) (d : Array Mrk) (w : World) (hH : Sort.HoldsK encM 2 w g 0 d) (hblk : g < w.heap.size) (hn : d.size = n) (h40 : n ≤ 40) :
    Calls Try.prog 43 #[.slice (some ⟨g, 0, none⟩) n cap, .func (.func 44) #[] #[]] w (Sorted40 w g 0 d) := by
  have cs := stable_any g 0 cap d w hH hblk (by omega)
  rw [hn] at cs
  have CS := Lib.hid cs
  clear cs hH hn
  go_enter Try.func43, Try.ntmps43
  go_wp2_with fail
  refine CS.out.mono ?_
  rintro e w1 ⟨rfl, hs⟩
  have HS := Lib.hid hs
  clear hs
  go_wp2
  go_end0
  exact ⟨rfl, HS.out⟩

set_option maxRecDepth 100000 in
set_option maxHeartbeats 1600000 in
theorem mbetween_any (a : Option Addr) (l : List Mrk) (c : Nat) (f t : Nat) (B : Nat → Prop) (w : World) (hr : Mrks w B a l) (hB : ∀ b, B b → b < w.heap.size) (hl : l.length ≤ 40) (hpz : ∀ x ∈ l, 0 ≤ x.p ∧ x.p ≤ 4096) :
    Calls Try.prog 25 #[.slice a l.length c, .int .i64 f, .int .i64 t] w (RetMrks w (betM l f t)) := by
  obtain ⟨i0, hi, hz0, hz1, hz2⟩ := info_parts mrk_info
  obtain ⟨n, hn⟩ : ∃ n, l.length = n := ⟨_, rfl⟩
  rw [hn] at hl ⊢
  have HN := Lib.hid hn; have HR := Lib.hid hr
  clear hn hr hpz
  go_enter Try.func25, Try.ntmps25
  go_wp2
  go_loopw [7, 12] (fun v i wr => ∃ k : Nat, k ≤ n ∧ i = .int .i64 k ∧ SetR w (midM (l.take k) f t) v wr) (fun _ i _ => n - (intOf i).toNat)
  case atStart => exact ⟨0, Nat.zero_le _, rfl, World.ownsRow_nil _ _ _ _, Below.refl _ _⟩
  case round =>
    obtain ⟨k, hk, rfl, hown, hbel⟩ := hrel
    by_cases hlt : k < n
    · have hkl : k < l.length := by rw [HN.out]; exact hlt
      obtain ⟨ad, rfl, hab, q0, q1⟩ := (HR.out.below hB hbel) k hkl
      rw [← mget hkl] at q0 q1
      have hs := midM_take l f t k hkl
      have hlen := midM_len (l.take k) f t
      have hlk : (l.take k).length ≤ k := List.length_take_le _ _
      obtain ⟨x, hx⟩ : ∃ x, l[k]! = x := ⟨_, rfl⟩
      rw [hx] at q0 q1 hs
      obtain ⟨nm, id⟩ := x
      simp only at q0 q1 hs
      obtain ⟨o, ho⟩ : ∃ o, midM (l.take k) f t = o := ⟨_, rfl⟩
      rw [ho] at hs hlen hown
      have ol : o.length ≤ k := by omega
      clear hx ho hlen hlk
      have b0 : (0 : Int) ≤ (k : Int) := by omega
      have b1 : (k : Int) < (n : Int) := by omega
      obtain ⟨wb, hwb⟩ : ∃ wb, wr.alloc (.cells #[.string nm, .int .i64 id] 30) = wb := ⟨_, rfl⟩
      have hbb : Below w.heap.size w (wr.alloc (.cells #[.string nm, .int .i64 id] 30)) := hbel.alloc hbel.size _
      have hob : (wr.alloc (.cells #[.string nm, .int .i64 id] 30)).ownsRow w.heap.size 30 2 u7 o.length (Mrk.flat o) := hown.alloc _
      obtain ⟨z0, z1⟩ := box_mrk (N := wr.heap.size + 1) (by omega) (Below.refl (wr.heap.size + 1) (wr.alloc (.cells #[.string nm, .int .i64 id] 30)))
      rw [hwb] at hbb hob z0 z1
      by_cases he : (f : Int) ≤ id ∧ id ≤ (t : Int)
      · rw [if_pos he] at hs
        obtain ⟨g1, g2⟩ := he
        have HS := Lib.hid hs
        clear hs
        have tok1 : True := trivial
        go_wp2_with (at_builtin; have _t := tok1; go_loud (refine wpList_append_own _ rfl _ _ 22 rfl w.heap.size 30 i0 _ 2 24 Try.underlying22 hi hz0 hz1 hz2 rfl (by decide) _ _ _ rfl (hob.alloc _) ⟨wb.heap.size, 0, none⟩ 1 1 [.string nm, .int .i64 id] rfl rfl (news_mrk _ _ _ _) (one_mrk _ _) (by unfold maxLen; omega) (by omega) (by have := hbb.size; simp at this ⊢; omega) ?_); intro v1 w1 ho1 hg1 _; clear tok1)
        have hb1 : Below w.heap.size w w1 := (hbb.alloc hbb.size _).grown hg1 (by have := hbb.size; simp at this ⊢; omega) (own_block hown)
        have R : SetR w (midM (l.take (k + 1)) f t) v1 w1 := ⟨by rw [HS.out, Mrk.flat_app, List.length_append]; exact ho1, hb1⟩
        have RR := Lib.hid R
        clear hg1 hown hbel ho1 hb1 q0 q1 R hbb hob hwb z0 z1
        go_wp2
        go_roundw
        case rel => exact ⟨k + 1, by omega, by go_num, RR.out⟩
        case measure => simp [intOf]; omega
      · rw [if_neg he] at hs
        have R : SetR w (midM (l.take (k + 1)) f t) u7 wb := ⟨by rw [hs]; exact hob, hbb⟩
        have RR := Lib.hid R
        clear hs R hbb hob hown hbel
        rcases (show ¬ (f : Int) ≤ id ∨ ((f : Int) ≤ id ∧ ¬ id ≤ (t : Int)) by omega) with g1 | ⟨g1, g2⟩
        · clear he
          go_wp2
          go_roundw
          case rel => exact ⟨k + 1, by omega, by go_num, RR.out⟩
          case measure => simp [intOf]; omega
        · clear he
          go_wp2
          go_roundw
          case rel => exact ⟨k + 1, by omega, by go_num, RR.out⟩
          case measure => simp [intOf]; omega
    · obtain rfl : k = n := by omega
      rw [List.take_of_length_le (by rw [HN.out]; exact Nat.le_refl _)] at hown
      have hlen := midM_len l f t
      rw [HN.out] at hlen
      have huniq := fun m h1 h2 => bet_uniq (l := l) (m := m) (f := f) (t := t) h1 h2
      obtain ⟨M, hM⟩ : ∃ M, midM l f t = M := ⟨_, rfl⟩
      rw [hM] at hown hlen huniq
      clear hM
      rcases hown.2 with ⟨e0, e1⟩ | ⟨g, cap, cur, e0, hg, -⟩
      · have hM0 : M = [] := List.length_eq_zero_iff.1 e1
        have hb0 := huniq [] List.Pairwise.nil (fun v => by rw [hM0])
        subst e0
        have HB := Lib.hid hb0; have HBEL := Lib.hid hbel
        clear hown huniq hlen hM0 hb0 hbel e1
        go_wp2_with fail
        refine (sort_none _).mono ?_
        rintro e w1 ⟨rfl, rfl⟩
        go_wp2
        go_ret
        exact ⟨none, 0, by rw [← HB.out]; rfl, by rw [← HB.out]; exact fun k hk => absurd hk (by simp), HBEL.out⟩
      · subst e0
        have hlt2 : g < wr.heap.size := (hown.lt g rfl).2
        have hH := own_holds hown
        have cs := sort_some g cap M.length M.toArray wr hH hlt2 (by simp) (by omega)
        have R := rowM hH hlt2
        have CS := Lib.hid cs; have RR := Lib.hid R; have HU := Lib.hid huniq; have HBEL := Lib.hid hbel; have HG := Lib.hid hg; have HLT := Lib.hid hlt2
        obtain ⟨m, hm⟩ : ∃ m, M.length = m := ⟨_, rfl⟩
        rw [hm] at CS hlen
        rw [hm]
        have HM := Lib.hid hm
        clear hown huniq hbel hg hlt2 hH cs R hm
        go_wp2_with fail
        refine CS.out.mono ?_
        rintro e w3 ⟨rfl, F, S3, T3, O3⟩
        have hsz : F.size = m := by rw [T3.size, ← HM.out]; simp
        have hF : F.toList = betM l f t := HU.out F.toList (srt_list O3 (by rw [T3.size])) (fun v => T3.kept v)
        have hlF : (betM l f t).length = m := by rw [← hF]; simpa using hsz
        have Z := Lib.hid (show RetMrks w (betM l f t) (.returned (.slice (some ⟨g, 0, none⟩) m cap)) w3 from by
          refine ⟨some ⟨g, 0, none⟩, cap, by rw [hlF], ?_, sorted_below (Nat.le_refl _) HBEL.out HG.out S3⟩
          rw [← hF]
          exact sorted_row RR.out S3 T3.size _ ⟨HG.out, S3.lt HLT.out⟩)
        clear S3 T3 O3 hsz hF hlF
        go_wp2
        go_ret
        exact Z.out
end Go.Proofs.Ytimlfgjljnkbcaa
