/-
  The document's side of layer 16: groups, heights, bits, texts.
-/
import Derived.Test.YtmdcdkmokaejbaaKnotMath
import Derived.Test.YtmdcdkmokaejbaaStrs
import Derived.Test.YtmdcdkmokaejbaaChunkRef
import Derived.Laws.MakeOwn
import Derived.Lib.MinMax
namespace Go.Proofs.Ytmdcdkmokaejbaa
open Go.RowKit
set_option linter.unusedVariables false

theorem one_cell (v : Value) (h : v.oneCell' = true) : ∀ u ∈ [v], u.oneCell' = true := by intro u hu; simp at hu; subst hu; exact h
theorem int_info16 : (Try.prog.info? 3).map (fun i => (i.zero, i.size, i.bytes)) = some (some (.int .i64 0), 1, 8) := by kernel_rfl
/-- Groups under way: so many are told, for so many knots that are left. -/
structure GrI (n : Nat) (w : World) (m j : Nat) (v : Value) (wr : World) : Prop where
  own : ∃ xs, wr.ownsRow w.heap.size 3 1 v j xs
  bel : Below w.heap.size w wr
  sum : j + gcount m = gcount n
  le : m ≤ n
theorem GrI.step {n m j : Nat} {w wr w' : World} {v v' : Value} (h : GrI n w m j v wr) (hm : 0 < m) (ho : ∃ xs, w'.ownsRow w.heap.size 3 1 v' (j + 1) xs) (hb : Below w.heap.size w w') : GrI n w (m - gsz m) (j + 1) v' w' :=
  ⟨ho, hb, by have := h.sum; rw [gcount_pos hm] at this; omega, by have := h.le; omega⟩
def RetLen (w : World) (n : Nat) (e : Ending) (w' : World) : Prop := ∃ a c, e = .returned (.slice a n c) ∧ Below w.heap.size w w'
theorem gcount_le (n : Nat) : gcount n ≤ n := by
  rcases Nat.lt_or_ge 1 n with h | h
  · have := gcount_half n (by omega); omega
  · rcases Nat.lt_or_ge 0 n with g | g
    · obtain rfl : n = 1 := by omega
      rw [gcount_pos (by decide), show (1 : Nat) - gsz 1 = 0 from rfl, gcount_zero]
      exact Nat.le_refl _
    · obtain rfl : n = 0 := by omega
      rw [gcount_zero]; exact Nat.le_refl _

set_option maxRecDepth 100000 in
set_option maxHeartbeats 800000 in
theorem rgroups_any (n : Nat) (hn : n ≤ 1000000) (w : World) :
    Calls Try.prog 35 #[.int .i64 n] w (RetLen w (gcount n)) := by
  obtain ⟨i0, hi, hz0, hz1, hz2⟩ := info_parts int_info16
  go_enter Try.func35, Try.ntmps35
  go_wp2
  go_loopw [0, 3] (fun t v wr => ∃ (m j : Nat) (u : Value), t = .int .i64 m ∧ u = v ∧ GrI n w m j u wr) (fun t _ _ => (intOf t).toNat)
  case atStart => exact ⟨n, 0, _, rfl, rfl, ⟨[], World.ownsRow_nil _ _ _ _⟩, Below.refl _ _, by omega, Nat.le_refl _⟩
  case round =>
    obtain ⟨m, j, v, rfl, rfl, hg⟩ := hrel
    by_cases h0 : 0 < m
    · have hle := hg.le
      have hjn : j ≤ n := by have := hg.sum; have := gcount_le n; omega
      have hgl := gsz_le m
      have hgp := gsz_pos h0
      have HST := Lib.hid (fun v' w2 => @GrI.step n m j w wr w2 v v' hg h0)
      obtain ⟨xs, hown⟩ := hg.own
      have HG := Lib.hid hg
      have hsz : w.heap.size ≤ wr.heap.size := hg.bel.size
      clear hg
      by_cases h9 : m = 9
      · subst h9
        go_wp2_with (at_builtin; refine wpList_append_own _ rfl _ _ 58 rfl w.heap.size 3 i0 (.int .i64 0) 1 8 Try.underlying58 hi hz0 hz1 hz2 rfl (by decide) _ _ _ rfl (hown.alloc _) ⟨wr.heap.size, 0, none⟩ 1 1 [.int .i64 7] rfl rfl (news_one _ _ _) (one_cell _ rfl) (by unfold maxLen; omega) (by omega) (Nat.le_trans hsz (by simp)) ?_; intro v' w2 hown' hgrow _)
        have hb3 : Below w.heap.size w w2 := (HG.out.bel.alloc hsz _).grown hgrow (Nat.le_trans hsz (by simp)) (own_block hown)
        have HN := Lib.hid (HST.out v' w2 ⟨_, hown'⟩ hb3)
        clear hown' hgrow hown hb3
        go_wp2
        go_roundw
        case rel => exact ⟨2, _, _, rfl, rfl, HN.out⟩
        case measure => simp [intOf]
      · have hgz : gsz m = min m 8 := by unfold gsz; rw [if_neg h9]
        rcases Nat.lt_or_ge 8 m with h8 | h8
        · have hgz2 : gsz m = 8 := by omega
          have b1 : (8 : Int) < (m : Int) := by omega
          have b2 : ((m : Int) == 9) = false := by simpa using (show ¬ (m : Int) = 9 by omega)
          have b3 : min (m : Int) 8 = 8 := by omega
          go_wp2_with (at_builtin; refine wpList_append_own _ rfl _ _ 58 rfl w.heap.size 3 i0 (.int .i64 0) 1 8 Try.underlying58 hi hz0 hz1 hz2 rfl (by decide) _ _ _ rfl (hown.alloc _) ⟨wr.heap.size, 0, none⟩ 1 1 [.int .i64 8] rfl rfl (news_one _ _ _) (one_cell _ rfl) (by unfold maxLen; omega) (by omega) (Nat.le_trans hsz (by simp)) ?_; intro v' w2 hown' hgrow _)
          have hb3 : Below w.heap.size w w2 := (HG.out.bel.alloc hsz _).grown hgrow (Nat.le_trans hsz (by simp)) (own_block hown)
          have HN := Lib.hid (HST.out v' w2 ⟨_, hown'⟩ hb3)
          clear hown' hgrow hown hb3 HST
          rw [hgz2] at HN
          go_wp2
          go_roundw
          case rel => exact ⟨m - 8, _, _, by go_num, rfl, HN.out⟩
          case measure => simp [intOf]; omega
        · have hgz2 : gsz m = m := by omega
          have b2 : ((m : Int) == 9) = false := by simpa using (show ¬ (m : Int) = 9 by omega)
          have b3 : min (m : Int) 8 = m := by omega
          go_wp2_with (at_builtin; refine wpList_append_own _ rfl _ _ 58 rfl w.heap.size 3 i0 (.int .i64 0) 1 8 Try.underlying58 hi hz0 hz1 hz2 rfl (by decide) _ _ _ rfl (hown.alloc _) ⟨wr.heap.size, 0, none⟩ 1 1 [.int .i64 m] rfl rfl (news_one _ _ _) (one_cell _ rfl) (by unfold maxLen; omega) (by omega) (Nat.le_trans hsz (by simp)) ?_; intro v' w2 hown' hgrow _)
          have hb3 : Below w.heap.size w w2 := (HG.out.bel.alloc hsz _).grown hgrow (Nat.le_trans hsz (by simp)) (own_block hown)
          have HN := Lib.hid (HST.out v' w2 ⟨_, hown'⟩ hb3)
          clear hown' hgrow hown hb3 HST
          rw [hgz2] at HN
          go_wp2
          go_roundw
          case rel => exact ⟨m - m, _, _, by go_num, rfl, HN.out⟩
          case measure => simp [intOf]; omega
    · obtain rfl : m = 0 := by omega
      have hs := hg.sum
      rw [gcount_zero, Nat.add_zero] at hs
      subst hs
      obtain ⟨xs, hown⟩ := hg.own
      have HB := Lib.hid hg.bel
      obtain ⟨a, c, rfl⟩ : ∃ a c, v = .slice a (gcount n) c := by
        rcases hown.2 with ⟨rfl, h0⟩ | ⟨g, cap, cur, rfl, _⟩
        · exact ⟨none, 0, by rw [h0]⟩
        · exact ⟨_, _, rfl⟩
      clear hg hown
      go_wp2
      go_ret
      exact ⟨a, c, rfl, HB.out⟩

set_option maxRecDepth 100000 in
set_option maxHeartbeats 800000 in
theorem rheight_any (n : Nat) (hn : n ≤ 1000000) (w : World) :
    Calls Try.prog 16 #[.int .i64 n, .int .i64 0] w fun e w' => e = .returned (.int .i64 (if n = 0 then -1 else (upH n 0 : Nat))) ∧ Below w.heap.size w w' := by
  by_cases h0 : n = 0
  · subst h0
    go_enter Try.func16, Try.ntmps16
    go_wp2
    go_ret
    exact ⟨rfl, Below.refl _ _⟩
  · rw [if_neg h0]
    obtain ⟨r, hr⟩ : ∃ r, upH n 0 = r := ⟨_, rfl⟩
    rw [hr]
    have HR := Lib.hid hr; have H0 := Lib.hid h0
    clear hr
    go_enter Try.func16, Try.ntmps16
    go_wp2
    go_loopw [0, 1] (fun t i wr => ∃ m h : Nat, t = .int .i64 m ∧ i = .int .i64 h ∧ 0 < m ∧ m + h ≤ n ∧ upH m h = r ∧ Below w.heap.size w wr) (fun t _ _ => (intOf t).toNat)
    case atStart => exact ⟨n, 0, rfl, rfl, by omega, by omega, HR.out, Below.refl _ _⟩
    case round =>
      obtain ⟨m, h, rfl, rfl, hp, hle, hu, hb⟩ := hrel
      rcases Nat.lt_or_ge 1 m with h1 | h1
      · rcases Nat.lt_or_ge 8 m with h8 | h8
        · have hgc := rgroups_any m (by omega)
          have hge := gcount_half m (by omega)
          have hgp := gcount_some hp
          rw [upH_many h8] at hu
          obtain ⟨q, hq⟩ : ∃ q, gcount m = q := ⟨_, rfl⟩
          rw [hq] at hgc hge hgp hu
          have HG := Lib.hid hgc; have HU := Lib.hid hu; have HB := Lib.hid hb
          clear hgc hu hb hq
          go_wp2_with fail
          refine (HG.out _).mono ?_
          rintro e w1 ⟨a, c, rfl, hb1⟩
          have HB1 := Lib.hid (HB.out.trans (hb1.mono HB.out.size))
          clear hb1
          go_wp2
          go_roundw
          case rel => exact ⟨q, h + 1, rfl, by go_num, hgp, by omega, HU.out, HB1.out⟩
          case measure => simp [intOf]; omega
        · rw [upH_few h1 h8] at hu
          have HU := Lib.hid hu; have HB := Lib.hid hb
          clear hu hb
          go_wp2
          go_ret
          exact ⟨ret_int (by rw [← HU.out]; go_num), HB.out⟩
      · rw [upH_one h1] at hu
        have HU := Lib.hid hu; have HB := Lib.hid hb
        clear hu hb
        go_wp2
        go_ret
        exact ⟨ret_int (by rw [← HU.out]), HB.out⟩

set_option maxRecDepth 100000 in
set_option maxHeartbeats 800000 in
theorem rbits_any (n : Nat) (hn : n ≤ 1000000) (w : World) :
    Calls Try.prog 23 #[.int .i64 n] w fun e w' => e = .returned (.int .i64 (bitsN n)) ∧ w = w' := by
  obtain ⟨r, hr⟩ : ∃ r, bitsN n = r := ⟨_, rfl⟩
  rw [hr]
  have HR := Lib.hid hr
  clear hr
  go_enter Try.func23, Try.ntmps23
  go_wp2
  go_loop [0, 3] (fun t i => ∃ m k : Nat, t = .int .i64 m ∧ i = .int .i64 k ∧ m + k ≤ n ∧ k + bitsN m = r) (fun t _ => (intOf t).toNat)
  case atStart => exact ⟨n, 0, rfl, rfl, by omega, by rw [HR.out]; omega⟩
  case round =>
    obtain ⟨m, k, rfl, rfl, hle, hk⟩ := hrel
    rcases Nat.lt_or_ge 0 m with h0 | h0
    · rw [bitsN_pos h0] at hk
      have HK := Lib.hid hk
      clear hk
      go_wp2
      go_round
      case rel => exact ⟨m / 2, k + 1, by go_num, by go_num, by omega, by have := HK.out; omega⟩
      case measure => simp [intOf]; omega
    · obtain rfl : m = 0 := by omega
      rw [bitsN_zero] at hk
      go_wp2
      go_ret
      exact ⟨ret_int (by omega), rfl⟩

set_option maxRecDepth 100000 in
/-- Two rows of the same texts are the same. -/
theorem texts16_same (a a2 : Option Addr) (l : List ByteArray) (c c2 : Nat) (w : World) (h1 : StrsH w a l) (h2 : StrsH w a2 l) (hl : l.length ≤ 1000000) :
    Calls Try.prog 10 #[.slice a l.length c, .slice a2 l.length c2] w fun e w' => e = .returned (.bool true) ∧ Below w.heap.size w w' := by
  have ct := texts_same a a2 l c c2 w h1 h2 hl
  obtain ⟨n, hn⟩ : ∃ n, l.length = n := ⟨_, rfl⟩
  rw [hn] at ct ⊢
  have CT := Lib.hid ct
  clear ct h1 h2 hn hl
  go_enter Try.func10, Try.ntmps10
  go_wp2_with fail
  refine CT.out.mono ?_; rintro e w1 ⟨rfl, hb1⟩
  go_wp2
  go_ret
  exact ⟨rfl, hb1⟩
end Go.Proofs.Ytmdcdkmokaejbaa
