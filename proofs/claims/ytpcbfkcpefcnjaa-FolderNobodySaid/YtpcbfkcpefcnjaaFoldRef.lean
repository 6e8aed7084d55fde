/-
  Contracts of the document's folder (layer 9), first part: one list of names.
-/
import Derived.Test.YtpcbfkcpefcnjaaFoldMath
import Derived.Test.YtpcbfkcpefcnjaaConv
import Derived.Test.YtpcbfkcpefcnjaaPieceRef
namespace Go.Proofs.Ytpcbfkcpefcnjaa
open Go.RowKit
set_option linter.unusedVariables false

set_option maxRecDepth 100000 in
set_option maxHeartbeats 400000 in
theorem rfind9_any (a : Option Addr) (l : List Ent) (c : Nat) (s : ByteArray) (B : Nat → Prop) (w : World) (hr : Ents w B a l) (hl : l.length ≤ 1000000) :
    Calls Try.prog 15 #[.slice a l.length c, .string s] w fun e w' => e = .returned (.tuple #[.int .i64 ((findE l s).getD 0), .bool (findE l s).isSome]) ∧ w = w' := by
  obtain ⟨n, hn⟩ : ∃ n, l.length = n := ⟨_, rfl⟩
  rw [hn] at hl ⊢
  have HN := Lib.hid hn; have HR := Lib.hid hr
  clear hn hr
  obtain ⟨r, hfr⟩ : ∃ r, findE l s = r := ⟨_, rfl⟩
  rw [hfr]
  have HF := Lib.hid hfr; clear hfr
  go_enter Try.func15, Try.ntmps15
  go_wp2
  go_loop [6] (fun i => ∃ k : Nat, k ≤ n ∧ i = .int .i64 k ∧ (l.take k).find? (nmB s) = none) (fun i => n - (intOf i).toNat)
  case atStart => exact ⟨0, Nat.zero_le _, rfl, rfl⟩
  case round =>
    obtain ⟨k, hk, rfl, hnone⟩ := hrel
    by_cases hlt : k < n
    · have hkl : k < l.length := by rw [HN.out]; exact hlt
      obtain ⟨ad, rfl, hab, q0, q1⟩ := HR.out k hkl
      have hs := findE_some l s k hkl hnone
      have ht := findE_none l s k hkl hnone
      obtain ⟨x, hx⟩ : ∃ x, l[k]'hkl = x := ⟨_, rfl⟩
      rw [hx] at q0 q1 hs ht
      obtain ⟨nm, id⟩ := x
      simp only at q0 q1 hs ht
      clear hx
      have b0 : (0 : Int) ≤ (k : Int) := by omega
      have b1 : (k : Int) < (n : Int) := by omega
      by_cases he : nm = s
      · subst he
        have hs2 := hs rfl
        rw [HF.out] at hs2
        subst hs2
        clear ht hs hnone
        go_wp2
        go_ret2
        exact ⟨rfl, rfl⟩
      · have hne := str_ne he
        have HT := Lib.hid (ht he)
        clear ht hs hnone he
        go_wp2
        go_round
        case rel => exact ⟨k + 1, by omega, by go_num, HT.out⟩
        case measure => simp [intOf]; omega
    · obtain rfl : k = n := by omega
      have h0 : r = none := by
        rw [← HF.out]; unfold findE
        rw [List.take_of_length_le (by rw [HN.out]; exact Nat.le_refl _)] at hnone
        rw [hnone]; rfl
      subst h0
      clear hnone
      go_wp2
      go_ret2
      exact ⟨rfl, rfl⟩

set_option maxRecDepth 100000 in
set_option maxHeartbeats 800000 in
theorem rwithout_any (a : Option Addr) (l : List Ent) (c : Nat) (s : ByteArray) (B : Nat → Prop) (w : World) (hr : Ents w B a l) (hB : ∀ b, B b → b < w.heap.size) (hl : l.length ≤ 1000000) :
    Calls Try.prog 50 #[.slice a l.length c, .string s] w (RetEnts w (withoutE l s)) := by
  obtain ⟨i0, hi, hz0, hz1, hz2⟩ := info_parts ent_info
  obtain ⟨n, hn⟩ : ∃ n, l.length = n := ⟨_, rfl⟩
  rw [hn] at hl ⊢
  have HN := Lib.hid hn; have HR := Lib.hid hr
  clear hn hr
  go_enter Try.func50, Try.ntmps50
  go_wp2
  go_loopw [5, 6] (fun v i wr => ∃ k : Nat, k ≤ n ∧ i = .int .i64 k ∧ wr.ownsRow w.heap.size 73 2 v (withoutE (l.take k) s).length (Ent.flat (withoutE (l.take k) s)) ∧ Below w.heap.size w wr) (fun _ i _ => n - (intOf i).toNat)
  case atStart => exact ⟨0, Nat.zero_le _, rfl, World.ownsRow_nil _ _ _ _, Below.refl _ _⟩
  case round =>
    obtain ⟨k, hk, rfl, hown, hbel⟩ := hrel
    by_cases hlt : k < n
    · have hkl : k < l.length := by rw [HN.out]; exact hlt
      obtain ⟨ad, rfl, hab, q0, q1⟩ := (HR.out.below hB hbel) k hkl
      have hs := withoutE_same l s k hkl
      have ht := withoutE_more l s k hkl
      have hlen := withoutE_len (l.take k) s
      have hlk : (l.take k).length ≤ k := List.length_take_le _ _
      obtain ⟨x, hx⟩ : ∃ x, l[k]'hkl = x := ⟨_, rfl⟩
      rw [hx] at q0 q1 hs ht
      obtain ⟨nm, id⟩ := x
      simp only at q0 q1 hs ht
      clear hx
      have b0 : (0 : Int) ≤ (k : Int) := by omega
      have b1 : (k : Int) < (n : Int) := by omega
      by_cases he : nm = s
      · have HS := Lib.hid (hs he); clear hs ht
        subst he
        go_wp2
        go_roundw
        case rel => exact ⟨k + 1, by omega, by go_num, by rw [HS.out]; exact hown, hbel⟩
        case measure => simp [intOf]; omega
      · have HS := Lib.hid (ht he); clear hs ht
        have hne := str_ne he
        have hne2 : (nm.toList != s.toList) = true := by rw [bne, hne]; rfl
        clear he
        have HO := Lib.hid hown
        go_wp2_with (at_builtin; refine wpList_append_own _ rfl _ _ 39 rfl w.heap.size 73 i0 _ 2 24 Try.underlying39 hi hz0 hz1 hz2 rfl (by decide) _ _ _ rfl (hown.alloc _) ⟨wr.heap.size, 0, none⟩ 1 1 [.string nm, .int .i64 id] rfl rfl (news_ent _ _ _ _) (one_ent _ _) (by unfold maxLen; omega) (by omega) (by have := hbel.size; simp; omega) ?_; intro v' w1 hown' hgrow _)
        have hb1 : Below w.heap.size w w1 := (hbel.alloc hbel.size _).grown hgrow (by have := hbel.size; simp; omega) (own_block hown)
        have ho1 : w1.ownsRow w.heap.size 73 2 v' (withoutE (l.take (k + 1)) s).length (Ent.flat (withoutE (l.take (k + 1)) s)) := by
          rw [HS.out, Ent.flat_app, List.length_append]
          exact hown'
        have HO1 := Lib.hid ho1; have HB := Lib.hid hb1
        clear hown' hgrow hown hbel ho1 hb1 HO
        go_wp2
        go_roundw
        case rel => exact ⟨k + 1, by omega, by go_num, HO1.out, HB.out⟩
        case measure => simp [intOf]; omega
    · obtain rfl : k = n := by omega
      rw [List.take_of_length_le (by rw [HN.out]; exact Nat.le_refl _)] at hown
      obtain ⟨ad, cp, rfl, hn⟩ := own_ents hown
      have HNN := Lib.hid hn; clear hn hown
      go_wp2
      go_ret
      exact ⟨ad, cp, rfl, HNN.out, hbel⟩
end Go.Proofs.Ytpcbfkcpefcnjaa
