/-
  The document's marks (layer 22), fourth part: Between, Near.
-/
import Derived.Test.YtimlfgjljnkbcaaMarkRef2
import Derived.Test.YtimlfgjljnkbcaaMarkMath3
namespace Go.Proofs.Ytimlfgjljnkbcaa
open Go.RowKit
set_option linter.unusedVariables false

set_option maxRecDepth 100000 in
set_option maxHeartbeats 1600000 in
theorem rbetween22_any (a : Option Addr) (l : List Mrk) (c : Nat) (f t : Nat) (ht : t ≤ 4096) (B : Nat → Prop) (w : World) (hr : Mrks w B a l) (hB : ∀ b, B b → b < w.heap.size) (hl : l.length ≤ 40) :
    Calls Try.prog 26 #[.slice a l.length c, .int .i64 f, .int .i64 t] w (RetMrks w (betM l f t)) := by
  obtain ⟨i0, hi, hz0, hz1, hz2⟩ := info_parts mrk_info
  obtain ⟨n, hn⟩ : ∃ n, l.length = n := ⟨_, rfl⟩
  rw [hn] at hl ⊢
  have HN := Lib.hid hn; have HR := Lib.hid hr
  clear hn hr
  go_enter Try.func26, Try.ntmps26
  go_wp2
  go_loopw [7, 8] (fun v i wr => ∃ k : Nat, (k = 0 ∨ f + k ≤ t + 1) ∧ i = .int .i64 ((f : Int) + (k : Int)) ∧ SetR w (betK l f k) v wr) (fun _ i _ => t + 1 - (intOf i).toNat)
  case atStart => exact ⟨0, .inl rfl, by go_num, World.ownsRow_nil _ _ _ _, Below.refl _ _⟩
  case round =>
    obtain ⟨k, hk, rfl, hown, hbel⟩ := hrel
    by_cases hkt : f + k ≤ t
    · have d1 : (f : Int) + (k : Int) ≤ (t : Int) := by omega
      have d2 : (f : Int) + (k : Int) ≤ 4096 := by omega
      have hlenB := betK_len l f k
      have hkn : k * n ≤ 4096 * 40 := Nat.mul_le_mul (by omega) hl
      rw [HN.out] at hlenB
      obtain ⟨q, hq⟩ : ∃ q, k * n = q := ⟨_, rfl⟩
      rw [hq] at hlenB hkn
      obtain ⟨o, ho⟩ : ∃ o, betK l f k = o := ⟨_, rfl⟩
      rw [ho] at hlenB hown
      have HO := Lib.hid ho
      clear ho hq
      go_wp2
      go_loopw [7, 9] (fun v i wr => ∃ j : Nat, j ≤ n ∧ i = .int .i64 j ∧ SetR w (o ++ (l.take j).filter fun x => x.p == ((f + k : Nat) : Int)) v wr) (fun _ i _ => n - (intOf i).toNat)
      case atStart => exact ⟨0, Nat.zero_le _, rfl, by simpa using hown, hbel⟩
      case round =>
        clear hown hbel
        obtain ⟨j, hj, rfl, hown, hbel⟩ := hrel
        by_cases hlt : j < n
        · have hjl : j < l.length := by rw [HN.out]; exact hlt
          obtain ⟨ad, rfl, hab, q0, q1⟩ := (HR.out.below hB hbel) j hjl
          rw [← mget hjl] at q0 q1
          have hs := at_take l ((f + k : Nat) : Int) j hjl
          have hlen := List.length_filter_le (fun x : Mrk => x.p == ((f + k : Nat) : Int)) (l.take j)
          have hlk : (l.take j).length ≤ j := List.length_take_le _ _
          obtain ⟨x, hx⟩ : ∃ x, l[j]! = x := ⟨_, rfl⟩
          rw [hx] at q0 q1 hs
          obtain ⟨nm, id⟩ := x
          simp only at q0 q1 hs
          obtain ⟨p, hp⟩ : ∃ p, (l.take j).filter (fun x => x.p == ((f + k : Nat) : Int)) = p := ⟨_, rfl⟩
          rw [hp] at hs hlen hown
          clear hx hp
          have hol : (o ++ p).length ≤ 200000 := by rw [List.length_append]; omega
          obtain ⟨u, hu⟩ : ∃ u, o ++ p = u := ⟨_, rfl⟩
          rw [hu] at hown hol
          have b0 : (0 : Int) ≤ (j : Int) := by omega
          have b1 : (j : Int) < (n : Int) := by omega
          by_cases he : id = ((f + k : Nat) : Int)
          · rw [if_pos he] at hs
            have HS := Lib.hid (show o ++ (l.take (j + 1)).filter (fun x => x.p == ((f + k : Nat) : Int)) = u ++ [⟨nm, id⟩] by rw [hs, ← hu, List.append_assoc])
            have he1 : id = (f : Int) + (k : Int) := by omega
            have he2 : (id == (f : Int) + (k : Int)) = true := beq_iff_eq.2 he1
            have HE1 := Lib.hid he1
            clear hs hu he he1
            have tok1 : True := trivial
            go_wp2_with (at_builtin; have _t := tok1; go_loud (refine wpList_append_own _ rfl _ _ 22 rfl w.heap.size 30 i0 _ 2 24 Try.underlying22 hi hz0 hz1 hz2 rfl (by decide) _ _ _ rfl (hown.alloc _) ⟨wr.heap.size, 0, none⟩ 1 1 [.string nm, .int .i64 id] rfl rfl (news_mrk _ _ _ _) (one_mrk _ _) (by unfold maxLen; omega) (by omega) (by have := hbel.size; simp at this ⊢; omega) ?_); intro v1 w1 ho1 hg1 _; clear tok1)
            have hb1 : Below w.heap.size w w1 := (hbel.alloc hbel.size _).grown hg1 (by have := hbel.size; simp at this ⊢; omega) (own_block hown)
            have R : SetR w (o ++ (l.take (j + 1)).filter fun x => x.p == ((f + k : Nat) : Int)) v1 w1 := ⟨by rw [HS.out, Mrk.flat_app, List.length_append]; exact ho1, hb1⟩
            have RR := Lib.hid R
            clear hg1 hown hbel ho1 hb1 q0 q1 R
            go_wp2
            go_roundw
            case rel => exact ⟨j + 1, by omega, by go_num, RR.out⟩
            case measure => simp [intOf]; omega
          · rw [if_neg he] at hs
            have HS := Lib.hid (show o ++ (l.take (j + 1)).filter (fun x => x.p == ((f + k : Nat) : Int)) = u by rw [hs, hu])
            have he1 : ¬ id = (f : Int) + (k : Int) := by omega
            have he2 : (id == (f : Int) + (k : Int)) = false := beq_eq_false_iff_ne.2 he1
            have R : SetR w (o ++ (l.take (j + 1)).filter fun x => x.p == ((f + k : Nat) : Int)) u7 wr := ⟨by rw [HS.out]; exact hown, hbel⟩
            have RR := Lib.hid R
            clear hs hu he he1 hown hbel R
            go_wp2
            go_roundw
            case rel => exact ⟨j + 1, by omega, by go_num, RR.out⟩
            case measure => simp [intOf]; omega
        · obtain rfl : j = n := by omega
          rw [List.take_of_length_le (by rw [HN.out]; exact Nat.le_refl _)] at hown
          have R : SetR w (betK l f (k + 1)) u7 wr := ⟨by rw [betK, HO.out]; exact hown, hbel⟩
          have RR := Lib.hid R
          clear hown hbel R
          go_wp2
          go_roundw
          case rel => exact ⟨k + 1, .inr (by omega), by go_num, RR.out⟩
          case measure => simp [intOf]; omega
    · have e : betK l f k = betM l f t := by
        unfold betM
        congr 1
        omega
      rw [e] at hown
      obtain ⟨ad, cp, rfl, hn⟩ := own_mrks hown
      have HNN := Lib.hid hn; clear hn hown e
      have d1 : ¬ (f : Int) + (k : Int) ≤ (t : Int) := by omega
      go_wp2
      go_ret
      exact ⟨ad, cp, rfl, HNN.out, hbel⟩

/-- A mark and a bool. -/
def nearV (r : Mrk × Bool) : Value := .tuple #[.agg #[.string r.1.name, .int .i64 r.1.p], .bool r.2]
theorem far_yes {x at_ : Int} {far : Nat} (h : x - at_ = far ∨ at_ - x = far) : (x - at_).natAbs = far := by omega
theorem far_no {x at_ : Int} {far : Nat} (h1 : ¬ x - at_ = far) (h2 : ¬ at_ - x = far) : (x - at_).natAbs ≠ far := by omega

set_option maxRecDepth 100000 in
set_option maxHeartbeats 1600000 in
theorem rnear22_any (a : Option Addr) (l : List Mrk) (c : Nat) (at_ : Nat) (hat : at_ ≤ 4096) (B : Nat → Prop) (w : World) (hr : Mrks w B a l) (hB : ∀ b, B b → b < w.heap.size) (hl : l.length ≤ 40) (hp : ∀ x ∈ l, 0 ≤ x.p ∧ x.p ≤ 4096) :
    Calls Try.prog 24 #[.slice a l.length c, .int .i64 at_] w fun e w' => e = .returned (nearV (nearM l at_)) ∧ Below w.heap.size w w' := by
  obtain ⟨n, hn⟩ : ∃ n, l.length = n := ⟨_, rfl⟩
  rw [hn] at hl ⊢
  have hb0 : Below w.heap.size w (w.alloc (.cells #[.string ⟨#[]⟩, .int .i64 0] 30)) := (Below.refl w.heap.size w).alloc (Nat.le_refl _) _
  have HN := Lib.hid hn; have HR := Lib.hid (hr.below hB hb0)
  have hpz : ∀ j, j < l.length → 0 ≤ (l[j]!).p ∧ (l[j]!).p ≤ 4096 := fun j hj => hp _ (by rw [mget hj]; exact List.getElem_mem hj)
  have HP := Lib.hid hpz
  obtain ⟨r, hr2⟩ : ∃ r, nearM l (at_ : Int) = r := ⟨_, rfl⟩
  rw [hr2]
  have HE := Lib.hid hr2
  clear hn hr hp hpz hr2 hB
  go_enter Try.func24, Try.ntmps24
  go_wp2
  go_loop [6] (fun i => ∃ far : Nat, far ≤ 4097 ∧ i = .int .i64 far ∧ Hid (∀ j, j < n → far ≤ dstM at_ l[j]!)) (fun i => 4097 - (intOf i).toNat)
  case atStart => exact ⟨0, Nat.zero_le _, rfl, Lib.hid (fun j hj => Nat.zero_le _)⟩
  case round =>
    obtain ⟨far, hfar, rfl, HF⟩ := hrel
    by_cases hf : far ≤ 4096
    · have f1 : (far : Int) ≤ 4096 := by omega
      go_wp2
      go_loop [7] (fun i => ∃ k : Nat, k ≤ n ∧ i = .int .i64 k ∧ Hid (∀ j, j < k → dstM at_ l[j]! ≠ far)) (fun i => n - (intOf i).toNat)
      case atStart => exact ⟨0, Nat.zero_le _, rfl, Lib.hid (fun j hj => absurd hj (Nat.not_lt_zero _))⟩
      case round =>
        obtain ⟨k, hk, rfl, HK⟩ := hrel
        by_cases hlt : k < n
        · have hkl : k < l.length := by rw [HN.out]; exact hlt
          obtain ⟨ad, rfl, hab, q0, q1⟩ := HR.out k hkl
          rw [← mget hkl] at q0 q1
          have hpk := HP.out k hkl
          have hyes : dstM at_ l[k]! = far → nearM l at_ = (l[k]!, true) := fun h => nearM_yes hkl (fun j hj => by rw [h]; exact HF.out j (by rw [← HN.out]; exact hj)) (by rw [h]; unfold bigN; omega) (fun j hj => by rw [h]; exact HK.out j hj)
          have hno : dstM at_ l[k]! ≠ far → ∀ j, j < k + 1 → dstM at_ l[j]! ≠ far := fun h j hj => by
            rcases Nat.lt_or_ge j k with g | g
            · exact HK.out j g
            · rw [show j = k by omega]; exact h
          rw [HE.out] at hyes
          have hd : dstM at_ l[k]! = ((l[k]!).p - at_).natAbs := rfl
          obtain ⟨x, hx⟩ : ∃ x, l[k]! = x := ⟨_, rfl⟩
          rw [hx] at q0 q1 hpk hyes hno hd
          obtain ⟨nm, id⟩ := x
          simp only at q0 q1 hpk hyes hno hd
          obtain ⟨p0, p1⟩ := hpk
          have HNO := Lib.hid hno
          clear hx hno
          have b0 : (0 : Int) ≤ (k : Int) := by omega
          have b1 : (k : Int) < (n : Int) := by omega
          by_cases c1 : id - (at_ : Int) = (far : Int)
          · have h0 := hyes (by rw [hd]; exact far_yes (.inl c1))
            subst h0
            have c1b : (id - (at_ : Int) == (far : Int)) = true := beq_iff_eq.2 c1
            have C1 := Lib.hid c1
            clear hyes hd c1 HNO
            go_wp2
            refine bodyPost_ret (v := nearV (⟨nm, id⟩, true)) (by simp [results, Try.results24, go_sem, nearV]) rfl ⟨rfl, ?_⟩
            first | exact (Below.refl w.heap.size w).alloc (Nat.le_refl _) _ | exact ((hb0.setCell (by simp) _).setCell (by simp) _)
          · have c1b : (id - (at_ : Int) == (far : Int)) = false := beq_eq_false_iff_ne.2 c1
            by_cases c2 : (at_ : Int) - id = (far : Int)
            · have h0 := hyes (by rw [hd]; exact far_yes (.inr c2))
              subst h0
              have c2b : ((at_ : Int) - id == (far : Int)) = true := beq_iff_eq.2 c2
              have C2 := Lib.hid c2
              clear hyes hd c1 c2 HNO
              go_wp2
              refine bodyPost_ret (v := nearV (⟨nm, id⟩, true)) (by simp [results, Try.results24, go_sem, nearV]) rfl ⟨rfl, ?_⟩
              first | exact (Below.refl w.heap.size w).alloc (Nat.le_refl _) _ | exact ((hb0.setCell (by simp) _).setCell (by simp) _)
            · have c2b : ((at_ : Int) - id == (far : Int)) = false := beq_eq_false_iff_ne.2 c2
              have HNX := Lib.hid (HNO.out (by rw [hd]; exact far_no c1 c2))
              clear hyes hd c1 c2 HNO
              go_wp2
              go_round
              case rel => exact ⟨k + 1, by omega, by go_num, HNX⟩
              case measure => simp [intOf]; omega
        · obtain rfl : k = n := by omega
          have HX := Lib.hid (fun j (hj : j < k) => (show far + 1 ≤ dstM at_ l[j]! by have h1 := HF.out j hj; have h2 := HK.out j hj; omega))
          go_wp2
          go_round
          case rel => exact ⟨far + 1, by omega, by go_num, HX⟩
          case measure => simp [intOf]; omega
    · have e0 : l = [] := by
        rcases Nat.eq_zero_or_pos n with g | g
        · exact List.length_eq_zero_iff.1 (by rw [HN.out, g])
        · have h1 := HF.out 0 g
          have h2 := HP.out 0 (by rw [HN.out]; exact g)
          unfold dstM at h1
          omega
      have h0 : r = (⟨⟨#[]⟩, 0⟩, false) := by rw [← HE.out, e0]; exact nearM_none _
      subst h0
      clear e0
      have f1 : (4096 : Int) < (far : Int) := by omega
      go_wp2
      refine bodyPost_ret (v := nearV (⟨⟨#[]⟩, 0⟩, false)) (by simp [results, Try.results24, go_sem, nearV]) rfl ⟨rfl, ?_⟩
      first | exact (Below.refl w.heap.size w).alloc (Nat.le_refl _) _ | exact ((hb0.setCell (by simp) _).setCell (by simp) _)
end Go.Proofs.Ytimlfgjljnkbcaa
