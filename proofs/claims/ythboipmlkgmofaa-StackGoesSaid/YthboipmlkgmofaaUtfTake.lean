/-
  Contract of utf.Take: the rune whose bytes stand at a place, and how many these are; 0 and 0 where none stands.
-/
import Derived.Test.YthboipmlkgmofaaUtfLeaf
namespace Go.Proofs.Ythboipmlkgmofaa
open Go.RowKit

def OnUp (l : List UInt8) (k j : Nat) : Prop := ∀ m, m < j → 128 ≤ bt l (k + 1 + m) ∧ bt l (k + 1 + m) ≤ 191
theorem onUp_zero (l : List UInt8) (k : Nat) : OnUp l k 0 := fun m h => absurd h (Nat.not_lt_zero m)
theorem onUp_succ {l : List UInt8} {k j : Nat} (h : OnUp l k j) (g : 128 ≤ bt l (k + 1 + j) ∧ bt l (k + 1 + j) ≤ 191) : OnUp l k (j + 1) := fun m hm => by
  by_cases e : m = j
  · subst e; exact g
  · exact h m (by omega)

set_option maxRecDepth 100000 in
set_option maxHeartbeats 400000 in
theorem take_in' (s : ByteArray) (hs : s.size ≤ maxLen) (k : Nat) (hk : k < s.size) (w : World) (r m : Nat) (hR0 : tkl (s.data.toList.drop k) = (r, m)) :
    Calls Try.prog 47 #[.string s, .int .i64 k] w fun e w' => e = .returned (.tuple #[.int .i32 r, .int .i64 m]) ∧ w = w' := by
  unfold maxLen at hs
  have hlen : s.data.toList.length = s.size := by simp
  have L := lead_any (s[k].toNat) s[k].toNat_lt
  have hb := bt_get s k hk
  have hld := ld_le (s[k].toNat)
  obtain ⟨v, n, hvn⟩ : ∃ v n, ld (s[k].toNat) = (v, n) := ⟨_, _, rfl⟩
  rw [hvn] at L hld
  simp only at L hld
  obtain ⟨hn4, hv⟩ := hld
  have HL := Lib.hid L; clear L
  have HR := Lib.hid hR0; clear hR0
  by_cases h0 : n = 0
  · have hr : tkl (s.data.toList.drop k) = (0, 0) := take_none _ _ (by omega) (by rw [hb, hvn]; exact h0)
    rw [HR.out] at hr
    simp only [Prod.mk.injEq] at hr
    obtain ⟨rfl, rfl⟩ := hr
    subst h0
    clear hb hvn hlen
    go_enter Try.func47, Try.ntmps47
    go_wp2_with (go_at_call 50; refine (HL.out _).mono ?_; rintro e w' ⟨rfl, rfl⟩)
    go_ret2
    exact ⟨rfl, rfl⟩
  · by_cases hsh : s.size < k + n
    · have hr : tkl (s.data.toList.drop k) = (0, 0) := take_short _ _ (by omega) (by rw [hb, hvn, hlen]; exact hsh)
      rw [HR.out] at hr
      simp only [Prod.mk.injEq] at hr
      obtain ⟨rfl, rfl⟩ := hr
      clear hb hvn hlen
      have hz : ((n : Int) == 0) = false := by simp; omega
      go_enter Try.func47, Try.ntmps47
      go_wp2_with (go_at_call 50; refine (HL.out _).mono ?_; rintro e w' ⟨rfl, rfl⟩)
      go_ret2
      exact ⟨rfl, rfl⟩
    · have hz : ((n : Int) == 0) = false := by simp; omega
      have HB := Lib.hid hb; clear hb
      have HV := Lib.hid hvn; clear hvn
      have HN := Lib.hid hlen; clear hlen
      go_enter Try.func47, Try.ntmps47
      go_wp2_with (go_at_call 50; refine (HL.out _).mono ?_; rintro e w' ⟨rfl, rfl⟩)
      go_loop [6, 37] (fun c i => ∃ j : Nat, j + 1 ≤ n ∧ i = .int .i64 j ∧ c = .int .i32 (acc s.data.toList k v j) ∧ OnUp s.data.toList k j) (fun _ i => n - (intOf i).toNat)
      case atStart => exact ⟨0, by omega, rfl, rfl, onUp_zero _ _⟩
      case round =>
        obtain ⟨j, hj, rfl, rfl, hon⟩ := hrel
        by_cases hlt : j + 1 < n
        · have hi : k + 1 + j < s.size := by omega
          have hbj := bt_get s (k + 1 + j) hi
          have hac : acc s.data.toList k v j < 32768 := by
            have h1 := acc_small s.data.toList k j
            rw [HB.out, HV.out] at h1
            exact h1 hlt
          have hb255 := s[k + 1 + j].toNat_lt
          obtain ⟨ac, ha⟩ : ∃ ac, acc s.data.toList k v j = ac := ⟨_, rfl⟩
          rw [ha] at hac ⊢
          have HA := Lib.hid ha; clear ha
          have HJ := Lib.hid hbj; clear hbj
          by_cases h1 : 128 ≤ s[k + 1 + j].toNat ∧ s[k + 1 + j].toNat ≤ 191
          · obtain ⟨h1, h2⟩ := h1
            go_wp2_with (go_at_call 44; refine (goesOn_yes _ h1 h2 _).mono ?_; rintro e w' ⟨rfl, rfl⟩)
            go_round
            case rel =>
              refine ⟨j + 1, by omega, by go_num, ?_, onUp_succ hon (by rw [HJ.out]; exact ⟨h1, h2⟩)⟩
              rw [show acc s.data.toList k v (j + 1) = acc s.data.toList k v j * 64 + bt s.data.toList (k + 1 + j) % 64 from rfl, HA.out, HJ.out]
              go_num
            case measure => simp [intOf]; omega
          · have hr : tkl (s.data.toList.drop k) = (0, 0) := take_off _ k j (by rw [HN.out]; omega) (by rw [HB.out, HV.out]; exact hlt) (by rw [HJ.out]; exact h1)
            rw [HR.out] at hr
            simp only [Prod.mk.injEq] at hr
            have HX := Lib.hid hr; clear hr
            have H1 := Lib.hid h1; clear h1
            go_wp2_with (go_at_call 44; refine (goesOn_no _ H1.out _).mono ?_; rintro e w' ⟨rfl, rfl⟩)
            go_ret2
            exact ⟨ret_two (by rw [HX.out.1]; rfl) (by rw [HX.out.2]; rfl), rfl⟩
        · obtain rfl : n = j + 1 := by omega
          have hall := take_all s.data.toList k (by rw [HN.out]; exact hk) (by rw [HB.out, HV.out]; simp) (by rw [HB.out, HV.out]; exact fun m hm => hon m (by simp at hm; exact hm))
          rw [HB.out, HV.out] at hall
          simp only [Nat.add_sub_cancel] at hall
          obtain ⟨ac, ha⟩ : ∃ ac, acc s.data.toList k v j = ac := ⟨_, rfl⟩
          rw [ha] at hall ⊢
          rw [HR.out] at hall
          clear hon ha
          by_cases hsz : sz (ac : Int) = j + 1
          · rw [if_pos hsz] at hall
            simp only [Prod.mk.injEq] at hall
            have HX := Lib.hid hall; clear hall
            have HS := Lib.hid hsz; clear hsz
            have hne : ((sz (ac : Int) : Int) != (j : Int) + 1) = false := by rw [HS.out]; simp
            go_wp2_with (go_at_call 51; refine (size_any _ _).mono ?_; rintro e w' ⟨rfl, rfl⟩)
            go_ret2
            exact ⟨ret_two (by rw [HX.out.1]) (by rw [HX.out.2]; simp), rfl⟩
          · rw [if_neg hsz] at hall
            simp only [Prod.mk.injEq] at hall
            have HX := Lib.hid hall; clear hall
            have hne : ((sz (ac : Int) : Int) != (j : Int) + 1) = true := by simp; omega
            clear hsz
            go_wp2_with (go_at_call 51; refine (size_any _ _).mono ?_; rintro e w' ⟨rfl, rfl⟩)
            go_ret2
            exact ⟨ret_two (by rw [HX.out.1]; rfl) (by rw [HX.out.2]; rfl), rfl⟩

set_option maxRecDepth 100000 in
theorem take_any (s : ByteArray) (hs : s.size ≤ maxLen) (p : Int) (w : World) :
    Calls Try.prog 47 #[.string s, .int .i64 p] w fun e w' => e = .returned (.tuple #[.int .i32 (takeI s.data.toList p).1, .int .i64 (takeI s.data.toList p).2]) ∧ w = w' := by
  by_cases h0 : p < 0
  · have e : takeI s.data.toList p = (0, 0) := by unfold takeI; rw [if_pos h0]
    rw [e]; clear e
    unfold maxLen at hs
    go_enter Try.func47, Try.ntmps47
    go_wp2
    go_ret2
    exact ⟨rfl, rfl⟩
  obtain ⟨k, rfl⟩ := Int.eq_ofNat_of_zero_le (Int.not_lt.1 h0)
  by_cases hk : k < s.size
  · have e : takeI s.data.toList k = tkl (s.data.toList.drop k) := by unfold takeI; rw [if_neg h0]; rfl
    rw [e]
    exact take_in' s hs k hk w _ _ rfl
  · have e : takeI s.data.toList k = (0, 0) := by
      unfold takeI; rw [if_neg h0, Int.toNat_natCast, List.drop_eq_nil_of_le (by simp; omega)]; rfl
    rw [e]; clear e
    unfold maxLen at hs
    go_enter Try.func47, Try.ntmps47
    go_wp2
    go_ret2
    exact ⟨rfl, rfl⟩
end Go.Proofs.Ythboipmlkgmofaa
