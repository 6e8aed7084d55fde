/-
  Joined: PieceDev.
-/
import Derived.Test.YtfgecjlccngddaaGreatJPieceRef
namespace Go.Proofs.YtfgecjlccngddaaGreat
set_option linter.unusedSimpArgs false
set_option linter.unusedVariables false
open Go.RowKit

/-- A pair as a value. -/
abbrev prA (a b : Int) : Value := .agg #[.int .i64 a, .int .i64 b]

set_option maxRecDepth 100000 in
set_option maxHeartbeats 400000 in
theorem pcount_any (n : Int) (h0 : -9223372036854775808 ≤ n) (h1 : n ≤ 9223372036854775807) (w : World) :
    Calls Tryz.prog 95 #[.int .i64 n] w fun e w' => e = .returned (.int .i64 (cntI n)) ∧ w = w' := by
  by_cases h : n < 1
  · have e : cntI n = 0 := if_pos h
    rw [e]; clear e
    go_enter Tryz.func95, Tryz.ntmps95
    go_wp2
    go_ret
    exact ⟨rfl, rfl⟩
  · have e : cntI n = (n - 1) / 32 + 1 := if_neg h
    have HE := Lib.hid e; clear e
    have h2 : 1 ≤ n := by omega
    clear h
    go_enter Tryz.func95, Tryz.ntmps95
    go_wp2
    go_ret
    exact ⟨by rw [HE.out]; rfl, rfl⟩

theorem pair_zero : ∀ (w : World) (o : Obj) (u0 u1 : Value), Below w.heap.size w (((w.alloc o).setCell ⟨w.heap.size, 0, none⟩ u0).setCell ⟨w.heap.size, 1, none⟩ u1) :=
  fun _ _ _ _ => (((Below.refl _ _).alloc (Nat.le_refl _) _).setCell (p := ⟨_, 0, none⟩) (Nat.le_refl _) _).setCell (p := ⟨_, 1, none⟩) (Nat.le_refl _) _

set_option maxRecDepth 100000 in
set_option maxHeartbeats 400000 in
theorem pshare_neg (a b k : Int) (h : k < 0) (w : World) :
    Calls Tryz.prog 171 #[prA a b, .int .i64 k] w fun e w' => e = .returned (prA 0 0) ∧ Below w.heap.size w w' := by
  go_enter Tryz.func171, Tryz.ntmps171
  go_wp2
  refine bodyPost_ret (v := prA 0 0) (by simp [results, Tryz.results171, go_sem]) rfl ⟨rfl, ?_⟩
  exact ((Below.refl _ _).alloc (Nat.le_refl _) _).alloc (by simp) _

set_option maxRecDepth 100000 in
set_option maxHeartbeats 400000 in
theorem pshare_past (a b k : Int) (hb0 : -9223372036854775808 ≤ b) (hb1 : b ≤ 9223372036854775807) (h0 : 0 ≤ k) (h : cntI b ≤ k) (w : World) :
    Calls Tryz.prog 171 #[prA a b, .int .i64 k] w fun e w' => e = .returned (prA 0 0) ∧ Below w.heap.size w w' := by
  have c := pcount_any b hb0 hb1
  obtain ⟨m, hm⟩ : ∃ m, cntI b = m := ⟨_, rfl⟩
  rw [hm] at c h
  have C := Lib.hid c; clear c hm hb0 hb1
  go_enter Tryz.func171, Tryz.ntmps171
  go_wp2_with (go_at_call 95; (with_reducible refine (C.out _).mono ?_); rintro e w' ⟨rfl, rfl⟩)
  refine bodyPost_ret (v := prA 0 0) (by simp [results, Tryz.results171, go_sem]) rfl ⟨rfl, ?_⟩
  exact ((Below.refl _ _).alloc (Nat.le_refl _) _).alloc (by simp) _

set_option maxRecDepth 100000 in
set_option maxHeartbeats 800000 in
theorem pshare_in (a b k : Nat) (hb : b ≤ 1099511627776) (h : 32 * k < b) (w : World) :
    Calls Tryz.prog 171 #[prA a b, .int .i64 k] w fun e w' => e = .returned (prA (max (32 * k) a : Nat) (min (32 * k + 32) b : Nat)) ∧ Below w.heap.size w w' := by
  have c := pcount_any b (by omega) (by omega)
  rw [cntI_nat] at c
  obtain ⟨m, hm⟩ : ∃ m, cntN b = m := ⟨_, rfl⟩
  rw [hm] at c
  have hk : k < m := by unfold cntN at hm; omega
  have C := Lib.hid c; clear c hm
  obtain ⟨x, hx⟩ : ∃ x : Nat, max (32 * k) a = x := ⟨_, rfl⟩
  obtain ⟨y, hy⟩ : ∃ y : Nat, min (32 * k + 32) b = y := ⟨_, rfl⟩
  rw [hx, hy]
  have HX := Lib.hid hx; have HY := Lib.hid hy
  clear hx hy
  go_enter Tryz.func171, Tryz.ntmps171
  go_wp2_with (go_at_call 95; (with_reducible refine (C.out _).mono ?_); rintro e w' ⟨rfl, rfl⟩)
  all_goals
    have hx := HX.out; have hy := HY.out
    refine bodyPost_ret (v := prA x y) (by simp [results, Tryz.results171, go_sem]; omega) rfl ⟨rfl, ?_⟩
    exact ((Below.refl _ _).alloc (Nat.le_refl _) _).alloc (by simp) _

theorem slS_none (s : ByteArray) (k : Int) (h : k < 0 ∨ cntI s.size ≤ k) : slS s k = ByteArray.empty := by
  unfold slS
  split
  · rfl
  · rename_i h2
    have h3 : ((s.size / 32 : Nat) : Int) = (s.size : Int) / 32 := by omega
    have : s.size ≤ 32 * k.toNat := by unfold cntI at h; split at h <;> omega
    exact str_ext (by rw [extract_list, List.drop_eq_nil_of_le (by simpa using this), List.take_nil]; rfl)
theorem slS_in (s : ByteArray) (k : Nat) (h : 32 * k < s.size) : slS s k = s.extract (32 * k) (min (32 * k + 32) s.size) := if_neg (by omega)
theorem bcell {W w1 : World} (hb : Below W.heap.size W w1) : (∀ b o, b < W.heap.size → w1.cell? ⟨b, o, none⟩ = W.cell? ⟨b, o, none⟩) ∧ (∀ b o, b < W.heap.size → w1.frozen? ⟨b, o, none⟩ = W.frozen? ⟨b, o, none⟩) :=
  ⟨fun b o h => hb.cell (p := ⟨b, o, none⟩) h, fun b o h => hb.frozen (p := ⟨b, o, none⟩) h⟩

set_option maxRecDepth 100000 in
set_option maxHeartbeats 400000 in
theorem pslice_no (s : ByteArray) (hs : s.size ≤ 4294967296) (k : Int) (h : k < 0 ∨ cntI s.size ≤ k) (w : World) :
    Calls Tryz.prog 144 #[.string s, .int .i64 k] w fun e w' => e = .returned (.string ByteArray.empty) ∧ Below w.heap.size w w' := by
  have c : ∀ w, Calls Tryz.prog 171 #[prA 0 s.size, .int .i64 k] w fun e w' => e = .returned (prA 0 0) ∧ Below w.heap.size w w' := by
    intro w
    by_cases h0 : k < 0
    · exact pshare_neg _ _ _ h0 w
    · exact pshare_past _ _ _ (by omega) (by omega) (by omega) (by omega) w
  have C := Lib.hid c; clear c h
  go_enter Tryz.func144, Tryz.ntmps144
  go_wp2_with (go_at_call 171; (with_reducible refine (C.out _).mono ?_); rintro e w1 ⟨rfl, hb⟩)
  go_ret
  exact ⟨rfl, hb.trans ((Below.refl _ _).alloc hb.size _)⟩

set_option maxRecDepth 100000 in
set_option maxHeartbeats 400000 in
theorem pslice_in (s : ByteArray) (hs : s.size ≤ 4294967296) (k : Nat) (h : 32 * k < s.size) (w : World) :
    Calls Tryz.prog 144 #[.string s, .int .i64 k] w fun e w' => e = .returned (.string (s.extract (32 * k) (min (32 * k + 32) s.size))) ∧ Below w.heap.size w w' := by
  have c := pshare_in 0 s.size k (by omega) h
  obtain ⟨y, hy⟩ : ∃ y : Nat, min (32 * k + 32) s.size = y := ⟨_, rfl⟩
  obtain ⟨x, hx⟩ : ∃ x : Nat, 32 * k = x := ⟨_, rfl⟩
  rw [hy, hx, Nat.max_eq_left (Nat.zero_le _), show (((0 : Nat) : Int)) = 0 from rfl] at c
  rw [hy, hx]
  have h1 : x < y := by omega
  have h2 : y ≤ s.size := by omega
  have C := Lib.hid c; clear c hx hy h
  have t1 : ((y : Int) == 0) = false := by simp; omega
  go_enter Tryz.func144, Tryz.ntmps144
  go_wp2_with (go_at_call 171; (with_reducible refine (C.out _).mono ?_); rintro e w1 ⟨rfl, hb⟩)
  go_ret
  exact ⟨rfl, hb.trans ((Below.refl _ _).alloc hb.size _)⟩
theorem pslice_any (s : ByteArray) (hs : s.size ≤ 4294967296) (k : Int) (w : World) :
    Calls Tryz.prog 144 #[.string s, .int .i64 k] w fun e w' => e = .returned (.string (slS s k)) ∧ Below w.heap.size w w' := by
  by_cases h : k < 0 ∨ cntI s.size ≤ k
  · rw [slS_none s k h]; exact pslice_no s hs k h w
  · obtain ⟨j, rfl⟩ := Int.eq_ofNat_of_zero_le (show 0 ≤ k by omega)
    have h2 : 32 * j < s.size := by unfold cntI at h; split at h <;> omega
    rw [slS_in s j h2]; exact pslice_in s hs j h2 w

theorem own_below {w w' : World} {base : Nat} {e : TypeId} {size : Nat} {v : Value} {n : Nat} {xs : List Value} (h : w.ownsRow base e size v n xs) (hb : Below w.heap.size w w') : w'.ownsRow base e size v n xs := by
  refine ⟨h.1, ?_⟩
  rcases h.2 with h2 | ⟨g, cap, cur, hv, hg0, hg, hr⟩
  · exact .inl h2
  · exact .inr ⟨g, cap, cur, hv, hg0, (hb.block g (lt_of_block hg)).trans hg, hr⟩

set_option maxRecDepth 100000 in
set_option maxHeartbeats 800000 in
theorem punlike_any (a b : ByteArray) (ha : a.size ≤ 4294967296) (hb : b.size ≤ 4294967296) (w : World) :
    Calls Tryz.prog 143 #[.string a, .string b] w (RetNums w (unlL a.data.toList b.data.toList)) := by
  obtain ⟨i0, hi, hz0, hz1, hz2⟩ := info_parts int_info
  have hla : a.data.toList.length = a.size := by simp
  have hlb : b.data.toList.length = b.size := by simp
  obtain ⟨m, hm⟩ : ∃ m, max (cntN a.size) (cntN b.size) = m := ⟨_, rfl⟩
  have e : unlL a.data.toList b.data.toList = unl a.data.toList b.data.toList m := by unfold unlL; rw [hla, hlb, hm]
  rw [e]
  have hm4 : m ≤ 4294967296 := by unfold cntN at hm; omega
  have c1 : ∀ x : Nat, max a.size b.size = x → ∀ w, Calls Tryz.prog 95 #[.int .i64 x] w fun e w' => e = .returned (.int .i64 m) ∧ w = w' := by
    intro x hx w
    have c := pcount_any x (by omega) (by omega) w
    rw [cntI_nat, show cntN x = m by unfold cntN at hm ⊢; omega] at c
    exact c
  have C1 := Lib.hid c1
  clear c1 hm e hla hlb
  rcases (show b.size ≤ a.size ∨ a.size < b.size by omega) with hab | hab
  all_goals
    first
      | have c2 := C1.out a.size (by omega)
      | have c2 := C1.out b.size (by omega)
    have C2 := Lib.hid c2
    clear c2 C1
    go_enter Tryz.func143, Tryz.ntmps143
    go_wp2_with (go_at_call 95; (with_reducible refine (C2.out _).mono ?_); rintro e w' ⟨rfl, rfl⟩)
    go_loopw [5, 13] (fun v i wr => ∃ k : Nat, k ≤ m ∧ i = .int .i64 k ∧ wr.ownsRow w.heap.size 3 1 v (unl a.data.toList b.data.toList k).length ((unl a.data.toList b.data.toList k).map fun x => Value.int .i64 (x : Nat)) ∧ Below w.heap.size w wr) (fun _ i _ => m - (intOf i).toNat)
    case atStart => exact ⟨0, Nat.zero_le _, rfl, World.ownsRow_nil _ _ _ _, Below.refl _ _⟩
    case round =>
      obtain ⟨k, hk, rfl, hown, hbel⟩ := hrel
      have hs := unl_same a b k
      have ht := unl_more a b k
      have hlen := unl_len a.data.toList b.data.toList k
      have s1 := pslice_any a ha k
      have s2 := pslice_any b hb k
      obtain ⟨p, hp⟩ : ∃ p, slS a k = p := ⟨_, rfl⟩
      obtain ⟨q, hq⟩ : ∃ p, slS b k = p := ⟨_, rfl⟩
      rw [hp] at s1 hs ht
      rw [hq] at s2 hs ht
      have S1 := Lib.hid s1; have S2 := Lib.hid s2
      clear s1 s2 hp hq
      by_cases hlt : k < m
      · by_cases hpq : p = q
        · have HS := Lib.hid (hs hpq); clear hs ht
          subst hpq
          go_wp2_with fail
          refine (S1.out _).mono ?_
          rintro e w1 ⟨rfl, hb1⟩
          go_wp2_with fail
          refine (S2.out _).mono ?_
          rintro e w2 ⟨rfl, hb2⟩
          have hown2 := own_below (own_below hown hb1) hb2
          have hbel1 := hbel.trans (hb1.mono hbel.size)
          have hbel2 := hbel1.trans (hb2.mono hbel1.size)
          clear hown hbel hbel1 hb1 hb2
          go_wp2
          go_roundw
          case rel => exact ⟨k + 1, by omega, by go_num, by rw [HS.out]; exact hown2, hbel2⟩
          case measure => simp [intOf]; omega
        · have HS := Lib.hid (ht hpq); clear hs ht
          have hne := str_ne hpq
          have hne2 : (p.toList != q.toList) = true := by rw [bne, hne]; rfl
          clear hpq
          go_wp2_with fail
          refine (S1.out _).mono ?_
          rintro e w1 ⟨rfl, hb1⟩
          go_wp2_with fail
          refine (S2.out _).mono ?_
          rintro e w2 ⟨rfl, hb2⟩
          have hown2 := own_below (own_below hown hb1) hb2
          have hbel1 := hbel.trans (hb1.mono hbel.size)
          have hbel2 := hbel1.trans (hb2.mono hbel1.size)
          clear hown hbel hbel1 hb1 hb2
          go_wp2_with (at_builtin; refine wpList_append_own _ rfl _ _ 86 rfl w.heap.size 3 i0 (.int .i64 0) 1 8 Tryz.underlying86 hi hz0 hz1 hz2 rfl (by decide) _ _ _ rfl (hown2.alloc _) ⟨w2.heap.size, 0, none⟩ 1 1 [.int .i64 (k : Nat)] rfl rfl (news_int _ _ _) (one_int _) (by unfold maxLen; omega) (by omega) (by have := hbel2.size; simp; omega) ?_; intro v' w3 hown' hgrow _)
          have hb1 : Below w.heap.size w w3 := (hbel2.alloc hbel2.size _).grown hgrow (by have := hbel2.size; simp; omega) (own_block hown2)
          have ho1 : w3.ownsRow w.heap.size 3 1 v' (unl a.data.toList b.data.toList (k + 1)).length ((unl a.data.toList b.data.toList (k + 1)).map fun x => Value.int .i64 (x : Nat)) := by
            rw [HS.out, List.map_append, List.length_append]
            exact hown'
          have HO := Lib.hid ho1; have HB := Lib.hid hb1
          clear hown' hgrow hown2 hbel2 ho1 hb1
          go_wp2
          go_roundw
          case rel => exact ⟨k + 1, by omega, by go_num, HO.out, HB.out⟩
          case measure => simp [intOf]; omega
      · obtain rfl : k = m := by omega
        clear hs ht
        obtain ⟨ad, c, rfl, hn⟩ := nums_own hown
        have HNN := Lib.hid hn; clear hn hown
        go_wp2
        go_ret
        exact ⟨ad, c, rfl, HNN.out, hbel⟩

theorem pspan_info : (Tryz.prog.info? 215).map (fun i => (i.zero, i.size, i.bytes)) = some (some (.agg #[.int .i64 0, .int .i64 0]), 2, 16) := by kernel_rfl

/-- The first so many spans. -/
def spT (p m k : Nat) : List (Nat × Nat) := (List.range k).map (spk p m)
theorem spT_zero (p m : Nat) : spT p m 0 = [] := rfl
theorem spT_len (p m k : Nat) : (spT p m k).length = k := by simp [spT]
theorem spT_succ (p m k : Nat) : spT p m (k + 1) = spT p m k ++ [spk p m k] := by unfold spT; rw [List.range_succ, List.map_append]; rfl
theorem spT_all (p m : Nat) : spT p m (spN p m) = spL p m := rfl

end Go.Proofs.YtfgecjlccngddaaGreat
