/-
  The walk of the law SumBursts.
-/
import Derived.Test.YtkppfobhccncaaaLawSum
import Derived.RegionTactic
import Derived.BigRegion
namespace Go.Proofs.Ytkppfobhccncaaa
open Go.RowKit

/-- The block g begins with the bytes l, and they may be written. -/
def BytesAt (W : World) (g : Nat) (l : List UInt8) : Prop :=
  ∀ i, i < l.length → W.cell? ⟨g, i, none⟩ = some (.int .u8 ((l.getD i 0).toNat : Nat)) ∧ W.frozen? ⟨g, i, none⟩ = false

theorem bytesAt_row (w : World) (s : ByteArray) (cap : Nat) (e : TypeId) : BytesAt (w.drew.alloc (.cells (bytesRow s cap) e ((bytesRow s cap).size, (bytesRow s cap).size + 1))) w.heap.size s.data.toList := by
  intro i hi
  have hi' : i < s.size := by simpa using hi
  have hsz : (bytesRow s cap).size = s.size + (cap - s.size) := by unfold bytesRow; rw [Array.size_append, Array.size_map, Array.size_replicate]; rfl
  refine ⟨?_, ?_⟩
  · rw [show w.heap.size = w.drew.heap.size from rfl, World.cell?_alloc_mark]
    unfold bytesRow
    rw [Array.getElem?_append_left (by simpa using hi'), Array.getElem?_map]
    have h2 : s.data[i]? = some (s.data.toList.getD i 0) := by
      rw [List.getD_eq_getElem?_getD, Array.getElem?_toList, Array.getElem?_eq_getElem (by simpa using hi')]; rfl
    rw [h2]; rfl
  · rw [show w.heap.size = w.drew.heap.size from rfl, World.frozen?_alloc_mark]
    simp; omega

theorem bytesAt_set {W : World} {g : Nat} {l : List UInt8} (h : BytesAt W g l) (k : Nat) (hk : k < l.length) (b : UInt8) :
    BytesAt ((W.setCell ⟨g, k, none⟩ (.int .u8 (b.toNat : Nat))).drew) g (l.set k b) := by
  intro i hi
  rw [List.length_set] at hi
  obtain ⟨h1, h2⟩ := h i hi
  refine ⟨?_, ?_⟩
  · rw [World.cell?_drew]
    by_cases e : i = k
    · subst e
      rw [World.cell?_setCell_same _ _ _ h1, List.getD_eq_getElem?_getD, List.getElem?_set_self hk]; rfl
    · rw [World.cell?_setCell_other _ _ _ _ (by intro h; simp only [Addr.mk.injEq] at h; omega), h1, List.getD_eq_getElem?_getD, List.getD_eq_getElem?_getD, List.getElem?_set_ne (by omega)]
  · show (W.setCell ⟨g, k, none⟩ (.int .u8 (b.toNat : Nat))).frozen? ⟨g, i, none⟩ = false
    rw [World.frozen?_setCell]; exact h2
theorem back_string {P : Program} {W : World} {g : Nat} {l : List UInt8} (h : BytesAt W g l) (src dst e : TypeId) (n cap : Nat) (hn : l.length = n)
    (hs : P.underlying src = some (.slice e)) (he : P.underlying e = some (.int .u8)) (hd : P.underlying dst = some .string) :
    (convert src dst (.slice (some ⟨g, 0, none⟩) n cap)).run P W = .ok (.string ⟨l.toArray⟩) W := by
  subst hn
  refine run_convert_bytes_back W src dst e ⟨g, 0, none⟩ cap l hs he hd fun j hj => ?_
  have := (h j hj).1
  rw [List.getD_eq_getElem?_getD, List.getElem?_eq_getElem hj] at this
  have hplain : (⟨g, 0, none⟩ : Addr).add j = ⟨g, 0 + j, none⟩ := by unfold Addr.add; split <;> simp_all
  rw [hplain, Nat.zero_add]
  simpa using this
theorem flip_byte (old : UInt8) (m : Nat) (hm : m < 8) : Go.bits BinOp.xor IntKind.u8 ((old.toNat : Nat) : Int) (2 ^ m % 256) = (((UInt8.ofNat (old.toNat ^^^ 2 ^ m)).toNat : Nat) : Int) ∧ (UInt8.ofNat (old.toNat ^^^ 2 ^ m)).toNat = old.toNat ^^^ 2 ^ m := by
  have hp : 2 ^ m < 2 ^ 8 := Nat.pow_lt_pow_right (by omega) hm
  have hlt : old.toNat ^^^ 2 ^ m < 256 := Nat.xor_lt_two_pow (n := 8) old.toNat_lt hp
  have e2 : (UInt8.ofNat (old.toNat ^^^ 2 ^ m)).toNat = old.toNat ^^^ 2 ^ m := by
    show (old.toNat ^^^ 2 ^ m) % 256 = _; omega
  refine ⟨?_, e2⟩
  have e3 : (2 : Int) ^ m % 256 = ((2 ^ m : Nat) : Int) := by
    have h2 : (2 : Int) ^ m = ((2 ^ m : Nat) : Int) := by rw [Int.natCast_pow]; rfl
    rw [h2]
    exact Int.emod_eq_of_lt (Int.natCast_nonneg _) (Int.ofNat_lt.2 hp)
  rw [e2, e3]
  exact u8_xor_nat old.toNat (2 ^ m) old.toNat_lt hp

theorem bit_int (p j : Nat) : ((p : Int) / 2 ^ j).tmod 2 = ((p >>> j % 2 : Nat) : Int) := by
  rw [Nat.shiftRight_eq_div_pow]
  have h : (p : Int) / 2 ^ j = ((p / 2 ^ j : Nat) : Int) := by simp
  rw [h, Int.tmod_eq_emod_of_nonneg (Int.natCast_nonneg _)]
  omega
theorem bit_yes {p j : Nat} (h : p >>> j % 2 = 1) : (((p : Int) / 2 ^ j).tmod 2 == 0) = false := by rw [bit_int, h]; rfl
theorem bit_no {p j : Nat} (h : ¬ p >>> j % 2 = 1) : (((p : Int) / 2 ^ j).tmod 2 == 0) = true := by
  rw [bit_int, show p >>> j % 2 = 0 by omega]; rfl
theorem pat_zero {p j : Nat} (h : ¬ p >>> j % 2 = 1) : p % 2 ^ (j + 1) = p % 2 ^ j := by rw [pat_succ, if_neg h, Nat.xor_zero]
theorem pat_one {p j : Nat} (h : p >>> j % 2 = 1) : p % 2 ^ (j + 1) = p % 2 ^ j ^^^ 2 ^ j := by rw [pat_succ, if_pos h]

set_option maxRecDepth 100000 in
set_option maxHeartbeats 400000 in
theorem bursts_in (s : ByteArray) (k p : Nat) (hl : s.size ≤ 1000) (hp0 : p ≠ 0) (hp : p < 4294967296) (hk : k ≤ 8 * s.size) (w : World) :
    Calls Try.prog 6 #[.string s, .int .i64 k, .int .u32 p] w fun e w' => e = .returned (.bool true) ∧ Below w.heap.size w w' := by
  have hz : ((p : Int) == 0) = false := by simp; omega
  have hcv := run_bytes_of_string (P := Try.prog) w 9 30 5 s Try.underlying9 Try.underlying30 Try.underlying5
  obtain ⟨W1, hW1⟩ : ∃ W1, (w.drew.alloc (.cells (bytesRow s (grownCap w s.size 0 5)) 5 ((bytesRow s (grownCap w s.size 0 5)).size, (bytesRow s (grownCap w s.size 0 5)).size + 1))) = W1 := ⟨_, rfl⟩
  have hB1 : BytesAt W1 w.heap.size s.data.toList := by rw [← hW1]; exact bytesAt_row w s _ _
  have hbel : Below w.heap.size w W1 := by rw [← hW1]; exact (Below.refl _ _).drew.alloc (Nat.le_refl _) _
  rw [hW1] at hcv
  obtain ⟨cap, hcap⟩ : ∃ cap, grownCap w s.size 0 5 = cap := ⟨_, rfl⟩
  rw [hcap] at hcv
  clear hcap hW1
  have HB1 := Lib.hid hB1; clear hB1
  have HB2 := Lib.hid hbel; clear hbel
  go_enter Try.func6, Try.ntmps6
  go_wp2
  go_loopw [8] (fun i wr => ∃ (j : Nat) (l : List UInt8), j ≤ 32 ∧ i = .int .i64 j ∧ l.length = s.size ∧ textN l = textN s.data.toList ^^^ ((p % 2 ^ j) <<< k) ∧ BytesAt wr w.heap.size l ∧ Below w.heap.size w wr) (fun i _ => 32 - (intOf i).toNat)
  case atStart => exact ⟨0, s.data.toList, by omega, rfl, by simp, by simp [Nat.mod_one], HB1.out, HB2.out⟩
  case round =>
    obtain ⟨j, l, hj, rfl, hlen, htx, hby, hbel⟩ := hrel
    have HLEN := Lib.hid hlen; have HTX := Lib.hid htx; have HBY := Lib.hid hby; have HBEL := Lib.hid hbel
    clear hlen htx hby hbel
    by_cases hlt : j < 32
    · by_cases hbit : p >>> j % 2 = 1
      · have hq := bit_yes hbit
        obtain ⟨kk, hkk⟩ : ∃ kk, (k + j) / 8 = kk := ⟨_, rfl⟩
        obtain ⟨m, hm⟩ : ∃ m, (k + j) % 8 = m := ⟨_, rfl⟩
        have e1 : ((k : Int) + (j : Int)) / 8 = (kk : Int) := by omega
        have e2 : ((k : Int) + (j : Int)) % 8 = (m : Int) := by omega
        have hm8 : m < 8 := by omega
        have HKK := Lib.hid hkk; have HM := Lib.hid hm; have HBIT := Lib.hid hbit
        clear hkk hm hbit
        by_cases hin : kk < s.size
        · obtain ⟨hc, hf⟩ := HBY.out kk (by rw [HLEN.out]; exact hin)
          obtain ⟨old, hold⟩ : ∃ old, (l.getD kk 0) = old := ⟨_, rfl⟩
          rw [hold] at hc
          have hold255 := old.toNat_lt
          obtain ⟨f1, f2⟩ := flip_byte old m hm8
          obtain ⟨nb, hnb⟩ : ∃ nb, UInt8.ofNat (old.toNat ^^^ 2 ^ m) = nb := ⟨_, rfl⟩
          rw [hnb] at f1 f2
          have hset := textN_set l kk m nb (by rw [HLEN.out]; exact hin) (by rw [hold]; exact f2)
          rw [show 8 * kk + m = k + j by have := HKK.out; have := HM.out; omega] at hset
          have htx : textN (l.set kk nb) = textN s.data.toList ^^^ ((p % 2 ^ (j + 1)) <<< k) := by
            rw [hset, HTX.out, pat_one HBIT.out, Nat.shiftLeft_xor_distrib, show 2 ^ j <<< k = 2 ^ (k + j) by rw [Nat.shiftLeft_eq, ← Nat.pow_add, Nat.add_comm]]
            ac_rfl
          have hby := bytesAt_set HBY.out kk (by rw [HLEN.out]; exact hin) nb
          have hbel := (HBEL.out.setCell (p := ⟨w.heap.size, kk, none⟩) (Nat.le_refl _) (.int .u8 (nb.toNat : Nat))).drew
          have H1 := Lib.hid htx; have H2 := Lib.hid hby; have H3 := Lib.hid hbel
          have H4 := Lib.hid (show (l.set kk nb).length = s.size by rw [List.length_set]; exact HLEN.out)
          clear hold f2 hnb hset htx hby hbel
          go_wp2
          go_region
          go_wp2
          go_roundw
          case rel => exact ⟨j + 1, l.set kk nb, by omega, by go_num, H4.out, H1.out, H2.out, H3.out⟩
          case measure => simp [intOf]; omega
        · go_wp2_with fail
          refine (onward (w0 := w) HBEL.out (lives2_any _)).mono ?_; rintro e w1 ⟨rfl, hb1⟩
          go_wp2
          go_ret
          exact ⟨rfl, hb1⟩
      · have hq := bit_no hbit
        have HP := Lib.hid (pat_zero hbit)
        clear hbit
        go_wp2
        go_roundw
        case rel => exact ⟨j + 1, l, by omega, by go_num, HLEN.out, by rw [HP.out]; exact HTX.out, HBY.out, HBEL.out⟩
        case measure => simp [intOf]; omega
    · obtain rfl : j = 32 := by omega
      have hcb := back_string (P := Try.prog) HBY.out 30 9 5 s.size cap HLEN.out Try.underlying30 Try.underlying5 Try.underlying9
      have hlt2 : (⟨l.toArray⟩ : ByteArray).data.toList = l := by simp
      have c1 := of_any ⟨l.toArray⟩ (by unfold maxLen; show l.toArray.size ≤ _; rw [List.size_toArray, HLEN.out]; omega)
      have c2 := of_any s (by unfold maxLen; omega)
      rw [hlt2] at c1
      have hne : addN 0 l ≠ addN 0 s.data.toList := by
        have hb := burst s.data.toList l p k (0 ^^^ 4294967295) (by rw [HLEN.out]; simp) hp0 (by omega) (by simpa using hk) (by
          have := HTX.out
          rw [Nat.mod_eq_of_lt (show p < 2 ^ 32 by omega)] at this
          exact this)
        intro e
        unfold addN at e
        have e' := congrArg (fun x => x ^^^ 4294967295) e
        simp only [flip_flip] at e'
        exact hb e'
      obtain ⟨x, hx⟩ : ∃ x, addN 0 l = x := ⟨_, rfl⟩
      obtain ⟨y, hy⟩ : ∃ y, addN 0 s.data.toList = y := ⟨_, rfl⟩
      rw [hx] at c1 hne
      rw [hy] at c2 hne
      have hq : ((x : Int) != (y : Int)) = true := by simp; omega
      have C1 := Lib.hid c1; have C2 := Lib.hid c2
      clear c1 c2 hx hy hne hlt2
      go_wp2_with fail
      refine (onward (w0 := w) HBEL.out (C1.out _)).mono ?_; rintro e w1 ⟨rfl, hb1⟩
      go_wp2_with fail
      refine (onward (w0 := w) hb1 (C2.out _)).mono ?_; rintro e w2 ⟨rfl, hb2⟩
      go_wp2_with fail
      refine (onward (w0 := w) hb2 (lives2_any _)).mono ?_; rintro e w3 ⟨rfl, hb3⟩
      go_wp2
      go_ret
      exact ⟨by simp, hb3⟩

set_option maxRecDepth 100000 in
set_option maxHeartbeats 400000 in
theorem sumBursts_walk (s : ByteArray) (k p : Int) (_w0 : s.size ≤ maxLen) (_w1 : (Lit.int .i64 k).wf = true) (w2 : (Lit.int .u32 p).wf = true) (w : World) :
    Calls Try.prog 6 #[.string s, .int .i64 k, .int .u32 p] w fun e w' => e = .returned (.bool true) ∧ Below w.heap.size w w' := by
  obtain ⟨p0, p1⟩ := bounds_u32 w2
  obtain ⟨p, rfl⟩ := nat_of p0
  clear w2
  by_cases hl : 1000 < s.size
  · clear p0 p1
    go_enter Try.func6, Try.ntmps6
    go_wp2_with fail
    refine (lives2_any _).mono ?_; rintro e w1 ⟨rfl, hb1⟩
    go_wp2
    go_ret
    exact ⟨rfl, hb1⟩
  by_cases hp : p = 0
  · subst hp
    have hl' : s.size ≤ 1000 := by omega
    clear p0 p1 hl
    go_enter Try.func6, Try.ntmps6
    go_wp2_with fail
    refine (lives2_any _).mono ?_; rintro e w1 ⟨rfl, hb1⟩
    go_wp2
    go_ret
    exact ⟨rfl, hb1⟩
  have hz : ((p : Int) == 0) = false := by simp; omega
  by_cases hk0 : k < 0
  · have hl' : s.size ≤ 1000 := by omega
    clear p0 p1 hl hp
    go_enter Try.func6, Try.ntmps6
    go_wp2_with fail
    refine (lives2_any _).mono ?_; rintro e w1 ⟨rfl, hb1⟩
    go_wp2
    go_ret
    exact ⟨rfl, hb1⟩
  by_cases hk1 : 8 * (s.size : Int) < k
  · have hl' : s.size ≤ 1000 := by omega
    have hk0' : 0 ≤ k := by omega
    clear p0 p1 hl hp hk0
    go_enter Try.func6, Try.ntmps6
    go_wp2_with fail
    refine (lives2_any _).mono ?_; rintro e w1 ⟨rfl, hb1⟩
    go_wp2
    go_ret
    exact ⟨rfl, hb1⟩
  obtain ⟨k, rfl⟩ := nat_of (show 0 ≤ k by omega)
  exact bursts_in s k p (by omega) hp (by omega) (by omega) w
end Go.Proofs.Ytkppfobhccncaaa
