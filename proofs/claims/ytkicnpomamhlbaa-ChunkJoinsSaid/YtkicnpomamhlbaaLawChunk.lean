/-
  Layer 15's laws: lives; ChunkCuts; ChunkJoins.
-/
import Derived.Test.YtkicnpomamhlbaaChunkGoto
import Derived.Test.YtkicnpomamhlbaaOpenTexts
namespace Go.Proofs.Ytkicnpomamhlbaa
open Go.RowKit
set_option linter.unusedVariables false

/-- Seventeen letters, the first sixteen, the last. -/
def abc17 : ByteArray := ⟨#[97, 98, 99, 100, 101, 102, 103, 104, 105, 106, 107, 108, 109, 110, 111, 112, 113]⟩
def abc16 : ByteArray := ⟨#[97, 98, 99, 100, 101, 102, 103, 104, 105, 106, 107, 108, 109, 110, 111, 112]⟩
theorem abc_vld : vld abc17.data.toList := by unfold vld; decide +kernel
theorem abc_n : cutN abc17 = 16 := by decide +kernel
theorem abc_cut : Ctd abc17 [abc16, ⟨#[113]⟩] := by
  have h := @Ctd.more abc17 [⟨#[113]⟩] (by decide +kernel) (by
    rw [abc_n]
    have e : abc17.extract 16 abc17.size = ⟨#[113]⟩ := by decide +kernel
    rw [e]
    exact .last (by decide) (by decide))
  rw [abc_n] at h
  have e : abc17.extract 0 16 = abc16 := by decide +kernel
  rwa [e] at h
theorem abc_tight : TightP [abc16, ⟨#[113]⟩] := (ctd_tight abc_cut abc_vld).1
theorem tight_yes {a : Option Addr} {l : List ByteArray} {c : Nat} {w : World} (h1 : StrsH w a l) (hl : l.length ≤ 1000000) (hz : ∀ (k : Nat) (h : k < l.length), l[k].size ≤ 1000000) (hT : TightP l) :
    Calls Try.prog 16 #[.slice a l.length c] w fun e w' => e = .returned (.bool true) ∧ Below w.heap.size w w' :=
  (tight_any a l c w h1 hl hz).mono fun e w' ⟨b, he, hb, hbel⟩ => ⟨by rw [he, hb.2 hT], hbel⟩

set_option maxRecDepth 100000 in
set_option maxHeartbeats 800000 in
theorem lives15_any (w : World) : Calls Try.prog 6 #[] w fun e w' => e = .returned (.bool true) ∧ Below w.heap.size w w' := by
  have hc := cut_any abc17 (by decide +kernel)
  have HC := Lib.hid hc
  clear hc
  go_enter Try.func6, Try.ntmps6
  go_wp2_with fail
  refine (HC.out _).mono ?_
  rintro e w1 ⟨L, hL, hL2, a, c, rfl, hst, hb1⟩
  obtain rfl : L = [abc16, ⟨#[113]⟩] := hL.same (.inl ⟨abc_vld, abc_cut⟩)
  obtain ⟨ad, rfl, -, q0⟩ := hst 0 (by decide)
  obtain ⟨ad2, had, -, q1⟩ := hst 1 (by decide)
  obtain rfl : ad = ad2 := by cases had; rfl
  have q0' : w1.cell? ad = some (.string abc16) := by simpa [Addr.add] using q0
  have q1' : w1.cell? ⟨ad.block, ad.off + 1, none⟩ = some (.string ⟨#[113]⟩) := by simpa [Addr.add] using q1
  have q1'' : w1.cell? (ad.add 1) = some (.string ⟨#[113]⟩) := q1
  have z1 : abc16.size = 16 := by decide +kernel
  have ct := tight_yes (c := c) hst (by decide) (by
    intro k hk
    match k, hk with
    | 0, _ => show abc16.size ≤ _; decide +kernel
    | 1, _ => show (⟨#[113]⟩ : ByteArray).size ≤ _; decide) abc_tight
  have CT := Lib.hid ct; have HB1 := Lib.hid hb1
  clear ct hst had hL hL2 q0 q1 hb1
  go_wp2_with fail
  refine CT.out.mono ?_; rintro e w2 ⟨rfl, hb2⟩
  go_wp2
  go_ret
  exact ⟨by simp, HB1.out.trans (hb2.mono HB1.out.size)⟩

/-- A call behind others that answers a row of pieces. -/
theorem ret_on {w0 w w' : World} {L : List ByteArray} {e : Ending} (h : Below w0.heap.size w0 w) (r : RetStrs w L e w') : ∃ a c, e = .returned (.slice a L.length c) ∧ StrsH w' a L ∧ Below w0.heap.size w0 w' ∧ Below w.heap.size w w' := by
  obtain ⟨a, c, h1, h2, h3⟩ := r
  exact ⟨a, c, h1, h2, h.trans (h3.mono h.size), h3⟩

set_option maxRecDepth 100000 in
set_option maxHeartbeats 1600000 in
theorem chunkCuts_walk (s : ByteArray) (w : World) (ws : s.size ≤ maxLen) :
    Calls Try.prog 3 #[.string s] w fun e w' => e = .returned (.bool true) ∧ Below w.heap.size w w' := by
  clear ws
  have hb0 := Below.refl w.heap.size w
  by_cases h4 : 400 < s.size
  · go_enter Try.func3, Try.ntmps3
    go_wp2_with fail
    refine (lives15_any _).mono ?_; rintro e w1 ⟨rfl, hb1⟩
    go_wp2
    go_ret
    exact ⟨rfl, hb1⟩
  · have c1 := half_any s (by omega)
    have c2 := rhalf_any s (by omega)
    have c3 := cut_any s (by omega)
    have c4 := rcut_any s (by omega)
    have c5 := fits_any s (by unfold maxLen; omega)
    have c6 := rfits_any s (by omega)
    have hn := halfN_le s
    obtain ⟨x, hx⟩ : ∃ x, s.extract 0 (halfN s) = x := ⟨_, rfl⟩
    obtain ⟨y, hy⟩ : ∃ y, s.extract (halfN s) s.size = y := ⟨_, rfl⟩
    obtain ⟨b, hb⟩ : ∃ b, fitsB s = b := ⟨_, rfl⟩
    simp only [hx, hy] at c1 c2
    rw [hb] at c5 c6
    have C1 := Lib.hid c1; have C2 := Lib.hid c2; have C3 := Lib.hid c3; have C4 := Lib.hid c4; have C5 := Lib.hid c5; have C6 := Lib.hid c6
    have hz : s.size ≤ 400 := by omega
    have HZ := Lib.hid hz
    clear c1 c2 c3 c4 c5 c6 hx hy hb hn hz
    go_enter Try.func3, Try.ntmps3
    go_wp2_with fail
    refine (onward (w0 := w) hb0 (C1.out _)).mono ?_; rintro e w1 ⟨rfl, hb1⟩
    go_wp2_with fail
    refine (onward (w0 := w) hb1 (C2.out _)).mono ?_; rintro e w2 ⟨rfl, hb2⟩
    go_wp2_with fail
    refine (C3.out _).mono ?_
    rintro e w3 ⟨L, hL, hl2, hr⟩
    obtain ⟨a3, k3, rfl, hs3, hb3, -⟩ := ret_on hb2 hr
    have HL := Lib.hid hL; have HL2 := Lib.hid hl2; have HS3 := Lib.hid hs3
    obtain ⟨N, hN⟩ : ∃ N, L.length = N := ⟨_, rfl⟩
    rw [hN]
    have HN := Lib.hid hN
    clear hL hl2 hr hs3 hN
    go_wp2_with fail
    refine (C4.out _).mono ?_
    rintro e w4 ⟨L', hL', -, hr⟩
    obtain ⟨a4, k4, rfl, hs4, hb4, hb34⟩ := ret_on hb3 hr
    obtain rfl := HL.out.same hL'
    have ct := texts_same a3 a4 L k3 k4 w4 (HS3.out.on hb34) hs4 (by have := HL2.out; have := HZ.out; omega)
    rw [HN.out] at ct ⊢
    have CT := Lib.hid ct
    clear ct hL' hr hs4 hb34
    go_wp2_with fail
    refine (onward (w0 := w) hb4 CT.out).mono ?_; rintro e w5 ⟨rfl, hb5⟩
    go_wp2_with fail
    refine (onward (w0 := w) hb5 (C5.out _)).mono ?_; rintro e w6 ⟨rfl, hb6⟩
    go_wp2_with fail
    refine (onward (w0 := w) hb6 (C6.out _)).mono ?_; rintro e w7 ⟨rfl, hb7⟩
    go_wp2_with fail
    refine (onward (w0 := w) hb7 (lives15_any _)).mono ?_; rintro e w8 ⟨rfl, hb8⟩
    go_wp2
    go_ret
    exact ⟨by simp, hb8⟩

set_option maxRecDepth 100000 in
set_option maxHeartbeats 1600000 in
theorem chunkJoins_walk (x y : ByteArray) (a : Option Addr) (l : List ByteArray) (c : Nat) (w : World) (wx : x.size ≤ maxLen) (wy : y.size ≤ maxLen) (hr : Strs w (· < w.heap.size) a l) (hf : ∀ s ∈ l, s.size ≤ maxLen) :
    Calls Try.prog 4 #[.string x, .string y, .slice a l.length c] w fun e w' => e = .returned (.bool true) ∧ Below w.heap.size w w' := by
  clear wx wy hf
  have hb0 := Below.refl w.heap.size w
  obtain ⟨n, hn⟩ : ∃ n, l.length = n := ⟨_, rfl⟩
  rw [hn]
  have HN := Lib.hid hn; have HR := Lib.hid hr
  clear hn hr
  by_cases h1 : 400 < x.size
  · go_enter Try.func4, Try.ntmps4
    go_wp2_with fail
    refine (lives15_any _).mono ?_; rintro e w1 ⟨rfl, hb1⟩
    go_wp2
    go_ret
    exact ⟨rfl, hb1⟩
  by_cases h2 : 400 < y.size
  · go_enter Try.func4, Try.ntmps4
    go_wp2_with fail
    refine (lives15_any _).mono ?_; rintro e w1 ⟨rfl, hb1⟩
    go_wp2
    go_ret
    exact ⟨rfl, hb1⟩
  by_cases h3 : 50 < n
  · have i3 : (50 : Int) < (n : Int) := by omega
    go_enter Try.func4, Try.ntmps4
    go_wp2_with fail
    refine (lives15_any _).mono ?_; rintro e w1 ⟨rfl, hb1⟩
    go_wp2
    go_ret
    exact ⟨rfl, hb1⟩
  · have i3 : ¬ (50 : Int) < (n : Int) := by omega
    have c1 := join_any x y (by omega) (by omega)
    have c2 := rjoin_any x y (by omega) (by omega)
    have hJ := join_len x y
    obtain ⟨J, hj⟩ : ∃ J, joinL x y = J := ⟨_, rfl⟩
    rw [hj] at c1 c2 hJ
    have C1 := Lib.hid c1; have C2 := Lib.hid c2
    obtain ⟨m, hm⟩ : ∃ m, J.length = m := ⟨_, rfl⟩
    have HM := Lib.hid hm
    rw [hm] at hJ
    clear c1 c2 hj hm
    go_enter Try.func4, Try.ntmps4
    go_wp2
    go_loop [7] (fun i => ∃ k : Nat, k ≤ n ∧ i = .int .i64 k ∧ ∀ (j : Nat) (h : j < l.length), j < k → l[j].size ≤ 100) (fun i => n - (intOf i).toNat)
    case atStart => exact ⟨0, Nat.zero_le _, rfl, fun j _ h => absurd h (Nat.not_lt_zero j)⟩
    case round =>
      obtain ⟨k, hk, rfl, hs⟩ := hrel
      by_cases hlt : k < n
      · have hkl : k < l.length := by rw [HN.out]; exact hlt
        obtain ⟨ad, rfl, -, q0⟩ := HR.out k hkl
        have HS := Lib.hid (fun (g : (l[k]'hkl).size ≤ 100) => show ∀ (j : Nat) (h : j < l.length), j < k + 1 → l[j].size ≤ 100 from fun j h hj => by
          rcases Nat.lt_or_ge j k with q | q
          · exact hs j h q
          · obtain rfl : j = k := by omega
            exact g)
        obtain ⟨z, hz⟩ : ∃ z, l[k]'hkl = z := ⟨_, rfl⟩
        rw [hz] at q0 HS
        have b0 : (0 : Int) ≤ (k : Int) := by omega
        have b1 : (k : Int) < (n : Int) := by omega
        clear hs hz hkl
        by_cases h5 : 100 < z.size
        · go_wp2_with fail
          refine (lives15_any _).mono ?_; rintro e w1 ⟨rfl, hb1⟩
          go_wp2
          go_ret
          exact ⟨rfl, hb1⟩
        · have HS2 := Lib.hid (HS.out (by omega))
          clear HS
          go_wp2
          go_round
          case rel => exact ⟨k + 1, by omega, by go_num, HS2.out⟩
          case measure => simp [intOf]; omega
      · obtain rfl : k = n := by omega
        have hs2 : ∀ (j : Nat) (h : j < l.length), l[j].size ≤ 1000000 := fun j h => Nat.le_trans (hs j h (by rw [← HN.out]; exact h)) (by decide)
        have HS := Lib.hid hs2
        clear hs hs2
        go_wp2_with fail
        refine (C1.out _).mono ?_
        rintro e w1 hr
        obtain ⟨a1, k1, rfl, hs1, hb1, -⟩ := ret_on hb0 hr
        rw [HM.out]
        have HS1 := Lib.hid hs1
        clear hr hs1
        go_wp2_with fail
        refine (C2.out _).mono ?_
        rintro e w2 hr
        obtain ⟨a2, k2, rfl, hs2, hb2, hb12⟩ := ret_on hb1 hr
        have ct := texts_same a1 a2 J k1 k2 w2 (HS1.out.on hb12) hs2 (by rw [HM.out]; omega)
        rw [HM.out] at ct ⊢
        have CT := Lib.hid ct
        clear ct hr hs2 hb12
        go_wp2_with fail
        refine (onward (w0 := w) hb2 CT.out).mono ?_; rintro e w3 ⟨rfl, hb3⟩
        have ca := tight_any a l c w3 (StrsH.on HR.out hb3) (by rw [HN.out]; omega) HS.out
        rw [HN.out] at ca
        have CA := Lib.hid ca
        clear ca
        go_wp2_with fail
        refine CA.out.mono ?_
        rintro e w4 ⟨p, rfl, hp, hb4⟩
        have hb4 := hb3.trans (hb4.mono hb3.size)
        have cb := rtight_any a l c w4 (StrsH.on HR.out hb4) (by rw [HN.out]; omega) HS.out
        rw [HN.out] at cb
        have CB := Lib.hid cb; have HP := Lib.hid hp
        clear cb hp
        go_wp2_with fail
        refine CB.out.mono ?_
        rintro e w5 ⟨q, rfl, hq, hb5⟩
        have hb5 := hb4.trans (hb5.mono hb4.size)
        obtain rfl : p = q := by
          have h := HP.out.trans hq.symm
          cases p <;> cases q <;> simp at h <;> rfl
        clear hq HP
        go_wp2_with fail
        refine (onward (w0 := w) hb5 (lives15_any _)).mono ?_; rintro e w6 ⟨rfl, hb6⟩
        go_wp2
        go_ret
        exact ⟨by simp, hb6⟩
end Go.Proofs.Ytkicnpomamhlbaa
