/-
  The walk of the law FuseDown.
-/
import Derived.Test.YtllbpjgmmbnogaaLawFuse
import Derived.Deep.DeepCutAuto
import Derived.OpenShut
namespace Go.Proofs.Ytllbpjgmmbnogaa
open Go.RowKit

/-- A slice of bools; its row lies below B. -/
def Bools (w : World) (B : Nat) (a : Option Addr) (l : List Bool) : Prop :=
  ∀ (k : Nat) (h : k < l.length), ∃ ad, a = some ad ∧ ad.block < B ∧ w.cell? (ad.add k) = some (.bool l[k])
theorem Bools.below {w w' : World} {B : Nat} {a : Option Addr} {l : List Bool} (h : Bools w B a l) (hb : Below B w w') : Bools w' B a l := fun k hl => by
  obtain ⟨ad, e, hlt, q0⟩ := h k hl
  have hbl : (ad.add k).block = ad.block := by unfold Addr.add; split <;> rfl
  exact ⟨ad, e, hlt, (hb.cell (by rw [hbl]; exact hlt)).trans q0⟩

/-- Where the power's end stands after i calls of n. -/
def Dwn (f : Fus) (n i : Nat) : Prop := (f.off = true ∧ n < i) ∨ (f.off = false ∧ i ≤ n ∧ f.d = (n : Int) - i)
theorem dwn_step {f : Fus} {n i : Nat} (h : Dwn f n i) (sync : Bool) : ((f.call sync).2 == 14) = decide (n ≤ i) ∧ (f.call sync).1.off = decide (n ≤ i) ∧ Dwn (f.call sync).1 n (i + 1) := by
  rcases h with ⟨ho, hlt⟩ | ⟨ho, hle, hd⟩
  · have e : f.call sync = (f, 14) := by unfold Fus.call; rw [if_pos ho]
    have hd : decide (n ≤ i) = true := decide_eq_true (by omega)
    rw [e, hd]
    exact ⟨rfl, ho, .inl ⟨ho, by omega⟩⟩
  · by_cases h0 : i = n
    · have e : f.call sync = (⟨f.p, f.s, -1, true⟩, 14) := by unfold Fus.call; rw [if_neg (by simp [ho]), if_pos (by omega)]
      have hd : decide (n ≤ i) = true := decide_eq_true (by omega)
      rw [e, hd]
      exact ⟨rfl, rfl, .inl ⟨rfl, by omega⟩⟩
    · have hd' : decide (n ≤ i) = false := decide_eq_false (by omega)
      have hl : low1 f.d = (n : Int) - (i + 1 : Nat) := by unfold low1; omega
      rw [hd']
      cases sync
      · by_cases hp : f.p = 0
        · have e : f.call false = (⟨-1, f.s, low1 f.d, f.off⟩, 13) := by unfold Fus.call; rw [if_neg (by simp [ho]), if_neg (by omega), if_neg (by simp), if_pos hp]
          rw [e]
          exact ⟨rfl, ho, .inr ⟨ho, by omega, hl⟩⟩
        · have e : f.call false = (⟨low1 f.p, f.s, low1 f.d, f.off⟩, 0) := by unfold Fus.call; rw [if_neg (by simp [ho]), if_neg (by omega), if_neg (by simp), if_neg hp]
          rw [e]
          exact ⟨rfl, ho, .inr ⟨ho, by omega, hl⟩⟩
      · by_cases hs : f.s = 0
        · have e : f.call true = (⟨f.p, -1, low1 f.d, f.off⟩, 13) := by unfold Fus.call; rw [if_neg (by simp [ho]), if_neg (by omega), if_pos rfl, if_pos hs]
          rw [e]
          exact ⟨rfl, ho, .inr ⟨ho, by omega, hl⟩⟩
        · have e : f.call true = (⟨f.p, low1 f.s, low1 f.d, f.off⟩, 0) := by unfold Fus.call; rw [if_neg (by simp [ho]), if_neg (by omega), if_pos rfl, if_neg hs]
          rw [e]
          exact ⟨rfl, ho, .inr ⟨ho, by omega, hl⟩⟩

/-- What the loop holds at each round's head. -/
def InvD (w : World) (a : Addr) (n : Nat) (i : Nat) (wr : World) : Prop :=
  ∃ S f, IsFuse wr S a f ∧ f.ok ∧ (∀ b ∈ S, w.heap.size ≤ b) ∧ Below w.heap.size w wr ∧ Dwn f n i
theorem invD_upd {w w1 w2 : World} {a : Addr} {n i : Nat} {S : List Nat} {f' : Fus} {v : Value} {e : Ending} (hS : ∀ b ∈ S, w.heap.size ≤ b) (hb : Below w.heap.size w w1) (hu : UpdF w1 S a f' v e w2) (hok : f'.ok) (hd : Dwn f' n i) :
    InvD w a n i w2 := by
  obtain ⟨_, S', hF, hA, hS'⟩ := hu
  exact ⟨S', f', hF, hok, fun b h => (hS' b h).elim (hS b) (fun h => Nat.le_trans hb.size h), hb.trans (hA.to_below hS hb.size), hd⟩

theorem invD_below {w wx wy : World} {a : Addr} {n i : Nat} (h : InvD w a n i wx) (hb : Below wx.heap.size wx wy) : InvD w a n i wy := by
  obtain ⟨S, f, hF, hok, hS, hw, hd⟩ := h
  exact ⟨S, f, hF.below hb, hok, hS, hw.trans (hb.mono hw.size), hd⟩

set_option maxRecDepth 100000 in
set_option maxHeartbeats 3200000 in
theorem fuseDownN_walk (n m : Nat) (a0 : Option Addr) (l : List Bool) (c : Nat) (w : World) (hr : Bools w w.heap.size a0 l) (hn : n < 256) (hm : m < 256) :
    Calls Try.prog 4 #[.int .u8 n, .int .u8 m, .slice a0 l.length c] w fun e w' => e = .returned (.bool true) ∧ Below w.heap.size w w' := by
  obtain ⟨z, hz⟩ : ∃ z, l.length = z := ⟨_, rfl⟩
  have HZ := Lib.hid hz
  rw [hz]
  have HR := Lib.hid hr
  clear hz hr
  by_cases hl : z ≤ 300
  · go_enter Try.func4, Try.ntmps4
    go_wp2_with fail
    refine (fnew_any _).mono ?_
    rintro e w1 ⟨a, S, rfl, hF, hS, hb1⟩
    go_wp2_with fail
    refine (farm_any hF 3 n (by omega)).mono ?_
    rintro e w2 ⟨rfl, S2, hF2, hA2, hS2⟩
    go_wp2_with fail
    refine (farm_any hF2 2 m (by omega)).mono ?_
    rintro e w3 ⟨rfl, S3, hF3, hA3, hS3⟩
    have e1 : (Fus.new.arm 3 n).1 = ⟨-1, -1, n, false⟩ := by unfold Fus.arm; rw [if_neg (by omega)]; rfl
    have e2 : (Fus.arm ⟨-1, -1, n, false⟩ 2 m).1 = ⟨-1, m, n, false⟩ := by unfold Fus.arm; rw [if_neg (by omega)]; rfl
    rw [e1, e2] at hF3
    have hb2 := hb1.trans (hA2.to_below hS hb1.size)
    have hs2 : ∀ b ∈ S2, w.heap.size ≤ b := fun b h => (hS2 b h).elim (hS b) (fun h => Nat.le_trans hb1.size h)
    have hb3 := hb2.trans (hA3.to_below hs2 hb2.size)
    have inv : InvD w a n 0 w3 := ⟨S3, _, hF3, by unfold Fus.ok; simp; omega, fun b h => (hS3 b h).elim (hs2 b) (fun h => Nat.le_trans hb2.size h), hb3, .inr ⟨rfl, by omega, by simp⟩⟩
    have INV := Lib.hid inv
    clear inv hb3 hs2 hb2 hF3 hA3 hS3 hF2 hA2 hS2 hF hS hb1 e1 e2
    go_wp2
    go_loopw [8] (fun i wr => ∃ k : Nat, k ≤ z ∧ i = .int .i64 k ∧ InvD w a n k wr) (fun i _ => z - (intOf i).toNat)
    case atStart => exact ⟨0, Nat.zero_le _, rfl, INV.out⟩
    case round =>
      obtain ⟨k, hk, rfl, S, f, hF, hok, hS, hb, hd⟩ := hrel
      by_cases hlt : k < z
      · have hkl : k < l.length := by rw [HZ.out]; exact hlt
        obtain ⟨ad, rfl, hab, q0⟩ := (HR.out.below hb) k hkl
        obtain ⟨bv, hbv⟩ : ∃ bv, l[k]'hkl = bv := ⟨_, rfl⟩
        rw [hbv] at q0
        obtain ⟨hd1, hd2, hd3⟩ := dwn_step hd bv
        have hok' := Fus.call_ok f bv hok
        obtain ⟨⟨f', er⟩, hfr⟩ : ∃ r, f.call bv = r := ⟨_, rfl⟩
        rw [hfr] at hd1 hd2 hd3 hok'
        have b0 : (0 : Int) ≤ (k : Int) := by omega
        have b1 : (k : Int) < (z : Int) := by omega
        have HF := Lib.hid hF; have HOK := Lib.hid hok; have HS := Lib.hid hS; have HB := Lib.hid hb; have HD3 := Lib.hid hd3; have HOK2 := Lib.hid hok'
        clear hF hok hS hb hd hd3 hok' hab hbv hkl
        have cc : Calls Try.prog (if bv then 14 else 11) #[.pointer (some a)] wr (UpdF wr S a f' (.int .i64 er)) := by
          cases bv
          · have c := fput_any HF.out HOK.out
            rw [hfr] at c
            exact c
          · have c := fsync_any HF.out HOK.out
            rw [hfr] at c
            exact c
        have CC := Lib.hid cc
        clear cc hfr
        by_cases hnk : n ≤ k
        · have t1 : decide (n ≤ k) = true := decide_eq_true hnk
          have t2 : (n : Int) ≤ (k : Int) := by omega
          have t3 : ¬ (k : Int) < (n : Int) := by omega
          rw [t1] at hd1 hd2
          cases bv
          all_goals
            go_wp2_with fail
            refine CC.out.mono ?_
            rintro e w4 hu
            have hI := invD_upd HS.out HB.out hu HOK2.out HD3.out
            obtain ⟨rfl, S4, hF4, -, -⟩ := hu
            have cu := fup_any hF4
            rw [hd2] at cu
            have HI := Lib.hid hI; have CU := Lib.hid cu
            clear hI hF4 cu
            go_wp2_with fail
            refine CU.out.mono ?_
            rintro e w5 ⟨rfl, hb5⟩
            go_wp2
            exact ⟨⟨k + 1, hlt, rfl, invD_below HI.out hb5⟩, by simp [intOf]; omega⟩
        · have t1 : decide (n ≤ k) = false := decide_eq_false hnk
          have t2 : ¬ (n : Int) ≤ (k : Int) := by omega
          have t3 : (k : Int) < (n : Int) := by omega
          rw [t1] at hd1 hd2
          cases bv
          all_goals
            go_wp2_with fail
            refine CC.out.mono ?_
            rintro e w4 hu
            have hI := invD_upd HS.out HB.out hu HOK2.out HD3.out
            obtain ⟨rfl, S4, hF4, -, -⟩ := hu
            have cu := fup_any hF4
            rw [hd2] at cu
            have HI := Lib.hid hI; have CU := Lib.hid cu
            clear hI hF4 cu
            go_wp2_with fail
            refine CU.out.mono ?_
            rintro e w5 ⟨rfl, hb5⟩
            go_wp2
            exact ⟨⟨k + 1, hlt, rfl, invD_below HI.out hb5⟩, by simp [intOf]; omega⟩
      · obtain rfl : k = z := by omega
        go_wp2_with fail
        refine (freset_any hF).mono ?_
        rintro e w4 ⟨rfl, S4, hF4, hA4, hS4⟩
        go_wp2_with fail
        have hS4' : ∀ b ∈ S4, w.heap.size ≤ b := fun b h => (hS4 b h).elim (hS b) (fun h => Nat.le_trans hb.size h)
        have hb4 := hb.trans (hA4.to_below hS hb.size)
        refine (fup_any hF4).mono ?_
        rintro e w5 ⟨rfl, hb5⟩
        have hF5 := hF4.below hb5
        have hb5' := hb4.trans (hb5.mono hb4.size)
        rw [show (!Fus.new.off) = true from rfl]
        go_wp2_with fail
        have c6 := fput_any hF5 Fus.new_ok
        rw [show Fus.new.call false = (Fus.new, 0) from rfl] at c6
        refine c6.mono ?_
        rintro e w6 ⟨rfl, S6, hF6, hA6, hS6⟩
        have hS6' : ∀ b ∈ S6, w.heap.size ≤ b := fun b h => (hS6 b h).elim (hS4' b) (fun h => Nat.le_trans hb5'.size h)
        have hb6 := hb5'.trans (hA6.to_below hS4' hb5'.size)
        clear c6
        go_wp2_with fail
        have c7 := fsync_any hF6 Fus.new_ok
        rw [show Fus.new.call true = (Fus.new, 0) from rfl] at c7
        refine c7.mono ?_
        rintro e w7 ⟨rfl, S7, hF7, hA7, hS7⟩
        have hb7 := hb6.trans (hA7.to_below hS6' hb6.size)
        clear c7
        go_wp2_with fail
        refine (lives10_any _).mono ?_; rintro e w8 ⟨rfl, hb8⟩
        go_wp2
        go_ret
        exact ⟨rfl, hb7.trans (hb8.mono hb7.size)⟩
  · have hg : 300 < z := by omega
    go_enter Try.func4, Try.ntmps4
    go_wp2_with fail
    refine (fnew_any _).mono ?_
    rintro e w1 ⟨a, S, rfl, hF, hS, hb1⟩
    go_wp2_with fail
    refine (lives10_any _).mono ?_; rintro e w2 ⟨rfl, hb2⟩
    go_wp2
    go_ret
    exact ⟨rfl, hb1.trans (hb2.mono hb1.size)⟩

theorem fuseDown_walk (x0 x1 : Int) (a2 : Option Addr) (l2 : List Bool) (c2 : Nat) (w : World) (h0 : (Lit.int .u8 x0).wf = true) (h1 : (Lit.int .u8 x1).wf = true) (hr : Bools w w.heap.size a2 l2) :
    Calls Try.prog 4 #[.int .u8 x0, .int .u8 x1, .slice a2 l2.length c2] w fun e w' => e = .returned (.bool true) ∧ Below w.heap.size w w' := by
  obtain ⟨b0, b1⟩ := bounds_u8 h0
  obtain ⟨b2, b3⟩ := bounds_u8 h1
  obtain ⟨n, rfl⟩ := Int.eq_ofNat_of_zero_le b0
  obtain ⟨m, rfl⟩ := Int.eq_ofNat_of_zero_le b2
  exact fuseDownN_walk n m a2 l2 c2 w hr (by omega) (by omega)
end Go.Proofs.Ytllbpjgmmbnogaa
