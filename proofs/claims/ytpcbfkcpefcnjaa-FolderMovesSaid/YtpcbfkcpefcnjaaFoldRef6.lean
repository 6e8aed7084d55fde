/-
  Contracts of the document's folder (layer 9), sixth part: all numbers that can be there still.
-/
import Derived.Test.YtpcbfkcpefcnjaaFoldRef5
namespace Go.Proofs.Ytpcbfkcpefcnjaa
open Go.RowKit
set_option linter.unusedVariables false

def idsIn (o : List Int) (l : List Ent) : List Int := l.foldl (fun o e => addI o e.id) o
theorem idsIn_len (o : List Int) (l : List Ent) : (idsIn o l).length ≤ o.length + l.length := by
  unfold idsIn
  induction l generalizing o with
  | nil => simp
  | cons e r ih =>
    have h1 := ih (addI o e.id)
    have h2 := addI_len o e.id
    simp only [List.foldl_cons, List.length_cons]
    omega
theorem idsIn_succ (o : List Int) (l : List Ent) (k : Nat) (h : k < l.length) : idsIn o (l.take (k + 1)) = addI (idsIn o (l.take k)) l[k].id := by
  unfold idsIn
  rw [take_get l k h, List.foldl_append]
  rfl
theorem idsK_succ (L : List (List Ent)) (k : Nat) (h : k < L.length) : idsK (L.take (k + 1)) = idsIn (idsK (L.take k)) L[k] := by
  unfold idsK
  rw [take_get L k h, List.foldl_append]
  rfl
theorem idsK_len (L : List (List Ent)) (M : Nat) (h : ∀ l ∈ L, l.length ≤ M) (k : Nat) (hk : k ≤ L.length) : (idsK (L.take k)).length ≤ k * M := by
  induction k with
  | zero => simp [idsK]
  | succ k ih =>
    have h1 := ih (by omega)
    rw [idsK_succ L k (by omega)]
    have h2 := idsIn_len (idsK (L.take k)) (L[k]'(by omega))
    have h3 := h (L[k]'(by omega)) (List.getElem_mem _)
    rw [Nat.add_mul]
    omega
theorem Ints.on {w w' : World} {a : Option Addr} {l : List Int} (h : Ints w w.heap.size a l) (hb : Below w.heap.size w w') : Ints w' w'.heap.size a l := (h.below hb).more hb.size
/-- A row of numbers in a slot. -/
def IntsV (wr : World) (o : List Int) (v : Value) : Prop := ∃ a c, v = .slice a o.length c ∧ Ints wr wr.heap.size a o

set_option maxRecDepth 100000 in
set_option maxHeartbeats 1600000 in
theorem rids9_any (a : Option Addr) (L : List (List Ent)) (c : Nat) (P : Nat → Prop) (w : World) (hP : ∀ b, P b → b < w.heap.size) (h : LLs w P a L) (hn : L.length ≤ 1000) (hM : ∀ l ∈ L, l.length ≤ 900) :
    Calls Try.prog 39 #[fdV a L.length c] w (RetInts w (idsK L)) := by
  obtain ⟨n, hnn⟩ : ∃ n, L.length = n := ⟨_, rfl⟩
  rw [hnn] at hn ⊢
  have HN := Lib.hid hnn; have H := Lib.hid h; have HM := Lib.hid hM
  clear hnn h hM
  go_enter Try.func39, Try.ntmps39
  go_wp2
  go_loopw [3, 4] (fun v i wr => ∃ k : Nat, k ≤ n ∧ i = .int .i64 k ∧ IntsV wr (idsK (L.take k)) v ∧ Below (w.heap.size + 1) (w.alloc (.cells #[.slice a n c] 28)) wr) (fun _ i _ => n - (intOf i).toNat)
  case atStart => exact ⟨0, Nat.zero_le _, rfl, ⟨none, 0, rfl, fun k hk => absurd hk (by simp [idsK])⟩, Below.refl _ _⟩
  case round =>
    obtain ⟨k, hk, rfl, hv, hbel⟩ := hrel
    have bx : wr.cell? ⟨w.heap.size, 0, none⟩ = some (.slice a n c) := (hbel.cell (p := ⟨w.heap.size, 0, none⟩) (by simp)).trans (by simp [World.cell?_alloc_new])
    by_cases hlt : k < n
    · have hkl : k < L.length := by rw [HN.out]; exact hlt
      have hBw : Below w.heap.size w wr := ((Below.refl w.heap.size w).alloc (Nat.le_refl _) _).trans (hbel.mono (by omega))
      obtain ⟨ad, rfl, hab, ai, ci, q0, q1⟩ := (H.out.below hP hBw) k hkl
      have hab := hP _ hab
      have hst := idsK_succ L k hkl
      have hlen := idsK_len L 900 HM.out k (by rw [HN.out]; exact hk)
      have hlk := HM.out (L[k]'hkl) (List.getElem_mem _)
      obtain ⟨l, hl⟩ : ∃ l, L[k]'hkl = l := ⟨_, rfl⟩
      rw [hl] at q0 q1 hst hlk
      obtain ⟨o, ho⟩ : ∃ o, idsK (L.take k) = o := ⟨_, rfl⟩
      rw [ho] at hst hlen hv
      obtain ⟨m, hm⟩ : ∃ m, l.length = m := ⟨_, rfl⟩
      rw [hm] at q0 hlk
      have hol : o.length ≤ 900000 := by omega
      have HST := Lib.hid hst; have HMM := Lib.hid hm; have Q1 := Lib.hid q1; have HBW := Lib.hid hBw; have HBEL := Lib.hid hbel; have HV := Lib.hid hv; have Q0 := Lib.hid q0; have BX := Lib.hid bx
      clear hl ho hm q1 hst hlen hBw hbel hv
      have b0 : (0 : Int) ≤ (k : Int) := by omega
      have b1 : (k : Int) < (n : Int) := by omega
      obtain ⟨wo, rfl⟩ : ∃ wo : World, wo = wr := ⟨_, rfl⟩
      go_wp2
      go_loopw [3, 5] (fun v i wx => ∃ j : Nat, j ≤ m ∧ i = .int .i64 j ∧ IntsV wx (idsIn o (l.take j)) v ∧ Below (w.heap.size + 1) wo wx) (fun _ i _ => m - (intOf i).toNat)
      case atStart => exact ⟨0, Nat.zero_le _, rfl, HV.out, Below.refl _ _⟩
      case round =>
        obtain ⟨j, hj, rfl, hv, hbo⟩ := hrel
        have bx2 : wr.cell? ⟨w.heap.size, 0, none⟩ = some (.slice (some ad) n c) := (hbo.cell (p := ⟨w.heap.size, 0, none⟩) (by simp)).trans BX.out
        have q02 : wr.cell? (ad.add k) = some (.slice ai m ci) := (hbo.cell (by rw [add_block]; omega)).trans Q0.out
        have hil := idsIn_len o (l.take j)
        have hjl : (l.take j).length ≤ j := List.length_take_le _ _
        by_cases hjm : j < m
        · have hjl2 : j < l.length := by rw [HMM.out]; exact hjm
          obtain ⟨ae, rfl, hae, r0, r1⟩ := (Q1.out.below (fun b hb => Nat.lt_succ_of_lt (hP b hb)) hbo) j hjl2
          have hst := idsIn_succ o l j hjl2
          obtain ⟨e, he⟩ : ∃ e, l[j]'hjl2 = e := ⟨_, rfl⟩
          rw [he] at r0 r1 hst
          obtain ⟨nm, id⟩ := e
          simp only at r0 r1 hst
          obtain ⟨p, hp⟩ : ∃ p, idsIn o (l.take j) = p := ⟨_, rfl⟩
          rw [hp] at hst hv hil
          obtain ⟨av, cv, rfl, hi⟩ := hv
          have ca := radd9_any av p cv id wr.heap.size wr hi (Nat.le_refl _) (by omega)
          have CA := Lib.hid ca; have HST2 := Lib.hid hst
          clear he hp hst hi ca
          have d0 : (0 : Int) ≤ (j : Int) := by omega
          have d1 : (j : Int) < (m : Int) := by omega
          go_wp2_with fail
          refine CA.out.mono ?_
          rintro e w1 ⟨av2, cv2, rfl, hi2, hb2⟩
          have R : IntsV w1 (idsIn o (l.take (j + 1))) (.slice av2 (addI p id).length cv2) := ⟨av2, cv2, by rw [HST2.out], by rw [HST2.out]; exact hi2⟩
          have hb3 := hbo.trans (hb2.mono (Nat.le_trans HBEL.out.size hbo.size |> fun h => by simp at h; omega))
          have RR := Lib.hid R; have HB3 := Lib.hid hb3
          clear R hi2 hb2 hb3
          go_wp2
          go_roundw
          case rel => exact ⟨j + 1, by omega, by go_num, RR.out, HB3.out⟩
          case measure => simp [intOf]; omega
        · obtain rfl : j = m := by omega
          have e1 : idsIn o (l.take j) = idsK (L.take (k + 1)) := by rw [HST.out, List.take_of_length_le (by rw [HMM.out]; exact Nat.le_refl _)]
          rw [e1] at hv
          have HV2 := Lib.hid hv
          have hb3 := HBEL.out.trans hbo
          have HB3 := Lib.hid hb3
          clear hv hb3 e1 hil
          go_wp2
          refine ⟨⟨k + 1, by omega, by go_num, HV2.out, HB3.out⟩, by simp [intOf]; omega⟩
    · obtain rfl : k = n := by omega
      obtain ⟨av, cv, rfl, hi⟩ := hv
      rw [List.take_of_length_le (by rw [HN.out]; exact Nat.le_refl _)] at hi ⊢
      have HI := Lib.hid hi
      have HB := Lib.hid hbel
      clear hi hbel
      go_wp2
      go_ret
      exact ⟨av, cv, rfl, HI.out, ((Below.refl w.heap.size w).alloc (Nat.le_refl _) _).trans (HB.out.mono (by omega))⟩
end Go.Proofs.Ytpcbfkcpefcnjaa
