/-
  Contract of the document's Mix (layer 6).
-/
import Derived.Test.YtcoacbknhlnjmaaBlendRef
namespace Go.Proofs.Ytcoacbknhlnjmaa
open Go.RowKit

def RetMix (w : World) (s : ByteArray) (u : Nat) (e : Ending) (w' : World) : Prop := e = .returned (.tuple #[.string s, .int .i64 u]) ∧ Below w.heap.size w w'
def mixOf (o n c : ByteArray) : ByteArray := mixS o n c (mixM o.data.toList n.data.toList)
def mixUs (o n c : ByteArray) : Nat := mixU o n c (mixM o.data.toList n.data.toList)

set_option maxRecDepth 100000 in
set_option maxHeartbeats 3200000 in
theorem rmix_any (o n c : ByteArray) (ho : o.size ≤ 4294967296) (hn : n.size ≤ 4294967296) (w : World) :
    Calls Try.prog 37 #[.string o, .string n, .string c] w (RetMix w (mixOf o n c) (mixUs o n c)) := by
  have hla : o.data.toList.length = o.size := by simp
  have hlb : n.data.toList.length = n.size := by simp
  unfold mixOf mixUs
  obtain ⟨m, hm⟩ : ∃ m, mixM o.data.toList n.data.toList = m := ⟨_, rfl⟩
  rw [hm]
  unfold mixM at hm
  rw [hla, hlb] at hm
  have c1 := rcount_any o.size (by omega) (by omega)
  have c2 := rcount_any n.size (by omega) (by omega)
  rw [cntI_nat] at c1 c2
  have hm1 : cntN o.size ≤ m := by omega
  have hm2 : cntN n.size ≤ m := by omega
  have hm3 : m = cntN o.size ∨ m = cntN n.size := by omega
  have hm4 : m ≤ 134217728 := by unfold cntN at hm; omega
  obtain ⟨cx, hx⟩ : ∃ x, cntN o.size = x := ⟨_, rfl⟩
  obtain ⟨cy, hy⟩ : ∃ x, cntN n.size = x := ⟨_, rfl⟩
  rw [hx] at c1 hm1 hm3
  rw [hy] at c2 hm2 hm3
  have C1 := Lib.hid c1; have C2 := Lib.hid c2; have HM := Lib.hid hm3
  clear c1 c2 hx hy hm hla hlb hm3
  go_enter Try.func37, Try.ntmps37
  go_wp2
  go_loopw [8, 9, 10] (fun v s i wr => ∃ k : Nat, k ≤ m ∧ i = .int .i64 k ∧ v = .int .i64 (mixU o n c k : Nat) ∧ s = .string (mixS o n c k) ∧ Below w.heap.size w wr) (fun _ _ i _ => m - (intOf i).toNat)
  case atStart => exact ⟨0, Nat.zero_le _, rfl, rfl, rfl, Below.refl _ _⟩
  case round =>
    obtain ⟨k, hk, rfl, rfl, rfl, hbel⟩ := hrel
    have HB := Lib.hid hbel; clear hbel
    have hsz := mixS_size o n c k
    have hul := mixU_le o n c k
    have s1 := rslice_any o ho k
    have s2 := rslice_any n hn k
    have ch := rchoice_any c (mixU o n c k)
    have z1 := slS_size o k
    have z2 := slS_size n k
    have q0 := pk_0 o n c k
    have q1 := pk_1 o n c k
    have q2 := pk_2 o n c k
    have q3 := pk_3 o n c k
    have u0 := mixU_same o n c k
    have u1 := mixU_more o n c k
    have st := fun x => mixS_step o n c x k
    obtain ⟨p, hp⟩ : ∃ p, slS o k = p := ⟨_, rfl⟩
    obtain ⟨q, hq⟩ : ∃ p, slS n k = p := ⟨_, rfl⟩
    obtain ⟨u, hu⟩ : ∃ u, mixU o n c k = u := ⟨_, rfl⟩
    obtain ⟨y, hy⟩ : ∃ y, mixS o n c k = y := ⟨_, rfl⟩
    obtain ⟨d, hd⟩ : ∃ d, chN c.data.toList u = d := ⟨_, rfl⟩
    rw [hp] at s1 z1
    rw [hq] at s2 z2
    rw [hp, hq] at q0 q1 q2 q3 u0 u1
    rw [hu] at q0 q1 q2 q3 u0 u1 ch hul st ⊢
    rw [hd] at q1 q2 q3 ch
    rw [hy] at hsz st ⊢
    have hp32 : p.size ≤ 32 := by omega
    have hq32 : q.size ≤ 32 := by omega
    have S1 := Lib.hid s1; have S2 := Lib.hid s2; have CH := Lib.hid ch; have HUU := Lib.hid hu; have HYY := Lib.hid hy
    clear s1 s2 ch z1 z2 hp hq hu hy hd
    by_cases hlt : k < m
    · have mk : ∀ W : World, (Instr.makeSlice 63 (.int .i64 (32 * (k : Int) - (y.size : Int))) (.int .i64 (32 * (k : Int) - (y.size : Int)))).run Try.prog W = .ok (.slice (some ⟨W.heap.size, 0, none⟩) (32 * k - y.size) (32 * k - y.size)) (W.alloc (.cells (zs (32 * k - y.size)) 5)) :=
        fun W => make_zeros _ _ (by omega) (by omega) W
      have mq : ∀ W : World, (Instr.makeSlice 63 (.int .i64 (q.size : Int)) (.int .i64 (q.size : Int))).run Try.prog W = .ok (.slice (some ⟨W.heap.size, 0, none⟩) q.size q.size) (W.alloc (.cells (zs q.size) 5)) :=
        fun W => make_zeros _ _ rfl (by omega) W
      have cz := fun m W => conv_zeros m W
      have hz1 : (zeroS (32 * k - y.size)).size = 32 * k - y.size := zeroS_size _
      have hz2 : (zeroS q.size).size = q.size := zeroS_size _
      obtain ⟨z, hz⟩ : ∃ z, zeroS (32 * k - y.size) = z := ⟨_, rfl⟩
      obtain ⟨zq, hzq⟩ : ∃ z, zeroS q.size = z := ⟨_, rfl⟩
      have cz1 := fun W => cz (32 * k - y.size) W
      have cz2 := fun W => cz q.size W
      rw [hz] at cz1 hz1
      rw [hzq] at cz2 hz2 q2
      have hz3 : z.size ≤ 4294967296 := by omega
      have hz4 : zq.size ≤ 32 := by omega
      clear cz
      rcases Nat.lt_or_ge cx cy with hxy | hxy
      · have htest : k < cy := by have := HM.out; omega
        clear hm1 hm2
        by_cases hpq : p = q
        · have hpk := q0 hpq
          have hu2 := u0 hpq
          clear q0 q1 q2 q3 u0 u1
          subst hpq
          have nz := isEmpty_size p
          by_cases h0 : p.size = 0
          · have e1 := (st _ hpk).1 h0
            have ne : p.toList.isEmpty = true := by rw [nz]; simp [h0]
            have HE := Lib.hid e1; have HU := Lib.hid hu2; clear e1 hu2 hpk st nz h0 hz
            go_wp2_with (first | (go_at_call 32; (with_reducible refine (C1.out _).mono ?_); rintro e w' ⟨rfl, rfl⟩) | (go_at_call 32; (with_reducible refine (C2.out _).mono ?_); rintro e w' ⟨rfl, rfl⟩) | (go_at_call 39; (with_reducible refine (S1.out _).mono ?_); rintro e w' ⟨rfl, rfl⟩) | (go_at_call 39; (with_reducible refine (S2.out _).mono ?_); rintro e w' ⟨rfl, rfl⟩) | (go_at_call 42; (with_reducible refine (CH.out _).mono ?_); rintro e w' ⟨rfl, rfl⟩))
            go_roundw
            case rel => exact ⟨k + 1, by omega, by go_num, by rw [HU.out], by rw [HE.out], HB.out⟩
            case measure => simp [intOf]; omega
          · have e1 := (st _ hpk).2 h0
            rw [hz] at e1
            have ne : p.toList.isEmpty = false := by rw [nz]; simp [h0]
            have HE := Lib.hid e1; have HU := Lib.hid hu2; clear e1 hu2 hpk st nz h0 hz
            go_wp2_with (first | (go_at_call 32; (with_reducible refine (C1.out _).mono ?_); rintro e w' ⟨rfl, rfl⟩) | (go_at_call 32; (with_reducible refine (C2.out _).mono ?_); rintro e w' ⟨rfl, rfl⟩) | (go_at_call 39; (with_reducible refine (S1.out _).mono ?_); rintro e w' ⟨rfl, rfl⟩) | (go_at_call 39; (with_reducible refine (S2.out _).mono ?_); rintro e w' ⟨rfl, rfl⟩) | (go_at_call 42; (with_reducible refine (CH.out _).mono ?_); rintro e w' ⟨rfl, rfl⟩))
            go_roundw
            case rel => exact ⟨k + 1, by omega, by go_num, by rw [HU.out], by rw [HE.out], HB.out.alloc HB.out.size _⟩
            case measure => simp [intOf]; omega
        · have hne := str_ne hpq
          have hne2 : (p.toList != q.toList) = true := by rw [bne, hne]; rfl
          have hu2 := u1 hpq
          by_cases d1 : d = 1
          · have hpk := q1 hpq d1
            clear q0 q1 q2 q3 u0 u1 hpq
            subst d1
            have nz := isEmpty_size q
            by_cases h0 : q.size = 0
            · have e1 := (st _ hpk).1 h0
              have ne : q.toList.isEmpty = true := by rw [nz]; simp [h0]
              have HE := Lib.hid e1; have HU := Lib.hid hu2; clear e1 hu2 hpk st nz h0 hz
              go_wp2_with (first | (go_at_call 32; (with_reducible refine (C1.out _).mono ?_); rintro e w' ⟨rfl, rfl⟩) | (go_at_call 32; (with_reducible refine (C2.out _).mono ?_); rintro e w' ⟨rfl, rfl⟩) | (go_at_call 39; (with_reducible refine (S1.out _).mono ?_); rintro e w' ⟨rfl, rfl⟩) | (go_at_call 39; (with_reducible refine (S2.out _).mono ?_); rintro e w' ⟨rfl, rfl⟩) | (go_at_call 42; (with_reducible refine (CH.out _).mono ?_); rintro e w' ⟨rfl, rfl⟩))
              go_roundw
              case rel => exact ⟨k + 1, by omega, by go_num, by rw [HU.out]; go_num, by rw [HE.out], HB.out⟩
              case measure => simp [intOf]; omega
            · have e1 := (st _ hpk).2 h0
              rw [hz] at e1
              have ne : q.toList.isEmpty = false := by rw [nz]; simp [h0]
              have HE := Lib.hid e1; have HU := Lib.hid hu2; clear e1 hu2 hpk st nz h0 hz
              go_wp2_with (first | (go_at_call 32; (with_reducible refine (C1.out _).mono ?_); rintro e w' ⟨rfl, rfl⟩) | (go_at_call 32; (with_reducible refine (C2.out _).mono ?_); rintro e w' ⟨rfl, rfl⟩) | (go_at_call 39; (with_reducible refine (S1.out _).mono ?_); rintro e w' ⟨rfl, rfl⟩) | (go_at_call 39; (with_reducible refine (S2.out _).mono ?_); rintro e w' ⟨rfl, rfl⟩) | (go_at_call 42; (with_reducible refine (CH.out _).mono ?_); rintro e w' ⟨rfl, rfl⟩))
              go_roundw
              case rel => exact ⟨k + 1, by omega, by go_num, by rw [HU.out]; go_num, by rw [HE.out], HB.out.alloc HB.out.size _⟩
              case measure => simp [intOf]; omega
          by_cases d2 : d = 2
          · have hpk := q2 hpq d2
            clear q0 q1 q2 q3 u0 u1 hpq d1
            subst d2
            have cz3 := cz1 (wr.alloc (.cells (zs q.size) 5))
            rw [World.size_alloc] at cz3
            have nz := isEmpty_size zq
            by_cases h0 : zq.size = 0
            · have e1 := (st _ hpk).1 h0
              have ne : zq.toList.isEmpty = true := by rw [nz]; simp [h0]
              have HE := Lib.hid e1; have HU := Lib.hid hu2; clear e1 hu2 hpk st nz h0 hz
              go_wp2_with (first | (go_at_call 32; (with_reducible refine (C1.out _).mono ?_); rintro e w' ⟨rfl, rfl⟩) | (go_at_call 32; (with_reducible refine (C2.out _).mono ?_); rintro e w' ⟨rfl, rfl⟩) | (go_at_call 39; (with_reducible refine (S1.out _).mono ?_); rintro e w' ⟨rfl, rfl⟩) | (go_at_call 39; (with_reducible refine (S2.out _).mono ?_); rintro e w' ⟨rfl, rfl⟩) | (go_at_call 42; (with_reducible refine (CH.out _).mono ?_); rintro e w' ⟨rfl, rfl⟩))
              go_roundw
              case rel => exact ⟨k + 1, by omega, by go_num, by rw [HU.out]; go_num, by rw [HE.out], HB.out.alloc HB.out.size _⟩
              case measure => simp [intOf]; omega
            · have e1 := (st _ hpk).2 h0
              rw [hz] at e1
              have ne : zq.toList.isEmpty = false := by rw [nz]; simp [h0]
              have HE := Lib.hid e1; have HU := Lib.hid hu2; clear e1 hu2 hpk st nz h0 hz
              go_wp2_with (first | (go_at_call 32; (with_reducible refine (C1.out _).mono ?_); rintro e w' ⟨rfl, rfl⟩) | (go_at_call 32; (with_reducible refine (C2.out _).mono ?_); rintro e w' ⟨rfl, rfl⟩) | (go_at_call 39; (with_reducible refine (S1.out _).mono ?_); rintro e w' ⟨rfl, rfl⟩) | (go_at_call 39; (with_reducible refine (S2.out _).mono ?_); rintro e w' ⟨rfl, rfl⟩) | (go_at_call 42; (with_reducible refine (CH.out _).mono ?_); rintro e w' ⟨rfl, rfl⟩))
              go_roundw
              case rel => exact ⟨k + 1, by omega, by go_num, by rw [HU.out]; go_num, by rw [HE.out], (HB.out.alloc HB.out.size _).alloc (by have := HB.out.size; simp; omega) _⟩
              case measure => simp [intOf]; omega
          · have hpk := q3 hpq d1 d2
            have t1 : ((d : Int) == 1) = false := beq_eq_false_iff_ne.2 (by omega)
            have t2 : ((d : Int) == 2) = false := beq_eq_false_iff_ne.2 (by omega)
            clear q0 q1 q2 q3 u0 u1 hpq d1 d2
            have nz := isEmpty_size p
            by_cases h0 : p.size = 0
            · have e1 := (st _ hpk).1 h0
              have ne : p.toList.isEmpty = true := by rw [nz]; simp [h0]
              have HE := Lib.hid e1; have HU := Lib.hid hu2; clear e1 hu2 hpk st nz h0 hz
              go_wp2_with (first | (go_at_call 32; (with_reducible refine (C1.out _).mono ?_); rintro e w' ⟨rfl, rfl⟩) | (go_at_call 32; (with_reducible refine (C2.out _).mono ?_); rintro e w' ⟨rfl, rfl⟩) | (go_at_call 39; (with_reducible refine (S1.out _).mono ?_); rintro e w' ⟨rfl, rfl⟩) | (go_at_call 39; (with_reducible refine (S2.out _).mono ?_); rintro e w' ⟨rfl, rfl⟩) | (go_at_call 42; (with_reducible refine (CH.out _).mono ?_); rintro e w' ⟨rfl, rfl⟩))
              go_roundw
              case rel => exact ⟨k + 1, by omega, by go_num, by rw [HU.out]; go_num, by rw [HE.out], HB.out⟩
              case measure => simp [intOf]; omega
            · have e1 := (st _ hpk).2 h0
              rw [hz] at e1
              have ne : p.toList.isEmpty = false := by rw [nz]; simp [h0]
              have HE := Lib.hid e1; have HU := Lib.hid hu2; clear e1 hu2 hpk st nz h0 hz
              go_wp2_with (first | (go_at_call 32; (with_reducible refine (C1.out _).mono ?_); rintro e w' ⟨rfl, rfl⟩) | (go_at_call 32; (with_reducible refine (C2.out _).mono ?_); rintro e w' ⟨rfl, rfl⟩) | (go_at_call 39; (with_reducible refine (S1.out _).mono ?_); rintro e w' ⟨rfl, rfl⟩) | (go_at_call 39; (with_reducible refine (S2.out _).mono ?_); rintro e w' ⟨rfl, rfl⟩) | (go_at_call 42; (with_reducible refine (CH.out _).mono ?_); rintro e w' ⟨rfl, rfl⟩))
              go_roundw
              case rel => exact ⟨k + 1, by omega, by go_num, by rw [HU.out]; go_num, by rw [HE.out], HB.out.alloc HB.out.size _⟩
              case measure => simp [intOf]; omega
      · have htest : k < cx := by have := HM.out; omega
        clear hm1 hm2
        by_cases hpq : p = q
        · have hpk := q0 hpq
          have hu2 := u0 hpq
          clear q0 q1 q2 q3 u0 u1
          subst hpq
          have nz := isEmpty_size p
          by_cases h0 : p.size = 0
          · have e1 := (st _ hpk).1 h0
            have ne : p.toList.isEmpty = true := by rw [nz]; simp [h0]
            have HE := Lib.hid e1; have HU := Lib.hid hu2; clear e1 hu2 hpk st nz h0 hz
            go_wp2_with (first | (go_at_call 32; (with_reducible refine (C1.out _).mono ?_); rintro e w' ⟨rfl, rfl⟩) | (go_at_call 32; (with_reducible refine (C2.out _).mono ?_); rintro e w' ⟨rfl, rfl⟩) | (go_at_call 39; (with_reducible refine (S1.out _).mono ?_); rintro e w' ⟨rfl, rfl⟩) | (go_at_call 39; (with_reducible refine (S2.out _).mono ?_); rintro e w' ⟨rfl, rfl⟩) | (go_at_call 42; (with_reducible refine (CH.out _).mono ?_); rintro e w' ⟨rfl, rfl⟩))
            go_roundw
            case rel => exact ⟨k + 1, by omega, by go_num, by rw [HU.out], by rw [HE.out], HB.out⟩
            case measure => simp [intOf]; omega
          · have e1 := (st _ hpk).2 h0
            rw [hz] at e1
            have ne : p.toList.isEmpty = false := by rw [nz]; simp [h0]
            have HE := Lib.hid e1; have HU := Lib.hid hu2; clear e1 hu2 hpk st nz h0 hz
            go_wp2_with (first | (go_at_call 32; (with_reducible refine (C1.out _).mono ?_); rintro e w' ⟨rfl, rfl⟩) | (go_at_call 32; (with_reducible refine (C2.out _).mono ?_); rintro e w' ⟨rfl, rfl⟩) | (go_at_call 39; (with_reducible refine (S1.out _).mono ?_); rintro e w' ⟨rfl, rfl⟩) | (go_at_call 39; (with_reducible refine (S2.out _).mono ?_); rintro e w' ⟨rfl, rfl⟩) | (go_at_call 42; (with_reducible refine (CH.out _).mono ?_); rintro e w' ⟨rfl, rfl⟩))
            go_roundw
            case rel => exact ⟨k + 1, by omega, by go_num, by rw [HU.out], by rw [HE.out], HB.out.alloc HB.out.size _⟩
            case measure => simp [intOf]; omega
        · have hne := str_ne hpq
          have hne2 : (p.toList != q.toList) = true := by rw [bne, hne]; rfl
          have hu2 := u1 hpq
          by_cases d1 : d = 1
          · have hpk := q1 hpq d1
            clear q0 q1 q2 q3 u0 u1 hpq
            subst d1
            have nz := isEmpty_size q
            by_cases h0 : q.size = 0
            · have e1 := (st _ hpk).1 h0
              have ne : q.toList.isEmpty = true := by rw [nz]; simp [h0]
              have HE := Lib.hid e1; have HU := Lib.hid hu2; clear e1 hu2 hpk st nz h0 hz
              go_wp2_with (first | (go_at_call 32; (with_reducible refine (C1.out _).mono ?_); rintro e w' ⟨rfl, rfl⟩) | (go_at_call 32; (with_reducible refine (C2.out _).mono ?_); rintro e w' ⟨rfl, rfl⟩) | (go_at_call 39; (with_reducible refine (S1.out _).mono ?_); rintro e w' ⟨rfl, rfl⟩) | (go_at_call 39; (with_reducible refine (S2.out _).mono ?_); rintro e w' ⟨rfl, rfl⟩) | (go_at_call 42; (with_reducible refine (CH.out _).mono ?_); rintro e w' ⟨rfl, rfl⟩))
              go_roundw
              case rel => exact ⟨k + 1, by omega, by go_num, by rw [HU.out]; go_num, by rw [HE.out], HB.out⟩
              case measure => simp [intOf]; omega
            · have e1 := (st _ hpk).2 h0
              rw [hz] at e1
              have ne : q.toList.isEmpty = false := by rw [nz]; simp [h0]
              have HE := Lib.hid e1; have HU := Lib.hid hu2; clear e1 hu2 hpk st nz h0 hz
              go_wp2_with (first | (go_at_call 32; (with_reducible refine (C1.out _).mono ?_); rintro e w' ⟨rfl, rfl⟩) | (go_at_call 32; (with_reducible refine (C2.out _).mono ?_); rintro e w' ⟨rfl, rfl⟩) | (go_at_call 39; (with_reducible refine (S1.out _).mono ?_); rintro e w' ⟨rfl, rfl⟩) | (go_at_call 39; (with_reducible refine (S2.out _).mono ?_); rintro e w' ⟨rfl, rfl⟩) | (go_at_call 42; (with_reducible refine (CH.out _).mono ?_); rintro e w' ⟨rfl, rfl⟩))
              go_roundw
              case rel => exact ⟨k + 1, by omega, by go_num, by rw [HU.out]; go_num, by rw [HE.out], HB.out.alloc HB.out.size _⟩
              case measure => simp [intOf]; omega
          by_cases d2 : d = 2
          · have hpk := q2 hpq d2
            clear q0 q1 q2 q3 u0 u1 hpq d1
            subst d2
            have cz3 := cz1 (wr.alloc (.cells (zs q.size) 5))
            rw [World.size_alloc] at cz3
            have nz := isEmpty_size zq
            by_cases h0 : zq.size = 0
            · have e1 := (st _ hpk).1 h0
              have ne : zq.toList.isEmpty = true := by rw [nz]; simp [h0]
              have HE := Lib.hid e1; have HU := Lib.hid hu2; clear e1 hu2 hpk st nz h0 hz
              go_wp2_with (first | (go_at_call 32; (with_reducible refine (C1.out _).mono ?_); rintro e w' ⟨rfl, rfl⟩) | (go_at_call 32; (with_reducible refine (C2.out _).mono ?_); rintro e w' ⟨rfl, rfl⟩) | (go_at_call 39; (with_reducible refine (S1.out _).mono ?_); rintro e w' ⟨rfl, rfl⟩) | (go_at_call 39; (with_reducible refine (S2.out _).mono ?_); rintro e w' ⟨rfl, rfl⟩) | (go_at_call 42; (with_reducible refine (CH.out _).mono ?_); rintro e w' ⟨rfl, rfl⟩))
              go_roundw
              case rel => exact ⟨k + 1, by omega, by go_num, by rw [HU.out]; go_num, by rw [HE.out], HB.out.alloc HB.out.size _⟩
              case measure => simp [intOf]; omega
            · have e1 := (st _ hpk).2 h0
              rw [hz] at e1
              have ne : zq.toList.isEmpty = false := by rw [nz]; simp [h0]
              have HE := Lib.hid e1; have HU := Lib.hid hu2; clear e1 hu2 hpk st nz h0 hz
              go_wp2_with (first | (go_at_call 32; (with_reducible refine (C1.out _).mono ?_); rintro e w' ⟨rfl, rfl⟩) | (go_at_call 32; (with_reducible refine (C2.out _).mono ?_); rintro e w' ⟨rfl, rfl⟩) | (go_at_call 39; (with_reducible refine (S1.out _).mono ?_); rintro e w' ⟨rfl, rfl⟩) | (go_at_call 39; (with_reducible refine (S2.out _).mono ?_); rintro e w' ⟨rfl, rfl⟩) | (go_at_call 42; (with_reducible refine (CH.out _).mono ?_); rintro e w' ⟨rfl, rfl⟩))
              go_roundw
              case rel => exact ⟨k + 1, by omega, by go_num, by rw [HU.out]; go_num, by rw [HE.out], (HB.out.alloc HB.out.size _).alloc (by have := HB.out.size; simp; omega) _⟩
              case measure => simp [intOf]; omega
          · have hpk := q3 hpq d1 d2
            have t1 : ((d : Int) == 1) = false := beq_eq_false_iff_ne.2 (by omega)
            have t2 : ((d : Int) == 2) = false := beq_eq_false_iff_ne.2 (by omega)
            clear q0 q1 q2 q3 u0 u1 hpq d1 d2
            have nz := isEmpty_size p
            by_cases h0 : p.size = 0
            · have e1 := (st _ hpk).1 h0
              have ne : p.toList.isEmpty = true := by rw [nz]; simp [h0]
              have HE := Lib.hid e1; have HU := Lib.hid hu2; clear e1 hu2 hpk st nz h0 hz
              go_wp2_with (first | (go_at_call 32; (with_reducible refine (C1.out _).mono ?_); rintro e w' ⟨rfl, rfl⟩) | (go_at_call 32; (with_reducible refine (C2.out _).mono ?_); rintro e w' ⟨rfl, rfl⟩) | (go_at_call 39; (with_reducible refine (S1.out _).mono ?_); rintro e w' ⟨rfl, rfl⟩) | (go_at_call 39; (with_reducible refine (S2.out _).mono ?_); rintro e w' ⟨rfl, rfl⟩) | (go_at_call 42; (with_reducible refine (CH.out _).mono ?_); rintro e w' ⟨rfl, rfl⟩))
              go_roundw
              case rel => exact ⟨k + 1, by omega, by go_num, by rw [HU.out]; go_num, by rw [HE.out], HB.out⟩
              case measure => simp [intOf]; omega
            · have e1 := (st _ hpk).2 h0
              rw [hz] at e1
              have ne : p.toList.isEmpty = false := by rw [nz]; simp [h0]
              have HE := Lib.hid e1; have HU := Lib.hid hu2; clear e1 hu2 hpk st nz h0 hz
              go_wp2_with (first | (go_at_call 32; (with_reducible refine (C1.out _).mono ?_); rintro e w' ⟨rfl, rfl⟩) | (go_at_call 32; (with_reducible refine (C2.out _).mono ?_); rintro e w' ⟨rfl, rfl⟩) | (go_at_call 39; (with_reducible refine (S1.out _).mono ?_); rintro e w' ⟨rfl, rfl⟩) | (go_at_call 39; (with_reducible refine (S2.out _).mono ?_); rintro e w' ⟨rfl, rfl⟩) | (go_at_call 42; (with_reducible refine (CH.out _).mono ?_); rintro e w' ⟨rfl, rfl⟩))
              go_roundw
              case rel => exact ⟨k + 1, by omega, by go_num, by rw [HU.out]; go_num, by rw [HE.out], HB.out.alloc HB.out.size _⟩
              case measure => simp [intOf]; omega
    · obtain rfl : k = m := by omega
      clear q0 q1 q2 q3 u0 u1 st
      rcases Nat.lt_or_ge cx cy with hxy | hxy
      · have htest : cy ≤ k := by omega
        go_wp2_with (first | (go_at_call 32; (with_reducible refine (C1.out _).mono ?_); rintro e w' ⟨rfl, rfl⟩) | (go_at_call 32; (with_reducible refine (C2.out _).mono ?_); rintro e w' ⟨rfl, rfl⟩) | (go_at_call 39; (with_reducible refine (S1.out _).mono ?_); rintro e w' ⟨rfl, rfl⟩) | (go_at_call 39; (with_reducible refine (S2.out _).mono ?_); rintro e w' ⟨rfl, rfl⟩) | (go_at_call 42; (with_reducible refine (CH.out _).mono ?_); rintro e w' ⟨rfl, rfl⟩))
        go_ret2
        exact ⟨by rw [HUU.out, HYY.out]; rfl, HB.out⟩
      · have htest : cx ≤ k := by omega
        go_wp2_with (first | (go_at_call 32; (with_reducible refine (C1.out _).mono ?_); rintro e w' ⟨rfl, rfl⟩) | (go_at_call 32; (with_reducible refine (C2.out _).mono ?_); rintro e w' ⟨rfl, rfl⟩) | (go_at_call 39; (with_reducible refine (S1.out _).mono ?_); rintro e w' ⟨rfl, rfl⟩) | (go_at_call 39; (with_reducible refine (S2.out _).mono ?_); rintro e w' ⟨rfl, rfl⟩) | (go_at_call 42; (with_reducible refine (CH.out _).mono ?_); rintro e w' ⟨rfl, rfl⟩))
        go_ret2
        exact ⟨by rw [HUU.out, HYY.out]; rfl, HB.out⟩
end Go.Proofs.Ytcoacbknhlnjmaa
