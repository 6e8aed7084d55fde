/-
  The program's marks (layer 22), first part: what marks are found by, find, Find, Right. (Written by gen_find22.py.)
-/
import Derived.Test.YtimlfgjljnkbcaaMarkMath3
import Derived.Test.YtimlfgjljnkbcaaOpDev
import Derived.BigQuiet
import Derived.Deep.DeepCutAuto
import Derived.Deep.QuietTactic
import Derived.WalkLawsBesides
import Derived.Lib.MinMax
namespace Go.Proofs.Ytimlfgjljnkbcaa
open Go.RowKit
set_option linter.unusedVariables false

theorem name_of (x : Mrk) (w : World) : Calls Try.prog 28 #[x.v] w fun e w' => e = .returned (.string x.name) ∧ Below w.heap.size w w' := by
  obtain ⟨nm, id⟩ := x
  go_enter Try.func28, Try.ntmps28
  go_wp2
  go_ret
  exact ⟨rfl, (Below.refl _ _).alloc (Nat.le_refl _) _⟩

set_option maxHeartbeats 800000 in
theorem behind_any (x : Mrk) (xn : ByteArray) (b : Nat) (w : World) (hb : b < w.heap.size) (hc : w.cell? ⟨b, 0, none⟩ = some (.string xn)) :
    Calls Try.prog 35 (#[x.v] ++ #[.pointer (some ⟨b, 0, none⟩)]) w fun e w' => e = .returned (.bool (gtB xn x)) ∧ Below w.heap.size w w' := by
  obtain ⟨nm, id⟩ := x
  have hc2 : (w.alloc (.cells #[.string nm, .int .i64 id] 30)).cell? ⟨b, 0, none⟩ = some (.string xn) := (((Below.refl w.heap.size w).alloc (Nat.le_refl _) _).cell (p := ⟨b, 0, none⟩) hb).trans hc
  have hg : gtB xn ⟨nm, id⟩ = !(Op.bytesLess nm.toList xn.toList || nm.toList == xn.toList) := rfl
  have HG := Lib.hid hg
  obtain ⟨g, hg2⟩ : ∃ g, gtB xn ⟨nm, id⟩ = g := ⟨_, rfl⟩
  rw [hg2] at HG ⊢
  clear hc hg hg2 hb
  go_enter Try.func35, Try.ntmps35
  go_wp2
  go_ret
  exact ⟨ret_bool (by rw [HG.out, Bool.not_or]), (Below.refl _ _).alloc (Nat.le_refl _) _⟩

theorem far_u (x y : Int) (h1 : -4611686018427387904 ≤ x ∧ x ≤ 4611686018427387904) (h2 : -4611686018427387904 ≤ y ∧ y ≤ 4611686018427387904) : ((max x y) % 18446744073709551616 - (min x y) % 18446744073709551616) % 18446744073709551616 = ((x - y).natAbs : Int) := by omega
set_option maxHeartbeats 800000 in
theorem apart_any (x y : Int) (h1 : 0 ≤ x ∧ x ≤ 4096) (h2 : 0 ≤ y ∧ y ≤ 4096) (w : World) : Calls Try.prog 41 #[.int .i64 x, .int .i64 y] w fun e w' => e = .returned (.int .u64 ((x - y).natAbs : Nat)) ∧ w = w' := by
  obtain ⟨p0, p1⟩ := h1
  obtain ⟨q0, q1⟩ := h2
  by_cases h : y < x
  · have e1 : max x y = x := by omega
    have e2 : min x y = y := by omega
    have e3 : ((x - y).natAbs : Int) = x - y := by omega
    rw [e3]
    clear e3
    go_enter Try.func41, Try.ntmps41
    go_wp2
    go_ret
    exact ⟨rfl, rfl⟩
  · have e1 : max x y = y := by omega
    have e2 : min x y = x := by omega
    have e3 : ((x - y).natAbs : Int) = y - x := by omega
    rw [e3]
    clear e3
    go_enter Try.func41, Try.ntmps41
    go_wp2
    go_ret
    exact ⟨rfl, rfl⟩
set_option maxHeartbeats 800000 in
theorem far_any (x : Mrk) (at_ : Int) (b : Nat) (w : World) (h1 : 0 ≤ x.p ∧ x.p ≤ 4096) (h2 : 0 ≤ at_ ∧ at_ ≤ 4096) (hb : b < w.heap.size) (hc : w.cell? ⟨b, 0, none⟩ = some (.int .i64 at_)) :
    Calls Try.prog 40 (#[x.v] ++ #[.pointer (some ⟨b, 0, none⟩)]) w fun e w' => e = .returned (.int .u64 (dstM at_ x : Nat)) ∧ Below w.heap.size w w' := by
  obtain ⟨nm, id⟩ := x
  have hc2 : (w.alloc (.cells #[.string nm, .int .i64 id] 30)).cell? ⟨b, 0, none⟩ = some (.int .i64 at_) := (((Below.refl w.heap.size w).alloc (Nat.le_refl _) _).cell (p := ⟨b, 0, none⟩) hb).trans hc
  have ca := apart_any id at_ h1 h2
  have e : (id - at_).natAbs = dstM at_ ⟨nm, id⟩ := rfl
  rw [e] at ca
  obtain ⟨g, hg2⟩ : ∃ g, dstM at_ ⟨nm, id⟩ = g := ⟨_, rfl⟩
  rw [hg2] at ca ⊢
  have CA := Lib.hid ca
  clear hc e hg2 hb ca h1 h2
  go_enter Try.func40, Try.ntmps40
  go_wp2_with (go_at_call 41; refine (CA.out _).mono ?_; rintro e w1 ⟨rfl, rfl⟩)
  go_ret
  exact ⟨rfl, (Below.refl _ _).alloc (Nat.le_refl _) _⟩

set_option maxRecDepth 100000 in
set_option maxHeartbeats 800000 in
theorem mfind_name (a : Option Addr) (l : List Mrk) (c : Nat) (s : ByteArray) (B : Nat → Prop) (w : World) (hr : Mrks w B a l) (hB : ∀ b, B b → b < w.heap.size) (hl : l.length ≤ 1000000)
    (ck : ∀ W x, Below w.heap.size w W → x ∈ l → Calls Try.prog 28 (#[x.v] ++ #[]) W fun e w' => e = .returned (.string x.name) ∧ Below W.heap.size W w') :
    Calls Try.prog 27 #[.slice a l.length c, .func (.func 28) #[] #[], .string s] w fun e w' => e = .returned (.tuple #[.int .i64 (l.findIdx (nmB s) : Nat), .bool (decide (l.findIdx (nmB s) < l.length))]) ∧ Below w.heap.size w w' := by
  obtain ⟨n, hn⟩ : ∃ n, l.length = n := ⟨_, rfl⟩
  rw [hn] at hl ⊢
  have HN := Lib.hid hn; have HR := Lib.hid hr; have CK := Lib.hid ck
  clear hn hr ck
  obtain ⟨r, hfr⟩ : ∃ r, l.findIdx (nmB s) = r := ⟨_, rfl⟩
  rw [hfr]
  have HF := Lib.hid hfr; clear hfr
  obtain ⟨q, hq⟩ : ∃ q, decide (r < n) = q := ⟨_, rfl⟩
  rw [hq]
  have HQ := Lib.hid hq; clear hq
  go_enter Try.func27, Try.ntmps27
  go_wp2
  go_loopw [12] (fun i wr => ∃ k : Nat, k ≤ n ∧ i = .int .i64 k ∧ Hid (∀ j, j < k → (nmB s) l[j]! = false) ∧ Below w.heap.size w wr) (fun i _ => n - (intOf i).toNat)
  case atStart => exact ⟨0, Nat.zero_le _, rfl, Lib.hid (fun j hj => absurd hj (Nat.not_lt_zero _)), Below.refl _ _⟩
  case round =>
    obtain ⟨k, hk, rfl, hnone, hbel⟩ := hrel
    by_cases hlt : k < n
    · have hkl : k < l.length := by rw [HN.out]; exact hlt
      obtain ⟨ad, rfl, hab, q0, q1⟩ := (HR.out.below hB hbel) k hkl
      have ck := fun W hW => CK.out W _ hW (List.getElem_mem hkl)
      rw [← mget hkl] at q0 q1
      have ck2 := fun W hW => (show Calls _ _ _ _ _ from by have := ck W hW; rw [← mget hkl] at this; exact this)
      have hyes := fun h => idx_yes (f := nmB s) hkl hnone.out h
      have hno := fun h => ahead_more (f := nmB s) (k := k) hnone.out h
      rw [HF.out] at hyes
      obtain ⟨x, hx⟩ : ∃ x, l[k]! = x := ⟨_, rfl⟩
      rw [hx] at q0 q1 hyes hno ck2
      obtain ⟨nm, id⟩ := x
      simp only at q0 q1
      have CK2 := Lib.hid ck2; have HY := Lib.hid hyes; have HO := Lib.hid hno
      have HB1 := Lib.hid (hbel.alloc hbel.size (.cells #[.string nm, .int .i64 id] 30))
      clear hx ck ck2 hyes hno hnone hbel
      have b0 : (0 : Int) ≤ (k : Int) := by omega
      have b1 : (k : Int) < (n : Int) := by omega
      by_cases he : nm = s
      · have h0 := HY.out (by unfold nmB; exact decide_eq_true he)
        subst h0
        have e0 : q = true := by rw [← HQ.out]; exact decide_eq_true hlt
        subst e0
        subst he
        clear HY HO
        go_wp2_with (go_at_call 28; refine (CK2.out _ HB1.out).mono ?_; rintro e w2 ⟨rfl, hb2⟩)
        go_ret2
        exact ⟨rfl, HB1.out.trans (hb2.mono HB1.out.size)⟩
      · have HX := Lib.hid (HO.out (by unfold nmB; exact decide_eq_false he))
        have hne := str_ne he
        clear HY HO he
        go_wp2_with (go_at_call 28; refine (CK2.out _ HB1.out).mono ?_; rintro e w2 ⟨rfl, hb2⟩)
        go_roundw
        case rel => exact ⟨k + 1, by omega, by go_num, HX, HB1.out.trans (hb2.mono HB1.out.size)⟩
        case measure => simp [intOf]; omega
    · obtain rfl : k = n := by omega
      have h0 : r = k := by rw [← HF.out, ← HN.out]; exact idx_no (by rw [HN.out]; exact hnone.out)
      subst h0
      have e0 : q = false := by rw [← HQ.out]; exact decide_eq_false (Nat.lt_irrefl _)
      subst e0
      clear hnone
      go_wp2
      go_ret2
      exact ⟨rfl, hbel⟩

set_option maxRecDepth 100000 in
set_option maxHeartbeats 800000 in
theorem mfind_behind (a : Option Addr) (l : List Mrk) (c : Nat) (s : ByteArray) (bm : Nat) (B : Nat → Prop) (w : World) (hr : Mrks w B a l) (hB : ∀ b, B b → b < w.heap.size) (hl : l.length ≤ 1000000)
    (ck : ∀ W x, Below w.heap.size w W → x ∈ l → Calls Try.prog 35 (#[x.v] ++ #[.pointer (some ⟨bm, 0, none⟩)]) W fun e w' => e = .returned (.bool (gtB s x)) ∧ Below W.heap.size W w') :
    Calls Try.prog 34 #[.slice a l.length c, .func (.func 35) #[] #[.pointer (some ⟨bm, 0, none⟩)], .bool true] w fun e w' => e = .returned (.tuple #[.int .i64 (l.findIdx (gtB s) : Nat), .bool (decide (l.findIdx (gtB s) < l.length))]) ∧ Below w.heap.size w w' := by
  obtain ⟨n, hn⟩ : ∃ n, l.length = n := ⟨_, rfl⟩
  rw [hn] at hl ⊢
  have HN := Lib.hid hn; have HR := Lib.hid hr; have CK := Lib.hid ck
  clear hn hr ck
  obtain ⟨r, hfr⟩ : ∃ r, l.findIdx (gtB s) = r := ⟨_, rfl⟩
  rw [hfr]
  have HF := Lib.hid hfr; clear hfr
  obtain ⟨q, hq⟩ : ∃ q, decide (r < n) = q := ⟨_, rfl⟩
  rw [hq]
  have HQ := Lib.hid hq; clear hq
  go_enter Try.func34, Try.ntmps34
  go_wp2
  go_loopw [12] (fun i wr => ∃ k : Nat, k ≤ n ∧ i = .int .i64 k ∧ Hid (∀ j, j < k → (gtB s) l[j]! = false) ∧ Below w.heap.size w wr) (fun i _ => n - (intOf i).toNat)
  case atStart => exact ⟨0, Nat.zero_le _, rfl, Lib.hid (fun j hj => absurd hj (Nat.not_lt_zero _)), Below.refl _ _⟩
  case round =>
    obtain ⟨k, hk, rfl, hnone, hbel⟩ := hrel
    by_cases hlt : k < n
    · have hkl : k < l.length := by rw [HN.out]; exact hlt
      obtain ⟨ad, rfl, hab, q0, q1⟩ := (HR.out.below hB hbel) k hkl
      have ck := fun W hW => CK.out W _ hW (List.getElem_mem hkl)
      rw [← mget hkl] at q0 q1
      have ck2 := fun W hW => (show Calls _ _ _ _ _ from by have := ck W hW; rw [← mget hkl] at this; exact this)
      have hyes := fun h => idx_yes (f := gtB s) hkl hnone.out h
      have hno := fun h => ahead_more (f := gtB s) (k := k) hnone.out h
      rw [HF.out] at hyes
      obtain ⟨x, hx⟩ : ∃ x, l[k]! = x := ⟨_, rfl⟩
      rw [hx] at q0 q1 hyes hno ck2
      obtain ⟨nm, id⟩ := x
      simp only at q0 q1
      have CK2 := Lib.hid ck2; have HY := Lib.hid hyes; have HO := Lib.hid hno
      have HB1 := Lib.hid (hbel.alloc hbel.size (.cells #[.string nm, .int .i64 id] 30))
      clear hx ck ck2 hyes hno hnone hbel
      have b0 : (0 : Int) ≤ (k : Int) := by omega
      have b1 : (k : Int) < (n : Int) := by omega
      by_cases he : gtB s ⟨nm, id⟩ = true
      · have h0 := HY.out (by exact he)
        subst h0
        have e0 : q = true := by rw [← HQ.out]; exact decide_eq_true hlt
        subst e0
        have CK2 := Lib.hid (show ∀ W, Below w.heap.size w W → Calls Try.prog 35 #[.agg #[.string nm, .int .i64 id], .pointer (some ⟨bm, 0, none⟩)] W fun e w' => e = .returned (.bool true) ∧ Below W.heap.size W w' from fun W hW => by have := CK2.out W hW; rw [he] at this; exact this)
        clear HY HO he
        go_wp2_with (go_at_call 35; refine (CK2.out _ HB1.out).mono ?_; rintro e w2 ⟨rfl, hb2⟩)
        go_ret2
        exact ⟨rfl, HB1.out.trans (hb2.mono HB1.out.size)⟩
      · have HX := Lib.hid (HO.out (by simpa using he))
        have he : gtB s ⟨nm, id⟩ = false := by simpa using he
        have CK2 := Lib.hid (show ∀ W, Below w.heap.size w W → Calls Try.prog 35 #[.agg #[.string nm, .int .i64 id], .pointer (some ⟨bm, 0, none⟩)] W fun e w' => e = .returned (.bool false) ∧ Below W.heap.size W w' from fun W hW => by have := CK2.out W hW; rw [he] at this; exact this)
        clear HY HO he
        go_wp2_with (go_at_call 35; refine (CK2.out _ HB1.out).mono ?_; rintro e w2 ⟨rfl, hb2⟩)
        go_roundw
        case rel => exact ⟨k + 1, by omega, by go_num, HX, HB1.out.trans (hb2.mono HB1.out.size)⟩
        case measure => simp [intOf]; omega
    · obtain rfl : k = n := by omega
      have h0 : r = k := by rw [← HF.out, ← HN.out]; exact idx_no (by rw [HN.out]; exact hnone.out)
      subst h0
      have e0 : q = false := by rw [← HQ.out]; exact decide_eq_false (Nat.lt_irrefl _)
      subst e0
      clear hnone
      go_wp2
      go_ret2
      exact ⟨rfl, hbel⟩

set_option maxRecDepth 100000 in
set_option maxHeartbeats 800000 in
theorem mfind_far (a : Option Addr) (l : List Mrk) (c : Nat) (at_ : Int) (m : Nat) (bm : Nat) (B : Nat → Prop) (w : World) (hr : Mrks w B a l) (hB : ∀ b, B b → b < w.heap.size) (hl : l.length ≤ 1000000)
    (ck : ∀ W x, Below w.heap.size w W → x ∈ l → Calls Try.prog 40 (#[x.v] ++ #[.pointer (some ⟨bm, 0, none⟩)]) W fun e w' => e = .returned (.int .u64 (dstM at_ x : Nat)) ∧ Below W.heap.size W w') :
    Calls Try.prog 42 #[.slice a l.length c, .func (.func 40) #[] #[.pointer (some ⟨bm, 0, none⟩)], .int .u64 (m : Nat)] w fun e w' => e = .returned (.tuple #[.int .i64 (l.findIdx (fun x => decide (dstM at_ x = m)) : Nat), .bool (decide (l.findIdx (fun x => decide (dstM at_ x = m)) < l.length))]) ∧ Below w.heap.size w w' := by
  obtain ⟨n, hn⟩ : ∃ n, l.length = n := ⟨_, rfl⟩
  rw [hn] at hl ⊢
  have HN := Lib.hid hn; have HR := Lib.hid hr; have CK := Lib.hid ck
  clear hn hr ck
  obtain ⟨r, hfr⟩ : ∃ r, l.findIdx (fun x => decide (dstM at_ x = m)) = r := ⟨_, rfl⟩
  rw [hfr]
  have HF := Lib.hid hfr; clear hfr
  obtain ⟨q, hq⟩ : ∃ q, decide (r < n) = q := ⟨_, rfl⟩
  rw [hq]
  have HQ := Lib.hid hq; clear hq
  go_enter Try.func42, Try.ntmps42
  go_wp2
  go_loopw [12] (fun i wr => ∃ k : Nat, k ≤ n ∧ i = .int .i64 k ∧ Hid (∀ j, j < k → (fun x => decide (dstM at_ x = m)) l[j]! = false) ∧ Below w.heap.size w wr) (fun i _ => n - (intOf i).toNat)
  case atStart => exact ⟨0, Nat.zero_le _, rfl, Lib.hid (fun j hj => absurd hj (Nat.not_lt_zero _)), Below.refl _ _⟩
  case round =>
    obtain ⟨k, hk, rfl, hnone, hbel⟩ := hrel
    by_cases hlt : k < n
    · have hkl : k < l.length := by rw [HN.out]; exact hlt
      obtain ⟨ad, rfl, hab, q0, q1⟩ := (HR.out.below hB hbel) k hkl
      have ck := fun W hW => CK.out W _ hW (List.getElem_mem hkl)
      rw [← mget hkl] at q0 q1
      have ck2 := fun W hW => (show Calls _ _ _ _ _ from by have := ck W hW; rw [← mget hkl] at this; exact this)
      have hyes := fun h => idx_yes (f := fun x => decide (dstM at_ x = m)) hkl hnone.out h
      have hno := fun h => ahead_more (f := fun x => decide (dstM at_ x = m)) (k := k) hnone.out h
      rw [HF.out] at hyes
      obtain ⟨x, hx⟩ : ∃ x, l[k]! = x := ⟨_, rfl⟩
      rw [hx] at q0 q1 hyes hno ck2
      obtain ⟨nm, id⟩ := x
      simp only at q0 q1
      have CK2 := Lib.hid ck2; have HY := Lib.hid hyes; have HO := Lib.hid hno
      have HB1 := Lib.hid (hbel.alloc hbel.size (.cells #[.string nm, .int .i64 id] 30))
      clear hx ck ck2 hyes hno hnone hbel
      have b0 : (0 : Int) ≤ (k : Int) := by omega
      have b1 : (k : Int) < (n : Int) := by omega
      by_cases he : dstM at_ ⟨nm, id⟩ = m
      · have h0 := HY.out (by exact decide_eq_true he)
        subst h0
        have e0 : q = true := by rw [← HQ.out]; exact decide_eq_true hlt
        subst e0
        have CK2 := Lib.hid (show ∀ W, Below w.heap.size w W → Calls Try.prog 40 #[.agg #[.string nm, .int .i64 id], .pointer (some ⟨bm, 0, none⟩)] W fun e w' => e = .returned (.int .u64 (m : Nat)) ∧ Below W.heap.size W w' from fun W hW => by have := CK2.out W hW; rw [he] at this; exact this)
        clear HY HO he
        go_wp2_with (go_at_call 40; refine (CK2.out _ HB1.out).mono ?_; rintro e w2 ⟨rfl, hb2⟩)
        go_ret2
        exact ⟨rfl, HB1.out.trans (hb2.mono HB1.out.size)⟩
      · have HX := Lib.hid (HO.out (by exact decide_eq_false he))
        obtain ⟨z, hz⟩ : ∃ z, dstM at_ ⟨nm, id⟩ = z := ⟨_, rfl⟩
        have CK2 := Lib.hid (show ∀ W, Below w.heap.size w W → Calls Try.prog 40 #[.agg #[.string nm, .int .i64 id], .pointer (some ⟨bm, 0, none⟩)] W fun e w' => e = .returned (.int .u64 (z : Nat)) ∧ Below W.heap.size W w' from fun W hW => by have := CK2.out W hW; rw [hz] at this; exact this)
        have hne : ((z : Int) == (m : Int)) = false := beq_eq_false_iff_ne.2 (by rw [hz] at he; omega)
        clear HY HO he
        go_wp2_with (go_at_call 40; refine (CK2.out _ HB1.out).mono ?_; rintro e w2 ⟨rfl, hb2⟩)
        go_roundw
        case rel => exact ⟨k + 1, by omega, by go_num, HX, HB1.out.trans (hb2.mono HB1.out.size)⟩
        case measure => simp [intOf]; omega
    · obtain rfl : k = n := by omega
      have h0 : r = k := by rw [← HF.out, ← HN.out]; exact idx_no (by rw [HN.out]; exact hnone.out)
      subst h0
      have e0 : q = false := by rw [← HQ.out]; exact decide_eq_false (Nat.lt_irrefl _)
      subst e0
      clear hnone
      go_wp2
      go_ret2
      exact ⟨rfl, hbel⟩

set_option maxRecDepth 100000 in
set_option maxHeartbeats 800000 in
theorem mfound_any (a : Option Addr) (l : List Mrk) (c : Nat) (s : ByteArray) (B : Nat → Prop) (w : World) (hr : Mrks w B a l) (hB : ∀ b, B b → b < w.heap.size) (hl : l.length ≤ 1000000) :
    Calls Try.prog 9 #[.slice a l.length c, .string s] w fun e w' => e = .returned (.tuple #[.int .i64 (fndM l s).1, .bool (fndM l s).2]) ∧ Below w.heap.size w w' := by
  have cf := mfind_name a l c s B w hr hB hl (fun W x _ _ => name_of x W)
  unfold fndM
  by_cases hi : l.findIdx (nmB s) < l.length
  · rw [if_pos hi]
    rw [decide_eq_true hi] at cf
    obtain ⟨i, he⟩ : ∃ i, l.findIdx (nmB s) = i := ⟨_, rfl⟩
    rw [he] at hi cf ⊢
    have hrow := fun w' (hb : Below w.heap.size w w') => (hr.below hB hb) i hi
    obtain ⟨p, hp⟩ : ∃ p, (l[i]!).p = p := ⟨_, rfl⟩
    have hrow2 : ∀ w', Below w.heap.size w w' → ∃ ad, a = some ad ∧ w'.cell? ⟨(ad.add (i * 2)).block, (ad.add (i * 2)).off + 1, none⟩ = some (.int .i64 p) := fun w' hb => by
      obtain ⟨ad, e, -, -, q1⟩ := hrow w' hb
      rw [← mget hi, hp] at q1
      exact ⟨ad, e, q1⟩
    rw [hp]
    obtain ⟨n, hn⟩ : ∃ n, l.length = n := ⟨_, rfl⟩
    rw [hn] at hi hl cf ⊢
    have CF := Lib.hid cf; have HR := Lib.hid hrow2
    clear hr hrow hrow2 cf he hp hn
    have b1 : (i : Int) < (n : Int) := by omega
    go_enter Try.func9, Try.ntmps9
    go_wp2_with fail
    refine CF.out.mono ?_
    rintro e w1 ⟨rfl, hb1⟩
    obtain ⟨ad, rfl, q1⟩ := HR.out w1 hb1
    go_wp2
    go_ret2
    exact ⟨rfl, hb1⟩
  · rw [if_neg hi]
    rw [decide_eq_false hi] at cf
    obtain ⟨n, hn⟩ : ∃ n, l.length = n := ⟨_, rfl⟩
    rw [hn] at cf ⊢
    obtain ⟨i, he⟩ : ∃ i, l.findIdx (nmB s) = i := ⟨_, rfl⟩
    rw [he] at cf
    have CF := Lib.hid cf
    clear hr cf hi he hn
    go_enter Try.func9, Try.ntmps9
    go_wp2_with fail
    refine CF.out.mono ?_
    rintro e w1 ⟨rfl, hb1⟩
    go_wp2
    go_ret2
    exact ⟨rfl, hb1⟩
end Go.Proofs.Ytimlfgjljnkbcaa
