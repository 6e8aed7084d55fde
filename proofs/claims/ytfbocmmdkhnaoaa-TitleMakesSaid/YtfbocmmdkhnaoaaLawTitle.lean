/-
  The walks of the laws TitleMakes, TitleReads and TitleBack.
-/
import Derived.Test.YtfbocmmdkhnaoaaTitleDev2
namespace Go.Proofs.Ytfbocmmdkhnaoaa
open Go.RowKit

theorem log_here : mkS (offL 1 2) = ⟨#[108, 111, 103, 45, 48, 48, 48, 48, 48, 49, 45, 48, 48, 48, 50]⟩ := by decide +kernel
theorem check_here : readT (⟨#[99, 104, 101, 99, 107, 45, 48, 48, 48, 48, 48, 55]⟩ : ByteArray).data.toList = ⟨1, 7, 0, []⟩ := readT_A _ (by unfold condA; decide +kernel)
set_option maxRecDepth 100000 in
set_option maxHeartbeats 400000 in
theorem lives8_any (w : World) : Calls Try.prog 6 #[] w fun e w' => e = .returned (.bool true) ∧ Below w.heap.size w w' := by
  have c1 := toflog_any 1 2 (by omega) (by omega) (by omega) (by omega)
  rw [log_here] at c1
  have c2 : ∀ w, Calls Try.prog 16 #[.string ⟨#[99, 104, 101, 99, 107, 45, 48, 48, 48, 48, 48, 55]⟩] w fun x w' => x = .returned (ttlV 1 7 0 ⟨#[]⟩) ∧ Below w.heap.size w w' := fun w => by
    have := tread_any ⟨#[99, 104, 101, 99, 107, 45, 48, 48, 48, 48, 48, 55]⟩ (by decide +kernel) w
    rw [check_here] at this
    exact this
  have C1 := Lib.hid c1; have C2 := Lib.hid c2
  clear c1 c2
  have hfd : ∀ w : World, (Instr.field 30 (ttlV 1 7 0 ⟨#[]⟩) 1).run Try.prog w = .ok (.int .i64 7) w := fun _ => by kernel_rfl
  go_enter Try.func6, Try.ntmps6
  go_wp2_with fail
  refine (C1.out _).mono ?_
  rintro e w1 ⟨rfl, hb1⟩
  go_wp2_with fail
  refine (C2.out _).mono ?_
  rintro e w2 ⟨rfl, hb2⟩
  go_wp2
  go_ret
  exact ⟨by simp, hb1.trans (hb2.mono hb1.size)⟩

set_option maxRecDepth 100000 in
set_option maxHeartbeats 800000 in
theorem titleMakes_walk (e p : Int) (s : ByteArray) (w0 : (Lit.int .i64 e).wf = true) (w1 : (Lit.int .i64 p).wf = true) (_w2 : s.size ≤ maxLen) (w : World) :
    Calls Try.prog 3 #[.int .i64 e, .int .i64 p, .string s] w fun x w' => x = .returned (.bool true) ∧ Below w.heap.size w w' := by
  obtain ⟨e0, e1⟩ := bounds_i64 w0
  obtain ⟨p0, p1⟩ := bounds_i64 w1
  clear w0 w1
  by_cases hl : s.size ≤ 400
  · have c1 := tofcheck_any e e0 e1
    have c2 := rofcheck_any e e1
    have c3 := toflog_any e p e0 e1 p0 p1
    have c4 := roflog_any e p e1 p1
    have c5 := tofexport_any s _w2
    have c6 := rofexport_any s _w2
    obtain ⟨x, hx⟩ : ∃ x, mkS (offC e) = x := ⟨_, rfl⟩
    obtain ⟨y, hy⟩ : ∃ x, mkS (offL e p) = x := ⟨_, rfl⟩
    obtain ⟨z, hz⟩ : ∃ x, mkS (offX s.data.toList) = x := ⟨_, rfl⟩
    rw [hx] at c1 c2
    rw [hy] at c3 c4
    rw [hz] at c5 c6
    have C1 := Lib.hid c1; have C2 := Lib.hid c2; have C3 := Lib.hid c3; have C4 := Lib.hid c4; have C5 := Lib.hid c5; have C6 := Lib.hid c6
    clear c1 c2 c3 c4 c5 c6 hx hy hz e0 e1 p0 p1 _w2
    have hb0 := Below.refl w.heap.size w
    go_enter Try.func3, Try.ntmps3
    go_wp2_with fail
    refine (onward (w0 := w) hb0 (C1.out _)).mono ?_; rintro e w1 ⟨rfl, hb1⟩
    go_wp2_with fail
    refine (onward (w0 := w) hb1 (C2.out _)).mono ?_; rintro e w2 ⟨rfl, hb2⟩
    go_wp2_with fail
    refine (onward (w0 := w) hb2 (C3.out _)).mono ?_; rintro e w3 ⟨rfl, hb3⟩
    go_wp2_with fail
    refine (onward (w0 := w) hb3 (C4.out _)).mono ?_; rintro e w4 ⟨rfl, hb4⟩
    go_wp2_with fail
    refine (onward (w0 := w) hb4 (C5.out _)).mono ?_; rintro e w5 ⟨rfl, hb5⟩
    go_wp2_with fail
    refine (C6.out _).mono ?_; rintro e w' ⟨rfl, rfl⟩
    go_wp2_with fail
    refine (onward (w0 := w) hb5 (ttempcheck_any _)).mono ?_; rintro e w6 ⟨rfl, hb6⟩
    go_wp2_with fail
    refine (onward (w0 := w) hb6 (ttempsave_any _)).mono ?_; rintro e w7 ⟨rfl, hb7⟩
    go_wp2_with fail
    refine (onward (w0 := w) hb7 (lives8_any _)).mono ?_; rintro e w8 ⟨rfl, hb8⟩
    go_wp2
    go_ret
    exact ⟨by simp, hb8⟩
  · have hg : 400 < s.size := by omega
    clear hl _w2 e0 e1 p0 p1
    go_enter Try.func3, Try.ntmps3
    go_wp2_with fail
    refine (lives8_any _).mono ?_; rintro e w1 ⟨rfl, hb1⟩
    go_wp2
    go_ret
    exact ⟨rfl, hb1⟩

set_option maxRecDepth 100000 in
set_option maxHeartbeats 800000 in
theorem like_any (k e p : Int) (n : ByteArray) (w : World) :
    Calls Try.prog 15 #[ttlV k e p n, ttlV k e p n] w fun x w' => x = .returned (.bool true) ∧ Below w.heap.size w w' := by
  go_enter Try.func15, Try.ntmps15
  go_wp2
  go_ret
  exact ⟨by simp, ((Below.refl _ _).alloc (Nat.le_refl _) _).alloc (by simp) _⟩

set_option maxRecDepth 100000 in
set_option maxHeartbeats 800000 in
theorem titleReads_walk (s : ByteArray) (_w0 : s.size ≤ maxLen) (w : World) :
    Calls Try.prog 4 #[.string s] w fun x w' => x = .returned (.bool true) ∧ Below w.heap.size w w' := by
  by_cases hl : s.size ≤ 400
  · have c1 := tread_any s _w0
    have c2 := rread_any s _w0
    have c3 := tmay_any s _w0
    have c4 := rmay_any s _w0
    have c5 := tuser_any s _w0
    have c6 := ruser_any s _w0
    obtain ⟨t, ht⟩ : ∃ t, readT s.data.toList = t := ⟨_, rfl⟩
    obtain ⟨x, hx⟩ : ∃ x, mayB s.data.toList = x := ⟨_, rfl⟩
    obtain ⟨y, hy⟩ : ∃ x, userB s.data.toList = x := ⟨_, rfl⟩
    rw [ht] at c1 c2
    rw [hx] at c3 c4
    rw [hy] at c5 c6
    have C1 := Lib.hid c1; have C2 := Lib.hid c2; have C3 := Lib.hid c3; have C4 := Lib.hid c4; have C5 := Lib.hid c5; have C6 := Lib.hid c6
    clear c1 c2 c3 c4 c5 c6 ht hx hy _w0
    go_enter Try.func4, Try.ntmps4
    go_wp2_with fail
    refine (C1.out _).mono ?_; rintro e w1 ⟨rfl, hb1⟩
    go_wp2_with fail
    refine (onward (w0 := w) hb1 (C2.out _)).mono ?_; rintro e w2 ⟨rfl, hb2⟩
    go_wp2_with fail
    refine (onward (w0 := w) hb2 (like_any _ _ _ _ _)).mono ?_; rintro e w3 ⟨rfl, hb3⟩
    go_wp2_with fail
    refine (onward (w0 := w) hb3 (C3.out _)).mono ?_; rintro e w4 ⟨rfl, hb4⟩
    go_wp2_with fail
    refine (C4.out _).mono ?_; rintro e w' ⟨rfl, rfl⟩
    go_wp2_with fail
    refine (onward (w0 := w) hb4 (C5.out _)).mono ?_; rintro e w5 ⟨rfl, hb5⟩
    go_wp2_with fail
    refine (C6.out _).mono ?_; rintro e w' ⟨rfl, rfl⟩
    go_wp2_with fail
    refine (onward (w0 := w) hb5 (lives8_any _)).mono ?_; rintro e w6 ⟨rfl, hb6⟩
    go_wp2
    go_ret
    exact ⟨by simp, hb6⟩
  · have hg : 400 < s.size := by omega
    clear hl _w0
    go_enter Try.func4, Try.ntmps4
    go_wp2_with fail
    refine (lives8_any _).mono ?_; rintro e w1 ⟨rfl, hb1⟩
    go_wp2
    go_ret
    exact ⟨rfl, hb1⟩

/-- What Read answers of a name that was given. -/
theorem read_v {s : ByteArray} {w : World} {k e p : Int} {l : List UInt8} {t : Ttl} (ht : readT s.data.toList = t) (hk : (t.k : Int) = k) (he : (t.e : Int) = e) (hp : (t.p : Int) = p) (hn : t.n = l) (hs : s.size ≤ maxLen) :
    Calls Try.prog 16 #[.string s] w fun x w' => x = .returned (ttlV k e p (mkS l)) ∧ Below w.heap.size w w' := by
  have := tread_any s hs w
  rw [ht] at this
  subst hk he hp hn
  exact this
theorem offC_len (e : Int) : (mkS (offC e)).size ≤ 100 := by
  rw [mkS_size]
  have := digits_len e 6
  unfold offC
  split
  · simp
  · rw [List.length_append]; simp; omega
theorem offL_len (e p : Int) : (mkS (offL e p)).size ≤ 100 := by
  rw [mkS_size]
  have := digits_len e 6
  have := digits_len p 4
  unfold offL
  split
  · simp
  · simp only [List.length_append]; simp; omega
theorem offX_len (l : List UInt8) : (mkS (offX l)).size ≤ l.length + 2 := by
  rw [mkS_size]
  unfold offX
  split
  · rw [List.length_append]; simp; omega
  · simp

/-- A name that is given: there is none, or it may be one, and is read as what it was given for. -/
def Given (a : ByteArray) (k e p : Int) (n : ByteArray) : Prop :=
  a.toList.isEmpty = true ∨ (a.toList.isEmpty = false ∧ (∀ w, Calls Try.prog 18 #[.string a] w fun x w' => x = .returned (.bool true) ∧ Below w.heap.size w w') ∧
    ∀ w, Calls Try.prog 16 #[.string a] w fun x w' => x = .returned (ttlV k e p n) ∧ Below w.heap.size w w')
theorem given_mk (l : List UInt8) (k e p : Int) (n : List UInt8) (hs : (mkS l).size ≤ 500) (h : l ≠ [] → mayB l = true ∧ ∃ t : Ttl, readT l = t ∧ (t.k : Int) = k ∧ (t.e : Int) = e ∧ (t.p : Int) = p ∧ t.n = n) : Given (mkS l) k e p (mkS n) := by
  have he := mkS_empty l
  by_cases hl : l = []
  · left; rw [he]; simp [hl]
  · right
    obtain ⟨h1, t, h2, h3, h4, h5, h6⟩ := h hl
    refine ⟨by rw [he]; simp [hl], fun w => ?_, fun w => ?_⟩
    · have := tmay_any (mkS l) (by unfold maxLen; omega) w
      rw [mkS_list, h1] at this
      exact this
    · exact read_v (by rw [mkS_list]; exact h2) h3 h4 h5 h6 (by unfold maxLen; omega)
theorem given_check (e : Int) : Given (mkS (offC e)) 1 e 0 ⟨#[]⟩ := by
  refine given_mk _ _ _ _ [] (by have := offC_len e; omega) fun h => ?_
  obtain ⟨h1, h2, h3⟩ := read_check e h
  exact ⟨h1, _, h2, rfl, Int.toNat_of_nonneg h3, rfl, rfl⟩
theorem given_log (e p : Int) : Given (mkS (offL e p)) 2 e p ⟨#[]⟩ := by
  refine given_mk _ _ _ _ [] (by have := offL_len e p; omega) fun h => ?_
  obtain ⟨h1, h2, h3, h4⟩ := read_log e p h
  exact ⟨h1, _, h2, rfl, Int.toNat_of_nonneg h3, Int.toNat_of_nonneg h4, rfl⟩
theorem given_export (s : ByteArray) (hs : s.size ≤ 400) : Given (mkS (offX s.data.toList)) 4 0 0 s := by
  have hl : s.data.toList.length = s.size := by simp
  have : mkS s.data.toList = s := str_ext (mkS_list _)
  rw [← this, mkS_list]
  refine given_mk _ _ _ _ s.data.toList (by have := offX_len s.data.toList; omega) fun h => ?_
  obtain ⟨h1, h2⟩ := read_export _ h
  exact ⟨h1, _, h2, rfl, rfl, rfl, rfl⟩

theorem read_le (l : List UInt8) : (readT l).e ≤ 999999999 ∧ (readT l).p ≤ 999999999 ∧ (readT l).n.length ≤ l.length := by
  have h1 := parseI_le (l.drop 6)
  have h2 := parseI_le ((l.drop 4).take 6)
  have h3 := parseI_le (l.drop 11)
  unfold readT
  split
  · exact ⟨h1, Nat.zero_le _, Nat.zero_le _⟩
  · split
    · exact ⟨h2, h3, Nat.zero_le _⟩
    · split
      · exact ⟨Nat.zero_le _, Nat.zero_le _, Nat.zero_le _⟩
      · split
        · exact ⟨Nat.zero_le _, Nat.zero_le _, by show (l.drop 2).length ≤ _; rw [List.length_drop]; omega⟩
        · exact ⟨Nat.zero_le _, Nat.zero_le _, Nat.zero_le _⟩

set_option maxRecDepth 100000 in
set_option maxHeartbeats 3200000 in
theorem titleBack_walk (e p : Int) (s : ByteArray) (w0 : (Lit.int .i64 e).wf = true) (w1 : (Lit.int .i64 p).wf = true) (_w2 : s.size ≤ maxLen) (w : World) :
    Calls Try.prog 5 #[.int .i64 e, .int .i64 p, .string s] w fun x w' => x = .returned (.bool true) ∧ Below w.heap.size w w' := by
  obtain ⟨e0, e1⟩ := bounds_i64 w0
  obtain ⟨p0, p1⟩ := bounds_i64 w1
  clear w0 w1
  by_cases hl : s.size ≤ 400
  · have c1 := tofcheck_any e e0 e1
    have c2 := toflog_any e p e0 e1 p0 p1
    have c3 := tofexport_any s _w2
    have g1 := given_check e
    have g2 := given_log e p
    have g3 := given_export s hl
    have c4 := tread_any s _w2
    obtain ⟨k1, k2, k3, k4, k5⟩ := read_is s.data.toList
    obtain ⟨n1, n2, n3⟩ := read_le s.data.toList
    have hlen : s.data.toList.length = s.size := by simp
    obtain ⟨a, ha⟩ : ∃ x, mkS (offC e) = x := ⟨_, rfl⟩
    obtain ⟨b, hb⟩ : ∃ x, mkS (offL e p) = x := ⟨_, rfl⟩
    obtain ⟨c, hc⟩ : ∃ x, mkS (offX s.data.toList) = x := ⟨_, rfl⟩
    obtain ⟨t, ht⟩ : ∃ t, readT s.data.toList = t := ⟨_, rfl⟩
    rw [ha] at c1 g1
    rw [hb] at c2 g2
    rw [hc] at c3 g3
    rw [ht] at c4 k1 k2 k3 k4 k5 n1 n2 n3
    rw [hlen] at n3
    clear hlen
    have C1 := Lib.hid c1; have C2 := Lib.hid c2; have C3 := Lib.hid c3; have C4 := Lib.hid c4
    have G1 := Lib.hid g1; have G2 := Lib.hid g2; have G3 := Lib.hid g3
    have K := Lib.hid (And.intro k1 (And.intro k2 (And.intro k3 k4)))
    clear c1 c2 c3 c4 g1 g2 g3 k1 k2 k3 k4 ha hb hc ht _w2
    go_enter Try.func5, Try.ntmps5
    go_wp2_with fail
    refine (C1.out _).mono ?_; rintro x w1 ⟨rfl, hb1⟩
    go_wp2_with fail
    refine (onward (w0 := w) hb1 (C2.out _)).mono ?_; rintro x w2 ⟨rfl, hb2⟩
    go_wp2_with fail
    refine (onward (w0 := w) hb2 (C3.out _)).mono ?_; rintro x w3 ⟨rfl, hb3⟩
    clear hb1 hb2
    go_upto_region 4 with fail
    go_cut [35] (fun v wx => v = .bool false ∧ Below w.heap.size w wx)
    case first =>
      rcases G1.out with h | ⟨h, m1, m2⟩
      · go_wp2
        go_meet
        exact ⟨rfl, hb3⟩
      · have M1 := Lib.hid m1; have M2 := Lib.hid m2
        clear m1 m2
        go_wp2_with fail
        refine (onward (w0 := w) hb3 (M1.out _)).mono ?_; rintro x w4 ⟨rfl, hb4⟩
        go_wp2_with fail
        refine (onward (w0 := w) hb4 (M2.out _)).mono ?_; rintro x w5 ⟨rfl, hb5⟩
        go_wp2
        go_meet
        exact ⟨rfl, hb5⟩
    case rest =>
      clear hb3
      obtain ⟨rfl, hb3⟩ := hcut
      go_upto_region 6 with fail
      go_cut [50] (fun v wx => v = .bool false ∧ Below w.heap.size w wx)
      case first =>
        rcases G2.out with h | ⟨h, m1, m2⟩
        · go_wp2
          go_meet
          exact ⟨rfl, hb3⟩
        · have M1 := Lib.hid m1; have M2 := Lib.hid m2
          clear m1 m2
          go_wp2_with fail
          refine (onward (w0 := w) hb3 (M1.out _)).mono ?_; rintro x w4 ⟨rfl, hb4⟩
          go_wp2_with fail
          refine (onward (w0 := w) hb4 (M2.out _)).mono ?_; rintro x w5 ⟨rfl, hb5⟩
          go_wp2
          go_meet
          exact ⟨rfl, hb5⟩
      case rest =>
        clear hb3
        obtain ⟨rfl, hb3⟩ := hcut
        go_upto_region 8 with fail
        go_cut [64] (fun v wx => v = .bool false ∧ Below w.heap.size w wx)
        case first =>
          rcases G3.out with h | ⟨h, m1, m2⟩
          · go_wp2
            go_meet
            exact ⟨rfl, hb3⟩
          · have M1 := Lib.hid m1; have M2 := Lib.hid m2
            clear m1 m2
            go_wp2_with fail
            refine (onward (w0 := w) hb3 (M1.out _)).mono ?_; rintro x w4 ⟨rfl, hb4⟩
            go_wp2_with fail
            refine (onward (w0 := w) hb4 (M2.out _)).mono ?_; rintro x w5 ⟨rfl, hb5⟩
            go_wp2
            go_meet
            exact ⟨rfl, hb5⟩
        case rest =>
          clear hb3
          obtain ⟨rfl, hb3⟩ := hcut
          clear G1 G2 G3 C1 C2 C3
          rcases t with ⟨k, x, y, n⟩
          simp only at n1 n2 n3 k5
          have K1 := K.out.1
          have K2 := K.out.2.1
          have K3 := K.out.2.2.1
          have K4 := K.out.2.2.2
          simp only at K1 K2 K3 K4
          clear K
          rcases (show k = 1 ∨ k = 2 ∨ k = 4 ∨ k = 0 ∨ k = 3 by omega) with rfl | rfl | rfl | rfl | rfl
          · have c := tofcheck_any (x : Nat) (by omega) (by omega)
            rw [K1 rfl, show mkS s.data.toList = s from str_ext (mkS_list _)] at c
            have C := Lib.hid c
            clear c K1 K2 K3 K4
            go_wp2_with fail
            refine (onward (w0 := w) hb3 (C4.out _)).mono ?_; rintro x w4 ⟨rfl, hb4⟩
            go_wp2_with fail
            refine (onward (w0 := w) (hb4.alloc hb4.size _) (C.out _)).mono ?_; rintro x w5 ⟨rfl, hb5⟩
            go_wp2_with fail
            refine (onward (w0 := w) hb5 (lives8_any _)).mono ?_; rintro x w6 ⟨rfl, hb6⟩
            go_wp2
            go_ret
            exact ⟨by simp, hb6⟩
          · have c := toflog_any (x : Nat) (y : Nat) (by omega) (by omega) (by omega) (by omega)
            rw [K2 rfl, show mkS s.data.toList = s from str_ext (mkS_list _)] at c
            have C := Lib.hid c
            clear c K1 K2 K3 K4
            go_wp2_with fail
            refine (onward (w0 := w) hb3 (C4.out _)).mono ?_; rintro x w4 ⟨rfl, hb4⟩
            go_wp2_with fail
            refine (onward (w0 := w) (hb4.alloc hb4.size _) (C.out _)).mono ?_; rintro x w5 ⟨rfl, hb5⟩
            go_wp2_with fail
            refine (onward (w0 := w) hb5 (lives8_any _)).mono ?_; rintro x w6 ⟨rfl, hb6⟩
            go_wp2
            go_ret
            exact ⟨by simp, hb6⟩
          · have c := tofexport_any (mkS n) (by rw [mkS_size]; unfold maxLen; omega)
            rw [mkS_list, K3 rfl, show mkS s.data.toList = s from str_ext (mkS_list _)] at c
            have C := Lib.hid c
            clear c K1 K2 K3 K4
            go_wp2_with fail
            refine (onward (w0 := w) hb3 (C4.out _)).mono ?_; rintro x w4 ⟨rfl, hb4⟩
            go_wp2_with fail
            refine (onward (w0 := w) (hb4.alloc hb4.size _) (C.out _)).mono ?_; rintro x w5 ⟨rfl, hb5⟩
            go_wp2_with fail
            refine (onward (w0 := w) hb5 (lives8_any _)).mono ?_; rintro x w6 ⟨rfl, hb6⟩
            go_wp2
            go_ret
            exact ⟨by simp, hb6⟩
          · obtain ⟨rfl, rfl, rfl⟩ := K4 (by omega) (by omega) (by omega)
            have t9 : (mkS []).toList.isEmpty = true := by rw [mkS_empty]; rfl
            clear K1 K2 K3 K4
            go_wp2_with fail
            refine (onward (w0 := w) hb3 (C4.out _)).mono ?_; rintro x w4 ⟨rfl, hb4⟩
            go_wp2_with fail
            refine (onward (w0 := w) (hb4.alloc hb4.size _) (lives8_any _)).mono ?_; rintro x w6 ⟨rfl, hb6⟩
            go_wp2
            go_ret
            exact ⟨by simp, hb6⟩
          · obtain ⟨rfl, rfl, rfl⟩ := K4 (by omega) (by omega) (by omega)
            have t9 : (mkS []).toList.isEmpty = true := by rw [mkS_empty]; rfl
            clear K1 K2 K3 K4
            go_wp2_with fail
            refine (onward (w0 := w) hb3 (C4.out _)).mono ?_; rintro x w4 ⟨rfl, hb4⟩
            go_wp2_with fail
            refine (onward (w0 := w) (hb4.alloc hb4.size _) (lives8_any _)).mono ?_; rintro x w6 ⟨rfl, hb6⟩
            go_wp2
            go_ret
            exact ⟨by simp, hb6⟩
  · have hg : 400 < s.size := by omega
    clear hl _w2 e0 e1 p0 p1
    go_enter Try.func5, Try.ntmps5
    go_wp2_with fail
    refine (lives8_any _).mono ?_; rintro e w1 ⟨rfl, hb1⟩
    go_wp2
    go_ret
    exact ⟨rfl, hb1⟩
end Go.Proofs.Ytfbocmmdkhnaoaa
