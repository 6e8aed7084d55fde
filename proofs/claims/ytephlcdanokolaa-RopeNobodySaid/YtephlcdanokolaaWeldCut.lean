/-
  Contracts of Concat and Split. (gen_weld.py writes the drawn region.)
-/
import Derived.Test.YtephlcdanokolaaWeldPick
import Derived.Test.YtephlcdanokolaaChunkJoin
namespace Go.Proofs.Ytephlcdanokolaa
open Go.RowKit
set_option linter.unusedVariables false
set_option linter.unusedSimpArgs false

theorem Apart.below {w w' : World} (h : Apart [] w w') : Below w.heap.size w w' := h.to_below (by simp) (Nat.le_refl _)
theorem Tr.first {S : List Nat} {w : World} {p : Option Addr} {L : List ByteArray} (t : Tr w S p L) : ∀ W, Below w.heap.size w W → Calls Try.prog 53 #[.pointer p] W fun e w' => e = .returned (.string (fstL L)) ∧ Below W.heap.size W w' := fun W hW => by
  rcases t with ⟨rfl, rfl⟩ | ⟨b, h, rfl, k⟩
  · exact first_nil W
  · obtain ⟨kv, -, hB⟩ := (k.later hW).cells
    exact first_blk hB
theorem Tr.last {S : List Nat} {w : World} {p : Option Addr} {L : List ByteArray} (t : Tr w S p L) : ∀ W, Below w.heap.size w W → Calls Try.prog 52 #[.pointer p] W fun e w' => e = .returned (.string (lstL L)) ∧ Below W.heap.size W w' := fun W hW => by
  rcases t with ⟨rfl, rfl⟩ | ⟨b, h, rfl, k⟩
  · exact last_nil W
  · obtain ⟨kv, -, hB⟩ := (k.later hW).cells
    exact last_blk hB
theorem Tr.bare {S : List Nat} {w : World} {p : Option Addr} {L : List ByteArray} (t : Tr w S p L) : Tr w [] p L := by
  rcases t with t | ⟨b, h, e, k⟩
  · exact .inl t
  · exact .inr ⟨b, h, e, k.weak fun i hi => ⟨hi.1, by simp⟩⟩
theorem leaf_tr (x : ByteArray) (hz : x.size ≤ 1000000) (w : World) : Calls Try.prog 66 #[.string x] w (RetTr [] w (leafL x)) := by
  unfold leafL
  by_cases h : fitsB x = true
  · rw [if_pos h]
    exact (leaf_yes x (by unfold maxLen; omega) h w).mono fun e w' ⟨b, he, hb, hB, hbel⟩ => ⟨_, he, .inr ⟨b, 0, rfl, ⟨hB.lt, by simp⟩, x, rfl, (fitsB_iff x).1 h, hB⟩, hbel⟩
  · rw [if_neg h]
    exact (leaf_no x (by unfold maxLen; omega) (Bool.eq_false_iff.2 h) w).mono fun e w' ⟨he, hb⟩ => ⟨none, he, .inl ⟨rfl, rfl⟩, hb⟩
/-- A tight tree with that text is answered. -/
def RetText (w : World) (s : ByteArray) (e : Ending) (w' : World) : Prop := ∃ p L, e = .returned (.pointer p) ∧ Tr w' [] p L ∧ TightP L ∧ wholeL L = s ∧ Below w.heap.size w w'
theorem ends_small {L : List ByteArray} (h : TightP L) : (fstL L).size ≤ 16 ∧ (lstL L).size ≤ 16 := by
  cases hL : L with
  | nil => exact ⟨Nat.zero_le _, Nat.zero_le _⟩
  | cons x M =>
    subst hL
    have h0 : 0 < (x :: M).length := by simp
    rw [fstL_get h0, lstL_get h0]
    exact ⟨(h _ _).1.2.1, (h _ _).1.2.1⟩
theorem inS_nil (w : World) : InS [] w := fun m hm => absurd hm (by simp)

set_option maxRecDepth 100000 in
set_option maxHeartbeats 1600000 in
theorem concat_two {w : World} {p q : Option Addr} {L R : List ByteArray} (t1 : Tr w [] p L) (t2 : Tr w [] q R) (hL : TightP L) (hR : TightP R) (hz : (wholeL (L ++ R)).size ≤ 6000) (hn : (joinL (lstL L) (fstL R)).length ≠ 1) :
    Calls Try.prog 45 #[.pointer p, .pointer q] w (RetText w (wholeL L ++ wholeL R)) := by
  have c1 := t1.last
  have c2 := t2.first
  have z1 := (ends_small hL).2
  have z2 := (ends_small hR).1
  have cj := join_any (lstL L) (fstL R) (by omega) (by omega)
  have ct := fun W (hW : Below w.heap.size w W) => together_two (inS_nil W) (t1.later hW) (t2.later hW) hz
  have HE := Lib.hid (fun W W' e (hb : Below w.heap.size w W) (h : RetTr [] W (L ++ R) e W') => (show RetText w (wholeL L ++ wholeL R) e W' from by
    obtain ⟨p', h1, h2, h3⟩ := h
    exact ⟨p', _, h1, h2, glue_two hL hR hn, whole_app L R, hb.trans (h3.mono hb.size)⟩))
  obtain ⟨x, hx⟩ : ∃ x, lstL L = x := ⟨_, rfl⟩
  obtain ⟨y, hy⟩ : ∃ y, fstL R = y := ⟨_, rfl⟩
  rw [hx] at c1
  rw [hy] at c2
  rw [hx, hy] at cj hn
  obtain ⟨n, hjn⟩ : ∃ n, (joinL x y).length = n := ⟨_, rfl⟩
  unfold RetStrs at cj
  rw [hjn] at cj hn
  have b1 : ((n : Int) == 1) = false := by simpa using (show ¬ (n : Int) = 1 by omega)
  have b2 : (n == 1) = false := by simpa using hn
  have b3 : ((n : Int) != 1) = true := by simpa using (show ¬ (n : Int) = 1 by omega)
  have b4 : (n != 1) = true := by simpa using hn
  have C1 := Lib.hid c1; have C2 := Lib.hid c2; have CJ := Lib.hid cj; have CT := Lib.hid ct
  clear c1 c2 z1 z2 cj ct hx hy hjn hn t1 t2 hL hR hz
  go_enter Try.func45, Try.ntmps45
  go_wp2_with fail
  refine (C1.out _ (Below.refl _ _)).mono ?_; rintro e w1 ⟨rfl, hb1⟩
  have HB1 := Lib.hid hb1
  clear hb1
  go_wp2_with fail
  refine (onward HB1.out (C2.out _ HB1.out)).mono ?_; rintro e w2 ⟨rfl, hb2⟩
  have HB2 := Lib.hid hb2
  clear hb2
  go_wp2_with fail
  refine (CJ.out w2).mono ?_; rintro e w3 ⟨a, c, rfl, -, hb3⟩
  have HB3 := Lib.hid (HB2.out.trans (hb3.mono HB2.out.size))
  clear hb3
  go_wp2_with fail
  refine (CT.out w3 HB3.out).mono ?_; intro e w4 hr
  have HR := Lib.hid (HE.out w3 w4 e HB3.out hr)
  obtain ⟨p', rfl, -, -⟩ := hr
  go_wp2
  go_ret
  exact HR.out
set_option maxRecDepth 100000 in
set_option maxHeartbeats 1600000 in
theorem concat_one {w : World} {p q : Option Addr} {L R : List ByteArray} (t1 : Tr w [] p L) (t2 : Tr w [] q R) (hL : TightP L) (hR : TightP R) (hz : (wholeL (L ++ R)).size ≤ 6000) (hn : (joinL (lstL L) (fstL R)).length = 1) :
    Calls Try.prog 45 #[.pointer p, .pointer q] w (RetText w (wholeL L ++ wholeL R)) := by
  have c1 := t1.last
  have c2 := t2.first
  have z1 := (ends_small hL).2
  have z2 := (ends_small hR).1
  have cj := join_any (lstL L) (fstL R) (by omega) (by omega)
  have hj := join_is_one hn
  obtain ⟨f1, f2, f3⟩ := (join_len_one _ _).1 hn
  rcases t1 with ⟨-, rfl⟩ | ⟨b1, h1, rfl, k1⟩
  · exact absurd f1.1 (show ¬ 1 ≤ (0 : Nat) by decide)
  rcases t2 with ⟨-, rfl⟩ | ⟨b2, h2, rfl, k2⟩
  · exact absurd f2.1 (show ¬ 1 ≤ (0 : Nat) by decide)
  have hz' := hz
  rw [whole_szs] at hz'
  have g1 := k1.high (by omega)
  have g2 := k2.high (by omega)
  have ca := fun W (hW : Below w.heap.size w W) => around1_any last_pick last_way h1 (by omega) W b1 L 0 (k1.later hW) (inS_nil W) trivial (by omega)
  have cb := fun W (hW : Below w.heap.size w W) => around2_any first_pick first_way h2 (by omega) W b2 R 0 (k2.later hW) (inS_nil W) trivial (by omega)
  have cl := leaf_tr (lstL L ++ fstL R) (by rw [ByteArray.size_append]; omega)
  have hlf : leafL (lstL L ++ fstL R) = [lstL L ++ fstL R] := by
    unfold leafL
    rw [if_pos ((fitsB_iff _).2 (fits_app f1 f2 f3))]
  rw [hlf] at cl
  have hend : ∀ (A C : List ByteArray) (s1 s2 : ByteArray), L = A ++ ([s1] ++ []) → R = [] ++ ([s2] ++ C) → TightP (A ++ ([lstL L ++ fstL R] ++ C)) ∧ wholeL (A ++ ([lstL L ++ fstL R] ++ C)) = wholeL L ++ wholeL R := fun A C s1 s2 e1 e2 => by
    rw [List.append_nil] at e1
    rw [List.nil_append] at e2
    have x1 : lstL L = s1 := by rw [e1]; exact lstL_snoc A s1
    have x2 : fstL R = s2 := by rw [e2]; rfl
    rw [x1, x2] at f3
    rw [e1] at hL
    rw [e2] at hR
    have := glue_one hL hR f3
    rw [x1, x2, e1, e2]
    exact this
  have ct : ∀ W p1 p2 p3 A C s1 s2, Tr W [] p1 A → Tr W [] p2 [lstL L ++ fstL R] → Tr W [] p3 C → L = A ++ ([s1] ++ []) → R = [] ++ ([s2] ++ C) → Below w.heap.size w W → Calls Try.prog 62 #[.slice (some ⟨W.heap.size, 0, none⟩) (3 : Nat) (3 : Nat)] (W.alloc (.cells #[.pointer p1, .pointer p2, .pointer p3] 44)) (RetText w (wholeL L ++ wholeL R)) := fun W p1 p2 p3 A C s1 s2 u1 u2 u3 e1 e2 hW => by
    obtain ⟨y1, y2⟩ := hend A C s1 s2 e1 e2
    refine (together_three (inS_nil W) u1 u2 u3 (by rw [y2, ByteArray.size_append]; exact hz')).mono ?_
    rintro e w' ⟨p', h1, h2, h3⟩
    exact ⟨p', _, h1, h2, y1, y2, hW.trans (h3.mono hW.size)⟩
  obtain ⟨x, hx⟩ : ∃ x, lstL L = x := ⟨_, rfl⟩
  obtain ⟨y, hy⟩ : ∃ y, fstL R = y := ⟨_, rfl⟩
  rw [hx] at c1
  rw [hy] at c2
  rw [hx, hy] at cj hj cl ct
  unfold RetStrs at cj
  rw [hj] at cj
  obtain ⟨xy, hxy⟩ : ∃ xy, x ++ y = xy := ⟨_, rfl⟩
  rw [hxy] at cj cl ct
  have C1 := Lib.hid c1; have C2 := Lib.hid c2; have CJ := Lib.hid cj; have CA := Lib.hid ca; have CB := Lib.hid cb; have CL := Lib.hid cl; have CT := Lib.hid ct
  clear c1 c2 z1 z2 cj ca cb cl ct hx hy hxy hj hn hend hlf f1 f2 f3 k1 k2 hL hR hz hz' g1 g2
  go_enter Try.func45, Try.ntmps45
  go_wp2_with fail
  refine (C1.out _ (Below.refl _ _)).mono ?_; rintro e w1 ⟨rfl, hb1⟩
  have HB1 := Lib.hid hb1
  clear hb1
  go_wp2_with fail
  refine (onward HB1.out (C2.out _ HB1.out)).mono ?_; rintro e w2 ⟨rfl, hb2⟩
  have HB2 := Lib.hid hb2
  clear hb2
  go_wp2_with fail
  refine (CJ.out w2).mono ?_; rintro e w3 ⟨a, c, rfl, hst, hb3⟩
  obtain ⟨ad, rfl, hab, q0⟩ := hst 0 (by simp)
  have HQ0 := Lib.hid (show w3.cell? ad = some (.string xy) by simpa [Addr.add] using q0)
  have HAB := Lib.hid (show ad.block < w3.heap.size from hab)
  have HB3 := Lib.hid (HB2.out.trans (hb3.mono HB2.out.size))
  clear hb3 hst hab q0
  go_wp2_with fail
  refine (CA.out w3 HB3.out).mono ?_; rintro e w4 ⟨p1, A, s1, p2, C1', q', rfl, t1, -, e1, r1, -, ha4⟩
  unfold lastR at r1
  subst r1
  have hb4 := ha4.below
  have HB4 := Lib.hid (HB3.out.trans (hb4.mono HB3.out.size)); have HX4 := Lib.hid hb4; have HT1 := Lib.hid t1; have HE1 := Lib.hid e1
  clear t1 e1 ha4 hb4
  go_wp2_with fail
  refine (CB.out w4 HB4.out).mono ?_; rintro e w5 ⟨p3, A2, s2, p4, C2', q2, rfl, -, t4, e2, r2, -, ha5⟩
  unfold firstR at r2
  subst r2
  have hb5 := ha5.below
  have HB5 := Lib.hid (HB4.out.trans (hb5.mono HB4.out.size)); have HX5 := Lib.hid hb5; have HT4 := Lib.hid t4; have HE2 := Lib.hid e2
  have q0 : w5.cell? ad = some (.string xy) := ((HX4.out.trans (hb5.mono HX4.out.size)).cell HAB.out).trans HQ0.out
  clear t4 e2 ha5 hb5
  go_wp2_with fail
  refine (CL.out w5).mono ?_; rintro e w6 ⟨p5, rfl, t5, hb6⟩
  have HB6 := Lib.hid (HB5.out.trans (hb6.mono HB5.out.size)); have HX6 := Lib.hid hb6; have HT5 := Lib.hid t5
  clear t5 hb6
  go_wp2_with fail
  refine (CT.out w6 p1 p5 p4 A C2' s1 s2 ((HT1.out.later HX5.out).later HX6.out) HT5.out (HT4.out.later HX6.out) HE1.out HE2.out HB6.out).mono ?_
  rintro e w7 ⟨p', L', rfl, hr⟩
  have HR := Lib.hid (show RetText w (wholeL L ++ wholeL R) (.returned (.pointer p')) w7 from ⟨p', L', rfl, hr⟩)
  clear hr
  go_wp2
  go_ret
  exact HR.out
theorem concat_any {w : World} {p q : Option Addr} {L R : List ByteArray} (t1 : Tr w [] p L) (t2 : Tr w [] q R) (hL : TightP L) (hR : TightP R) (hz : (wholeL (L ++ R)).size ≤ 6000) :
    Calls Try.prog 45 #[.pointer p, .pointer q] w (RetText w (wholeL L ++ wholeL R)) := by
  by_cases hn : (joinL (lstL L) (fstL R)).length = 1
  · exact concat_one t1 t2 hL hR hz hn
  · exact concat_two t1 t2 hL hR hz hn

/-- What is at hand when one has gone down to a place. -/
structure CutP2 (L : List ByteArray) (at' : Int) (A : List ByteArray) (s : ByteArray) (C : List ByteArray) (q : Int) : Prop where
  ta : TightP A
  tc : TightP C
  small : s.size ≤ 16
  le : backI s.data.toList q ≤ s.size
  t1 : TightP (leafL (s.extract 0 (backI s.data.toList q)))
  w1 : wholeL (leafL (s.extract 0 (backI s.data.toList q))) = s.extract 0 (backI s.data.toList q)
  t2 : TightP (leafL (s.extract (backI s.data.toList q) s.size))
  w2 : wholeL (leafL (s.extract (backI s.data.toList q) s.size)) = s.extract (backI s.data.toList q) s.size
  e1 : (wholeL L).extract 0 (backI (wholeL L).data.toList at') = wholeL A ++ s.extract 0 (backI s.data.toList q)
  e2 : (wholeL L).extract (backI (wholeL L).data.toList at') (wholeL L).size = s.extract (backI s.data.toList q) s.size ++ wholeL C
theorem CutAt.made {L A C : List ByteArray} {s : ByteArray} {p q : Int} (h : CutAt L p A s C q) (hL : TightP L) : CutP2 L p A s C q := by
  obtain ⟨h1, h2, h3, h4, h5, h6, h7, h8, h9, h10⟩ := h.parts hL
  exact ⟨h1, h2, h3.2.1, h4, h5, h6, h7, h8, h9, h10⟩
theorem empty_ext (a b : Nat) : (⟨#[]⟩ : ByteArray).extract a b = ⟨#[]⟩ := by
  apply str_ext
  rw [extract_list]
  simp
theorem leafL_empty : leafL ⟨#[]⟩ = [] := by unfold leafL; rw [if_neg (by decide +kernel)]
theorem cut_none (p : Int) : CutP2 [] p [] ⟨#[]⟩ [] p := by
  have h : backI (⟨#[]⟩ : ByteArray).data.toList p ≤ 0 := by have := backI_le (⟨#[]⟩ : ByteArray).data.toList p; simpa using this
  refine ⟨tight_nil, tight_nil, Nat.zero_le _, h, ?_, ?_, ?_, ?_, ?_, ?_⟩
  · rw [empty_ext, leafL_empty]; exact tight_nil
  · rw [empty_ext, leafL_empty]; rfl
  · rw [empty_ext, leafL_empty]; exact tight_nil
  · rw [empty_ext, leafL_empty]; rfl
  · show (⟨#[]⟩ : ByteArray).extract _ _ = ⟨#[]⟩ ++ (⟨#[]⟩ : ByteArray).extract _ _
    rw [empty_ext, empty_ext]; rfl
  · show (⟨#[]⟩ : ByteArray).extract _ _ = (⟨#[]⟩ : ByteArray).extract _ _ ++ ⟨#[]⟩
    rw [empty_ext, empty_ext]; rfl
/-- Two tight trees with those texts are answered. -/
def RetSplit (w : World) (s t : ByteArray) (e : Ending) (w' : World) : Prop :=
  ∃ p L q R, e = .returned (.tuple #[.pointer p, .pointer q]) ∧ Tr w' [] p L ∧ Tr w' [] q R ∧ TightP L ∧ TightP R ∧ wholeL L = s ∧ wholeL R = t ∧ Below w.heap.size w w'
/-- Going down to the place, of any tree. -/
def RetDown (bt : Nat) (w1 : World) (L : List ByteArray) (at' : Int) (e : Ending) (w' : World) : Prop :=
  ∃ p1 A s p2 C q, e = .returned (.tuple #[.pointer p1, .string s, .pointer p2]) ∧ Tr w' [] p1 A ∧ Tr w' [] p2 C ∧ CutP2 L at' A s C q ∧ w'.cell? ⟨bt, 0, none⟩ = some (.int .i64 q) ∧ (wholeL A).size ≤ (wholeL L).size ∧ (wholeL C).size ≤ (wholeL L).size ∧ Apart [bt] w1 w'
theorem down_any {bt : Nat} {w : World} {p : Option Addr} {L : List ByteArray} {at' : Int} (t : Tr w [bt] p L) (hL : TightP L) (hz : (wholeL L).size ≤ 6000) (hq : placeI bt at' w) :
    Calls Try.prog 63 #[.pointer p, .func (.func 78) #[] #[.pointer (some ⟨bt, 0, none⟩)]] w (RetDown bt w L at') := by
  have hlt := hq.1.lt
  rcases t with ⟨rfl, rfl⟩ | ⟨b, h, rfl, k⟩
  · refine (around_nil _ w).mono ?_
    rintro e w' ⟨rfl, hb⟩
    exact ⟨none, [], _, none, [], at', rfl, .inl ⟨rfl, rfl⟩, .inl ⟨rfl, rfl⟩, cut_none at', (hq.1.onto hb).cell 0 _ rfl, Nat.le_refl _, Nat.le_refl _, .of_below hb⟩
  · have g := k.high hz
    refine (around3_any (place_pick bt) place_way h (by omega) w b L at' k (fun m hm => by rw [List.mem_singleton.1 hm]; exact hlt) hq hz).mono ?_
    rintro e w' ⟨p1, A, s, p2, C, q, rfl, t1, t2, he, hr, hq', ha⟩
    refine ⟨p1, A, s, p2, C, q, rfl, t1.bare, t2.bare, CutAt.made hr hL, hq'.1.cell 0 _ rfl, ?_, ?_, ha⟩
    · rw [he, whole_szs]; omega
    · rw [he, whole_szs, whole_szs]; omega

set_option maxRecDepth 100000 in
set_option maxHeartbeats 1600000 in
theorem split_any {w : World} {p : Option Addr} {L : List ByteArray} {at' : Int} (t : Tr w [] p L) (hL : TightP L) (hz : (wholeL L).size ≤ 5000) (hat : i64P at') :
    Calls Try.prog 60 #[.pointer p, .int .i64 at'] w (RetSplit w ((wholeL L).extract 0 (backI (wholeL L).data.toList at')) ((wholeL L).extract (backI (wholeL L).data.toList at') (wholeL L).size)) := by
  have hmf : ∀ (fn : Fn) (first cap : Array Value) (w : World), (Instr.makeFunc fn first cap).run Try.prog w = .ok (.func fn first cap) w := fun _ _ _ _ => rfl
  have hb1 : Below w.heap.size w (w.alloc (.cells #[.int .i64 at'] 3)) := (Below.refl _ _).alloc (Nat.le_refl _) _
  have ht1 : Tr (w.alloc (.cells #[.int .i64 at'] 3)) [w.heap.size] p L := by
    rcases t with t | ⟨b, h, e, k⟩
    · exact .inl t
    · exact .inr ⟨b, h, e, k.beside hb1 (Nat.le_refl _)⟩
  have cd := down_any ht1 hL (by omega) ⟨Blk.new w _ _, hat⟩
  have HZ := Lib.hid hz
  obtain ⟨s1, hs1⟩ : ∃ s1, (wholeL L).extract 0 (backI (wholeL L).data.toList at') = s1 := ⟨_, rfl⟩
  obtain ⟨s2, hs2⟩ : ∃ s2, (wholeL L).extract (backI (wholeL L).data.toList at') (wholeL L).size = s2 := ⟨_, rfl⟩
  rw [hs1, hs2]
  have HS1 := Lib.hid hs1; have HS2 := Lib.hid hs2; have CD := Lib.hid cd; have HB1 := Lib.hid hb1
  clear hs1 hs2 cd hb1 ht1 t hL hz hat
  go_enter Try.func60, Try.ntmps60
  go_wp2_with fail
  refine CD.out.mono ?_; rintro e w2 ⟨p1, A, s, p2, C, q, rfl, t1, t2, hc, hcell, z1, z2, ha⟩
  have hb2 : Below w.heap.size w w2 := HB1.out.trans (ha.to_below (by simp) HB1.out.size)
  have cb := back_any s (by have := hc.small; unfold maxLen; omega) q w2
  have h16 := hc.small
  have hle := hc.le
  obtain ⟨n, hn⟩ : ∃ n, backI s.data.toList q = n := ⟨_, rfl⟩
  have hE1 := HS1.out.symm.trans hc.e1
  have hE2 := HS2.out.symm.trans hc.e2
  have hT1 := hc.t1
  have hT2 := hc.t2
  have hW1 := hc.w1
  have hW2 := hc.w2
  rw [hn] at cb hle hE1 hE2 hT1 hT2 hW1 hW2
  have y1 := piece_size s n hle
  have y2 := rest_size s n
  have cl1 := leaf_tr (s.extract 0 n) (by omega)
  have cl2 := leaf_tr (s.extract n s.size) (by omega)
  have cc1 : ∀ W q, Below w2.heap.size w2 W → Tr W [] q (leafL (s.extract 0 n)) → Calls Try.prog 45 #[.pointer p1, .pointer q] W (RetText W s1) := fun W q hW tq => by
    have := concat_any (t1.later hW) tq hc.ta hT1 (by rw [whole_szs, hW1]; have := HZ.out; omega)
    rwa [hW1, ← hE1] at this
  have cc2 : ∀ W q, Below w2.heap.size w2 W → Tr W [] q (leafL (s.extract n s.size)) → Calls Try.prog 45 #[.pointer q, .pointer p2] W (RetText W s2) := fun W q hW tq => by
    have := concat_any tq (t2.later hW) hT2 hc.tc (by rw [whole_szs, hW2]; have := HZ.out; omega)
    rwa [hW2, ← hE2] at this
  have HB2 := Lib.hid hb2; have CB := Lib.hid cb; have L1 := Lib.hid cl1; have L2 := Lib.hid cl2; have C1 := Lib.hid cc1; have C2 := Lib.hid cc2
  have b1 : (n : Int) ≤ (s.size : Int) := by omega
  have b2 : (0 : Int) ≤ (n : Int) := by omega
  clear t1 t2 hc z1 z2 ha hb2 cb hn hE1 hE2 hT1 hT2 hW1 hW2 y1 y2 cl1 cl2 cc1 cc2
  go_wp2_with fail
  refine CB.out.mono ?_; rintro e w3 ⟨rfl, rfl⟩
  go_wp2_with fail
  -- GEN SPLIT
  refine wp_region_held_drew (S := (fun w' : World => Below w2.heap.size w2 w')) (by kernel_rfl) (Below.refl _ _).drew (fun hHeld => ?_)
  refine wpAnyH_take (i := 0) (v := ?_) (by simp only [List.getElem?_toArray, List.getElem?_cons_succ, List.getElem?_cons_zero]; rfl) (by kernel_rfl) (by kernel_rfl) (by kernel_rfl) (fun _ _ _ h => by exact h) (Or.inl ⟨by rfl, ?_⟩) (by assumption) ?_
  rotate_left
  · (intro w hSw; (try dsimp only at hSw); go_simp; try with_reducible rfl)
  try simp only [Act.put, List.setIfInBounds_toArray, List.set_cons_zero, List.set_cons_succ]
  refine wpAnyH_take (i := 1) (v := ?_) (by simp only [List.getElem?_toArray, List.getElem?_cons_succ, List.getElem?_cons_zero]; rfl) (by kernel_rfl) (by kernel_rfl) (by kernel_rfl) (fun _ _ _ h => by exact h) (Or.inl ⟨by rfl, ?_⟩) (by assumption) ?_
  rotate_left
  · (intro w hSw; (try dsimp only at hSw); go_simp; try with_reducible rfl)
  try simp only [Act.put, List.setIfInBounds_toArray, List.set_cons_zero, List.set_cons_succ]
  refine wpAnyH_take (i := 2) (v := ?_) (by simp only [List.getElem?_toArray, List.getElem?_cons_succ, List.getElem?_cons_zero]; rfl) (by kernel_rfl) (by kernel_rfl) (by kernel_rfl) (fun _ _ _ h => by exact h) (Or.inl ⟨by rfl, ?_⟩) (by assumption) ?_
  rotate_left
  · (intro w hSw; (try dsimp only at hSw); go_simp; try with_reducible rfl)
  try simp only [Act.put, List.setIfInBounds_toArray, List.set_cons_zero, List.set_cons_succ]
  refine wpAnyH_take (i := 3) (v := ?_) (by simp only [List.getElem?_toArray, List.getElem?_cons_succ, List.getElem?_cons_zero]; rfl) (by kernel_rfl) (by kernel_rfl) (by kernel_rfl) (fun _ _ _ h => by exact h) (Or.inl ⟨by rfl, ?_⟩) (by assumption) ?_
  rotate_left
  · (intro w hSw; (try dsimp only at hSw); go_simp; try with_reducible rfl)
  try simp only [Act.put, List.setIfInBounds_toArray, List.set_cons_zero, List.set_cons_succ]
  refine wpAnyH_take (i := 6) (v := ?_) (by simp only [List.getElem?_toArray, List.getElem?_cons_succ, List.getElem?_cons_zero]; rfl) (by kernel_rfl) (by kernel_rfl) (by kernel_rfl) (fun _ _ _ h => by exact h) (Or.inl ⟨by rfl, ?_⟩) (by assumption) ?_
  rotate_left
  · (intro w hSw; (try dsimp only at hSw); go_simp; try with_reducible rfl)
  try simp only [Act.put, List.setIfInBounds_toArray, List.set_cons_zero, List.set_cons_succ]
  refine wpAnyH_take (i := 7) (v := ?_) (by simp only [List.getElem?_toArray, List.getElem?_cons_succ, List.getElem?_cons_zero]; rfl) (by kernel_rfl) (by kernel_rfl) (by kernel_rfl) (fun _ _ _ h => by exact h) (Or.inl ⟨by rfl, ?_⟩) (by assumption) ?_
  rotate_left
  · (intro w hSw; (try dsimp only at hSw); go_simp; try with_reducible rfl)
  try simp only [Act.put, List.setIfInBounds_toArray, List.set_cons_zero, List.set_cons_succ]
  refine wpAnyH_take (i := 8) (v := ?_) (by simp only [List.getElem?_toArray, List.getElem?_cons_succ, List.getElem?_cons_zero]; rfl) (by kernel_rfl) (by kernel_rfl) (by kernel_rfl) (fun _ _ _ h => by exact h) (Or.inl ⟨by rfl, ?_⟩) (by assumption) ?_
  rotate_left
  · (intro w hSw; (try dsimp only at hSw); go_simp; try with_reducible rfl)
  try simp only [Act.put, List.setIfInBounds_toArray, List.set_cons_zero, List.set_cons_succ]
  refine wpAnyH_take (i := 10) (v := ?_) (by simp only [List.getElem?_toArray, List.getElem?_cons_succ, List.getElem?_cons_zero]; rfl) (by kernel_rfl) (by kernel_rfl) (by kernel_rfl) (fun _ _ _ h => by exact h) (Or.inl ⟨by rfl, ?_⟩) (by assumption) ?_
  rotate_left
  · (intro w hSw; (try dsimp only at hSw); go_simp; try with_reducible rfl)
  try simp only [Act.put, List.setIfInBounds_toArray, List.set_cons_zero, List.set_cons_succ]
  refine wpAnyH_ready (rs := [4]) (by kernel_rfl) (by simp) ?_
  refine AllReadyH.cons (by simp only [List.getElem?_toArray, List.getElem?_cons_succ, List.getElem?_cons_zero]; rfl) (fun K hK => ?_) AllReadyH.nil
  go_simp
  (go_at_call 66; refine (L1.out _).mono ?_; rintro e w3 ⟨u1, rfl, v1, hb3⟩; have HB3 := Lib.hid (hHeld.trans (hb3.mono hHeld.size)); have HV1 := Lib.hid v1; clear v1 hb3)
  try go_wp2_with fail
  refine hK.out _ _ ?_ (fun hHeld => ?_)
  · exact HB3.out
  clear hK K
  try simp only [Act.put, List.setIfInBounds_toArray, List.set_cons_zero, List.set_cons_succ]
  refine wpAnyH_ready (rs := [5]) (by kernel_rfl) (by simp) ?_
  refine AllReadyH.cons (by simp only [List.getElem?_toArray, List.getElem?_cons_succ, List.getElem?_cons_zero]; rfl) (fun K hK => ?_) AllReadyH.nil
  go_simp
  (go_at_call 45; refine (C1.out w3 u1 HB3.out HV1.out).mono ?_; rintro e w4 ⟨u2, M2, rfl, v2, k2, x2, hb4⟩; have HB4 := Lib.hid (HB3.out.trans (hb4.mono HB3.out.size)); have HV2 := Lib.hid v2; have HK2 := Lib.hid k2; have HX2 := Lib.hid x2; clear v2 k2 x2 hb4)
  try go_wp2_with fail
  refine hK.out _ _ ?_ (fun hHeld => ?_)
  · exact HB4.out
  clear hK K
  try simp only [Act.put, List.setIfInBounds_toArray, List.set_cons_zero, List.set_cons_succ]
  refine wpAnyH_ready (rs := [9]) (by kernel_rfl) (by simp) ?_
  refine AllReadyH.cons (by simp only [List.getElem?_toArray, List.getElem?_cons_succ, List.getElem?_cons_zero]; rfl) (fun K hK => ?_) AllReadyH.nil
  go_simp
  (go_at_call 66; refine (L2.out w4).mono ?_; rintro e w5 ⟨u3, rfl, v3, hb5⟩; have HB5 := Lib.hid (HB4.out.trans (hb5.mono HB4.out.size)); have HY5 := Lib.hid hb5; have HV3 := Lib.hid v3; clear v3 hb5)
  try go_wp2_with fail
  refine hK.out _ _ ?_ (fun hHeld => ?_)
  · exact HB5.out
  clear hK K
  try simp only [Act.put, List.setIfInBounds_toArray, List.set_cons_zero, List.set_cons_succ]
  refine wpAnyH_ready (rs := [11]) (by kernel_rfl) (by simp) ?_
  refine AllReadyH.cons (by simp only [List.getElem?_toArray, List.getElem?_cons_succ, List.getElem?_cons_zero]; rfl) (fun K hK => ?_) AllReadyH.nil
  go_simp
  (go_at_call 45; refine (C2.out w5 u3 HB5.out HV3.out).mono ?_; rintro e w6 ⟨u4, M4, rfl, v4, k4, x4, hb6⟩; have HB6 := Lib.hid (HB5.out.trans (hb6.mono HB5.out.size)); have HY6 := Lib.hid hb6; have HV4 := Lib.hid v4; have HK4 := Lib.hid k4; have HX4 := Lib.hid x4; clear v4 k4 x4 hb6)
  try go_wp2_with fail
  refine hK.out _ _ ?_ (fun hHeld => ?_)
  · exact HB6.out
  clear hK K
  try simp only [Act.put, List.setIfInBounds_toArray, List.set_cons_zero, List.set_cons_succ]
  refine wpAnyH_take (i := 12) (v := ?_) (by simp only [List.getElem?_toArray, List.getElem?_cons_succ, List.getElem?_cons_zero]; rfl) (by kernel_rfl) (by kernel_rfl) (by kernel_rfl) (fun _ _ _ h => by exact h) (Or.inl ⟨by rfl, ?_⟩) (by assumption) ?_
  rotate_left
  · (intro w hSw; (try dsimp only at hSw); go_simp; try with_reducible rfl)
  try simp only [Act.put, List.setIfInBounds_toArray, List.set_cons_zero, List.set_cons_succ]
  refine wpAnyH_take (i := 13) (v := ?_) (by simp only [List.getElem?_toArray, List.getElem?_cons_succ, List.getElem?_cons_zero]; rfl) (by kernel_rfl) (by kernel_rfl) (by kernel_rfl) (fun _ _ _ h => by exact h) (Or.inl ⟨by rfl, ?_⟩) (by assumption) ?_
  rotate_left
  · (intro w hSw; (try dsimp only at hSw); go_simp; try with_reducible rfl)
  try simp only [Act.put, List.setIfInBounds_toArray, List.set_cons_zero, List.set_cons_succ]
  refine wpAnyH_done (by kernel_rfl) ?_ _
  go_wp2_with fail
  go_ret2
  exact ⟨u2, M2, u4, M4, rfl, (HV2.out.later HY5.out).later HY6.out, HV4.out, HK2.out, HK4.out, HX2.out, HX4.out, HB2.out.trans (HB6.out.mono HB2.out.size)⟩
  -- END GEN SPLIT
end Go.Proofs.Ytephlcdanokolaa
