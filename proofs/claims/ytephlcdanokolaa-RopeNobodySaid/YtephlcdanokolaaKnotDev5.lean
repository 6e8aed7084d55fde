/-
  Contracts of gather, Chunks, Text: the chunks of a tree.
-/
import Derived.Test.YtephlcdanokolaaKnotDev4
import Derived.Test.YtephlcdanokolaaKnotShelf
namespace Go.Proofs.Ytephlcdanokolaa
open Go.RowKit
set_option linter.unusedVariables false
set_option linter.unusedSimpArgs false

/-- A row of texts is answered, in blocks from base on. -/
def RetGath (w : World) (base : Nat) (M : List ByteArray) (e : Ending) (w' : World) : Prop := ∃ v', e = .returned v' ∧ w'.ownsRow base 9 1 v' M.length (strVs M) ∧ Below base w w'
def GatherC (h : Nat) : Prop := ∀ (b : Nat) (L : List ByteArray) (w : World) (base : Nat) (v : Value) (l : List ByteArray) (B : Nat → Prop), KnotW w B h b L → (∀ i, B i → i < base) → base ≤ w.heap.size →
  w.ownsRow base 9 1 v l.length (strVs l) → l.length + L.length ≤ 1000000 → Calls Try.prog 59 #[pv b, v] w (RetGath w base (l ++ L))
theorem height_later {w : World} {B : Nat → Prop} {h b : Nat} {L : List ByteArray} (k : KnotW w B h b L) (hh : h ≤ 1000) : ∀ W, Below w.heap.size w W → Calls Try.prog 26 #[pv b] W fun e w' => e = .returned (.int .i64 h) ∧ Below w.heap.size w w' :=
  (k.hgt hh).later

set_option maxRecDepth 100000 in
set_option maxHeartbeats 800000 in
theorem gather_zero : GatherC 0 := by
  intro b L w base v l B hk hB hbase hown hlen
  obtain ⟨i0, hi, hz0, hz1, hz2⟩ := info_parts string_info
  have kh := height_later hk (by decide)
  obtain ⟨hb, s, rfl, hf, hblk⟩ := hk
  rw [show ((0 : Nat) : Int) = 0 from rfl] at kh
  unfold kcs at hblk
  have hfin : ∀ v' w', w'.ownsRow base 9 1 v' (l.length + 1) (strVs l ++ [.string s]) → Below base w w' → RetGath w base (l ++ [s]) (.returned v') w' := fun v' w' h1 h2 =>
    ⟨v', rfl, by rw [strVs_one, List.length_append]; exact h1, h2⟩
  obtain ⟨N, hN⟩ : ∃ N, l.length = N := ⟨_, rfl⟩
  rw [hN] at hown hlen hfin
  have KH := Lib.hid kh; have HF := Lib.hid hfin; have HBLK := Lib.hid hblk; have HO := Lib.hid hown
  clear kh hf hblk hN hown hfin
  have hn : N ≤ 1000000 := by omega
  clear hlen
  go_enter Try.func59, Try.ntmps59
  go_wp2_with fail
  refine (KH.out _ (Below.refl _ _)).mono ?_; rintro e w1 ⟨rfl, hb1⟩
  have HB1 := Lib.hid hb1
  clear hb1
  go_wp2_with fail
  refine (KH.out _ HB1.out).mono ?_; rintro e w2 ⟨rfl, hb2⟩
  have c4 := ((HBLK.out.onto hb2).cell 4 _ rfl)
  have hown := own_on HO.out hb2
  have hsz := Nat.le_trans hbase hb2.size
  have HB2 := Lib.hid hb2
  clear hb2
  go_wp2_with (at_builtin; refine wpList_append_own _ rfl _ _ 64 rfl base 9 i0 _ 1 16 Try.underlying64 hi hz0 hz1 hz2 rfl (by decide) _ _ _ rfl (hown.alloc _) ⟨w2.heap.size, 0, none⟩ 1 1 [.string s] rfl rfl (news_one _ _ _) (one_cell _ rfl) (by unfold maxLen; omega) (by omega) (Nat.le_trans hsz (by simp)) ?_; intro v' w3 hown' hgrow _)
  have hb3 : Below base w w3 := ((HB2.out.mono hbase).alloc hsz _).grown hgrow (Nat.le_trans hsz (by simp)) (own_block hown)
  have HR := Lib.hid (HF.out v' w3 hown' hb3)
  clear hown' hgrow hown hb3
  go_wp2
  go_ret
  exact HR.out
theorem flat_take (K : List Kid) (k : Nat) (h : k < K.length) : flat (K.take (k + 1)) = flat (K.take k) ++ K[k].L := by
  rw [List.take_succ_eq_append_getElem h, flat_app, flat_one]
theorem flat_take_len (K : List Kid) (k : Nat) : (flat (K.take k)).length ≤ (flat K).length := by
  have e : flat K = flat (K.take k) ++ flat (K.drop k) := by rw [← flat_app, List.take_append_drop]
  rw [e, List.length_append]; omega

set_option maxRecDepth 100000 in
set_option maxHeartbeats 1600000 in
theorem gather_succ {h : Nat} (hh : h ≤ 900) (ih : GatherC h) : GatherC (h + 1) := by
  intro b L w base v l B hk hB hbase hown hlen
  have kh := height_later hk (by omega)
  obtain ⟨K, g, c, hn, rfl, hg⟩ := hk.node
  have c6 := hn.blk.cell 6 _ rfl
  have hbb := hB _ hk.lt
  have HKN := Lib.hid hk; have HIH := Lib.hid ih; have HN := Lib.hid hn; have KH := Lib.hid kh; have HO := Lib.hid hown; have HL := Lib.hid hlen; have HBB := Lib.hid hB
  have HG := Lib.hid (hB g hg)
  obtain ⟨n, hkn⟩ : ∃ n, K.length = n := ⟨_, rfl⟩
  rw [hkn] at c6
  have h2 := hn.two
  have h8 := hn.eight
  rw [hkn] at h2 h8
  have HK := Lib.hid hkn
  clear hk ih hn kh hown hlen hB hkn hg
  obtain ⟨h', hh'⟩ : ∃ x : Int, ((h + 1 : Nat) : Int) = x := ⟨_, rfl⟩
  rw [hh'] at KH
  have HH := Lib.hid hh'
  have t1 : ¬ h' < 0 := by omega
  have t2 : (h' == 0) = false := by simpa using (show ¬ h' = 0 by omega)
  have t3 : (h : Int) < h' := by omega
  clear hh'
  go_enter Try.func59, Try.ntmps59
  go_wp2_with fail
  refine (KH.out _ (Below.refl _ _)).mono ?_; rintro e w1 ⟨rfl, hb1⟩
  have HB1 := Lib.hid hb1
  clear hb1
  go_wp2_with fail
  refine (KH.out _ HB1.out).mono ?_; rintro e w2 ⟨rfl, hb2⟩
  have d6 : w2.cell? ⟨b, 6, none⟩ = some (.slice (some ⟨g, 0, none⟩) n c) := (hb2.cell (p := ⟨b, 6, none⟩) (Nat.lt_of_lt_of_le hbb hbase)).trans c6
  have HB2 := Lib.hid hb2
  clear hb2
  go_wp2
  go_loopw [1, 27] (fun u i wr => ∃ (k : Nat) (x : Value), k ≤ n ∧ i = .int .i64 k ∧ x = u ∧ wr.ownsRow base 9 1 x (l ++ flat (K.take k)).length (strVs (l ++ flat (K.take k))) ∧ Below base w wr) (fun _ i _ => n - (intOf i).toNat)
  case atStart => exact ⟨0, v, Nat.zero_le _, rfl, rfl, by rw [List.take_zero, show flat [] = [] from rfl, List.append_nil]; exact own_on HO.out HB2.out, HB2.out.mono hbase⟩
  case round =>
    obtain ⟨k, x, hkk, rfl, rfl, hown, hbel⟩ := hrel
    by_cases hlt : k < n
    · have hkl : k < K.length := by rw [HK.out]; exact hlt
      have q0 := (hbel.cell (p := ⟨g, 0 + k, none⟩) HG.out).trans (HN.out.row.2 k (by rw [ptrs_len]; exact hkl))
      rw [show (ptrs K)[k]'(by rw [ptrs_len]; exact hkl) = pv K[k].b by simp [ptrs], Nat.zero_add] at q0
      have hkid := (HN.out.kids K[k] (List.getElem_mem hkl)).below hbel HBB.out
      have kk := height_later hkid (by omega)
      have kb := height_later (HKN.out.below hbel HBB.out) (by omega)
      rw [HH.out] at kb
      have hst := flat_take K k hkl
      have hle := flat_take_len K (k + 1)
      rw [hst, List.length_append] at hle
      have hih := fun W (hW : Below wr.heap.size wr W) => HIH.out K[k].b K[k].L W base x (l ++ flat (K.take k)) B (hkid.below hW fun i hi => Nat.lt_of_lt_of_le (HBB.out i hi) (Nat.le_trans hbase hbel.size)) HBB.out (Nat.le_trans (Nat.le_trans hbase hbel.size) hW.size) (own_on hown hW) (by have := HL.out; rw [List.length_append]; omega)
      rw [List.append_assoc, ← hst] at hih
      obtain ⟨bk, hbk⟩ : ∃ bk, K[k].b = bk := ⟨_, rfl⟩
      rw [hbk] at q0 kk hih
      have KK := Lib.hid kk; have KB := Lib.hid kb; have HI := Lib.hid hih; have HB := Lib.hid hbel
      have hsz : base ≤ wr.heap.size := Nat.le_trans hbase hbel.size
      clear kk kb hih hbel hown hkid hst hle hbk hkl
      go_wp2_with fail
      refine (KK.out _ (Below.refl _ _)).mono ?_; rintro e w3 ⟨rfl, hb3⟩
      have HB3 := Lib.hid hb3
      clear hb3
      go_wp2_with fail
      refine (KB.out _ HB3.out).mono ?_; rintro e w4 ⟨rfl, hb4⟩
      have HB4 := Lib.hid hb4
      clear hb4
      go_wp2_with fail
      refine (HI.out _ HB4.out).mono ?_; rintro e w5 ⟨v', rfl, ho5, hb5⟩
      have HO5 := Lib.hid ho5; have HB5 := Lib.hid ((HB.out.trans (HB4.out.mono hsz)).trans hb5)
      clear ho5 hb5
      go_wp2
      go_roundw
      case rel => exact ⟨k + 1, _, by omega, by go_num, rfl, HO5.out, HB5.out⟩
      case measure => simp [intOf]; omega
    · obtain rfl : k = n := by omega
      have e : K.take k = K := List.take_of_length_le (by rw [HK.out]; exact Nat.le_refl _)
      rw [e] at hown
      have HO2 := Lib.hid hown; have HB3 := Lib.hid hbel
      clear hown hbel e
      go_wp2
      go_ret
      exact ⟨_, rfl, HO2.out, HB3.out⟩
theorem gather_any (h : Nat) (hh : h ≤ 900) : GatherC h := by
  induction h with
  | zero => exact gather_zero
  | succ h ih => exact gather_succ (by omega) (ih (by omega))
set_option maxRecDepth 100000 in
set_option maxHeartbeats 800000 in
theorem gather_bare {p : Option Addr} {w : World} (k : Hgt w p (-1)) (v : Value) : Calls Try.prog 59 #[.pointer p, v] w fun e w' => e = .returned v ∧ Below w.heap.size w w' := by
  have kh := k.later
  have KH := Lib.hid kh
  clear k kh
  go_enter Try.func59, Try.ntmps59
  go_wp2_with fail
  refine (KH.out _ (Below.refl _ _)).mono ?_; rintro e w1 ⟨rfl, hb1⟩
  go_wp2
  go_ret
  exact ⟨rfl, hb1⟩
set_option maxRecDepth 100000 in
set_option maxHeartbeats 800000 in
theorem chunks_any {h b : Nat} {L : List ByteArray} {w : World} (k : KnotH w h b L) (hh : h ≤ 900) (hl : L.length ≤ 1000000) :
    Calls Try.prog 41 #[pv b] w (RetGath w w.heap.size L) := by
  have kc := gather_any h hh b L w w.heap.size (.slice none 0 0) [] _ k (fun i hi => hi) (Nat.le_refl _) (World.ownsRow_nil _ _ _ _) (by simpa using hl)
  rw [List.nil_append] at kc
  have KC := Lib.hid kc
  clear k kc
  go_enter Try.func41, Try.ntmps41
  go_wp2_with fail
  refine KC.out.mono ?_; rintro e w1 ⟨v', rfl, ho, hb⟩
  have HO := Lib.hid (And.intro ho hb)
  clear ho hb
  go_wp2
  go_ret
  exact ⟨_, rfl, HO.out⟩
set_option maxRecDepth 100000 in
set_option maxHeartbeats 800000 in
theorem chunks_bare {p : Option Addr} {w : World} (k : Hgt w p (-1)) : Calls Try.prog 41 #[.pointer p] w fun e w' => e = .returned (.slice none 0 0) ∧ Below w.heap.size w w' := by
  have kc := gather_bare k (.slice none 0 0)
  have KC := Lib.hid kc
  clear k kc
  go_enter Try.func41, Try.ntmps41
  go_wp2_with fail
  refine KC.out.mono ?_; rintro e w1 ⟨rfl, hb⟩
  go_wp2
  go_ret
  exact ⟨rfl, hb⟩
theorem join_none (w : World) : Calls Try.prog 40 #[.slice none 0 0, .string ⟨#[]⟩] w fun e w' => e = .returned (.string ⟨#[]⟩) ∧ w' = w :=
  Any.strings_Join_none Try.lays156 Try.Builder_Extra_156 none 0 ⟨#[]⟩ w
theorem join_row {v : Value} {L : List ByteArray} {base : Nat} {w : World} (ho : w.ownsRow base 9 1 v L.length (strVs L)) (hl : L.length ≤ 1000000) (hz : (wholeL L).size ≤ 1000000) :
    Calls Try.prog 40 #[v, .string ⟨#[]⟩] w fun e w' => e = .returned (.string (wholeL L)) ∧ Below w.heap.size w w' := by
  rcases Nat.eq_zero_or_pos L.length with h0 | h0
  · obtain rfl : L = [] := List.eq_nil_of_length_eq_zero h0
    rcases ho.2 with ⟨rfl, _⟩ | ⟨g, cap, cur, rfl, _⟩
    · exact (join_none w).mono fun e w' ⟨he, hw⟩ => ⟨he, hw ▸ Below.refl _ _⟩
    · exact (Any.strings_Join_none Try.lays156 Try.Builder_Extra_156 _ cap ⟨#[]⟩ w).mono fun e w' ⟨he, hw⟩ => ⟨he, hw ▸ Below.refl _ _⟩
  · obtain ⟨g, c, rfl, hc, -, hg, hr⟩ := own_row ho h0
    have e : Lib.join (L.map (·.data.toList)) (⟨#[]⟩ : ByteArray).data.toList = (wholeL L).data.toList := join_whole L
    refine (Try.strings_Join g 0 c L ⟨#[]⟩ w (fun j x hj => ?_) hg (by omega) hc (by rw [e]; simp; omega)).mono ?_
    · obtain ⟨hj1, rfl⟩ := List.getElem?_eq_some_iff.1 hj
      have := hr j (by simpa [strVs] using hj1)
      rw [this]
      simp [strVs]
    · rintro e' w' ⟨rfl, hb⟩
      exact ⟨ret_str (by rw [e]), hb⟩
set_option maxRecDepth 100000 in
set_option maxHeartbeats 800000 in
theorem text_any {h b : Nat} {L : List ByteArray} {w : World} (k : KnotH w h b L) (hh : h ≤ 900) (hl : L.length ≤ 1000000) (hz : (wholeL L).size ≤ 1000000) :
    Calls Try.prog 25 #[pv b] w fun e w' => e = .returned (.string (wholeL L)) ∧ Below w.heap.size w w' := by
  have kc := chunks_any k hh hl
  have KC := Lib.hid kc
  clear k kc
  go_enter Try.func25, Try.ntmps25
  go_wp2_with fail
  refine KC.out.mono ?_; rintro e w1 ⟨v', rfl, ho, hb1⟩
  have kj := join_row ho hl hz
  have KJ := Lib.hid kj; have HB1 := Lib.hid hb1
  clear ho kj hb1
  go_wp2_with fail
  refine KJ.out.mono ?_; rintro e w2 ⟨rfl, hb2⟩
  have HB2 := Lib.hid (HB1.out.trans (hb2.mono HB1.out.size))
  clear hb2
  go_wp2
  go_ret
  exact ⟨rfl, HB2.out⟩
set_option maxRecDepth 100000 in
set_option maxHeartbeats 800000 in
theorem text_bare {p : Option Addr} {w : World} (k : Hgt w p (-1)) : Calls Try.prog 25 #[.pointer p] w fun e w' => e = .returned (.string ⟨#[]⟩) ∧ Below w.heap.size w w' := by
  have kc := chunks_bare k
  have kj := join_none
  have KC := Lib.hid kc; have KJ := Lib.hid kj
  clear k kc kj
  go_enter Try.func25, Try.ntmps25
  go_wp2_with fail
  refine KC.out.mono ?_; rintro e w1 ⟨rfl, hb1⟩
  go_wp2_with fail
  refine (KJ.out _).mono ?_; rintro e w2 ⟨rfl, rfl⟩
  go_wp2
  go_ret
  exact ⟨rfl, hb1⟩
end Go.Proofs.Ytephlcdanokolaa
