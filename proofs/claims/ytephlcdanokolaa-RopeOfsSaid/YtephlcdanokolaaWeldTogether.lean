/-
  Contracts of Up at few knots, of together: sides put together.
-/
import Derived.Test.YtephlcdanokolaaWeldLay
import Derived.Laws.EntriesVeiled
namespace Go.Proofs.Ytephlcdanokolaa
open Go.RowKit
set_option linter.unusedVariables false
set_option linter.unusedSimpArgs false

/-- A tree with those chunks, or none, without any. -/
def Tr (w : World) (S : List Nat) (p : Option Addr) (L : List ByteArray) : Prop := (p = none ∧ L = []) ∨ ∃ b h, p = some ⟨b, 0, none⟩ ∧ KnotW w (Off S w) h b L
theorem Tr.later {S : List Nat} {w w' : World} {p : Option Addr} {L : List ByteArray} (t : Tr w S p L) (hb : Below w.heap.size w w') : Tr w' S p L := by
  rcases t with t | ⟨b, h, e, k⟩
  · exact .inl t
  · exact .inr ⟨b, h, e, k.later hb⟩
theorem Tr.apartS {S : List Nat} {w w' : World} {p : Option Addr} {L : List ByteArray} (t : Tr w S p L) (ha : Apart S w w') : Tr w' S p L := by
  rcases t with t | ⟨b, h, e, k⟩
  · exact .inl t
  · exact .inr ⟨b, h, e, k.apartS ha⟩
theorem Tr.fits {S : List Nat} {w : World} {p : Option Addr} {L : List ByteArray} (t : Tr w S p L) : ∀ s ∈ L, fitsP s := by
  rcases t with ⟨-, rfl⟩ | ⟨b, h, e, k⟩
  · exact fun s hs => absurd hs (by simp)
  · exact k.chunks.1
theorem KnotW.high {S : List Nat} {w : World} {h b : Nat} {L : List ByteArray} (k : KnotW w (Off S w) h b L) (hz : (wholeL L).size ≤ 6000) : h ≤ 12 := by
  obtain ⟨h1, h2⟩ := k.chunks
  have h3 := fits_len h1
  rcases Nat.lt_or_ge 12 h with g | g
  · have : 2 ^ 13 ≤ 2 ^ h := Nat.pow_le_pow_right (by decide) g
    omega
  · exact g
/-- A tree with those chunks is answered. -/
def RetTr (S : List Nat) (w : World) (L : List ByteArray) (e : Ending) (w' : World) : Prop := ∃ p, e = .returned (.pointer p) ∧ Tr w' S p L ∧ Below w.heap.size w w'
theorem RetTr.from {S : List Nat} {w w1 w' : World} {L : List ByteArray} {e : Ending} (r : RetTr S w1 L e w') (hb : Below w.heap.size w w1) : RetTr S w L e w' := by
  obtain ⟨p, h1, h2, h3⟩ := r
  exact ⟨p, h1, h2, hb.trans (h3.mono hb.size)⟩

set_option maxRecDepth 100000 in
set_option maxHeartbeats 800000 in
theorem up_one {S : List Nat} {w : World} {g o c h : Nat} {K : List Kid} (p : JoinP w (Off S w) g o 1 h K) :
    Calls Try.prog 68 #[.slice (some ⟨g, o, none⟩) (1 : Nat) c] w (RetTr S w (flat K)) := by
  have ce := p.even (c := c) (by decide)
  have CE := Lib.hid ce; have HP := Lib.hid p
  clear ce p
  go_enter Try.func68, Try.ntmps68
  go_wp2_with fail
  refine CE.out.mono ?_; rintro e w1 ⟨rfl, hb1⟩
  obtain ⟨b, q0, hk⟩ := (HP.out.on hb1).one
  have HB1 := Lib.hid hb1
  have HR := Lib.hid (show RetTr S w (flat K) (.returned (pv b)) w1 from ⟨_, rfl, .inr ⟨b, h, rfl, hk.weak fun i hi => hi.on hb1.size⟩, hb1⟩)
  clear hb1 hk
  go_wp2
  go_loopw [0] (fun t wr => t = .slice (some ⟨g, o, none⟩) 1 c ∧ wr = w1) (fun _ _ => 0)
  case atStart => exact ⟨rfl, rfl⟩
  case round =>
    obtain ⟨rfl, rfl⟩ := hrel
    go_wp2
    go_ret
    exact HR.out
set_option maxRecDepth 100000 in
set_option maxHeartbeats 800000 in
theorem up_many {S : List Nat} {w : World} {g o n c h : Nat} {K : List Kid} (hS : InS S w) (p : JoinP w (Off S w) g o n h K) (h2 : 2 ≤ n) (h8 : n ≤ 8) :
    Calls Try.prog 68 #[.slice (some ⟨g, o, none⟩) n c] w (RetTr S w (flat K)) := by
  have ce := p.even (c := c) (by omega)
  have cj := fun W (hW : Below w.heap.size w W) => kjoin_yes (c := c) (p.on hW) h2 h8
  have CE := Lib.hid ce; have CJ := Lib.hid cj; have HS := Lib.hid hS
  clear ce cj p hS
  have t1 : ((n : Int) == 0) = false := by simpa using (show ¬ (n : Int) = 0 by omega)
  have t2 : (n == 0) = false := by simpa using (show ¬ n = 0 by omega)
  have t3 : ((n : Int) == 1) = false := by simpa using (show ¬ (n : Int) = 1 by omega)
  have t4 : (n == 1) = false := by simpa using (show ¬ n = 1 by omega)
  have t5 : ¬ (8 : Int) < (n : Int) := by omega
  go_enter Try.func68, Try.ntmps68
  go_wp2_with fail
  refine CE.out.mono ?_; rintro e w1 ⟨rfl, hb1⟩
  have HB1 := Lib.hid hb1
  clear hb1
  go_wp2
  go_loopw [0] (fun t wr => t = .slice (some ⟨g, o, none⟩) n c ∧ wr = w1) (fun _ _ => 0)
  case atStart => exact ⟨rfl, rfl⟩
  case round =>
    obtain ⟨rfl, rfl⟩ := hrel
    go_wp2_with fail
    refine (CJ.out _ HB1.out).mono ?_; rintro e w2 ⟨b, gb, cb, rfl, hbb, hgg, hkn, hb2⟩
    have hs := HB1.out.size
    have hbw := HB1.out.trans (hb2.mono hs)
    have HR := Lib.hid (show RetTr S w (flat K) (.returned (pv b)) w2 from ⟨_, rfl, .inr ⟨b, h + 1, rfl, hkn.made HS.out (by omega) (by omega) hbw.size⟩, hbw⟩)
    clear hbb hgg hkn hb2 hbw
    go_wp2
    go_ret
    exact HR.out
theorem up_few {S : List Nat} {w : World} {g o n c h : Nat} {K : List Kid} (hS : InS S w) (p : JoinP w (Off S w) g o n h K) (h1 : 1 ≤ n) (h8 : n ≤ 8) :
    Calls Try.prog 68 #[.slice (some ⟨g, o, none⟩) n c] w (RetTr S w (flat K)) := by
  by_cases e : n = 1
  · subst e; exact up_one p
  · exact up_many hS p (by omega) h8
set_option maxRecDepth 100000 in
theorem up_zero {a : Option Addr} {c : Nat} (w : World) : Calls Try.prog 68 #[.slice a 0 c] w fun e w' => e = .returned (.pointer none) ∧ Below w.heap.size w w' := by
  go_enter Try.func68, Try.ntmps68
  go_wp2
  go_ret
  exact ⟨rfl, Below.refl _ _⟩

/-- Sides: where each lies, and its chunks. -/
abbrev Side := Option Addr × List ByteArray
def sidesV (X : List Side) : List Value := X.map fun x => .pointer x.1
def cat (X : List Side) : List ByteArray := (X.map Prod.snd).flatten
theorem cat_take (X : List Side) (k : Nat) (h : k < X.length) : cat (X.take (k + 1)) = cat (X.take k) ++ X[k].2 := by
  unfold cat
  rw [List.take_succ_eq_append_getElem h, List.map_append, List.flatten_append]
  simp
theorem cat_le (X : List Side) (k : Nat) : (wholeL (cat (X.take k))).size ≤ (wholeL (cat X)).size := by
  have e : cat X = cat (X.take k) ++ cat (X.drop k) := by
    unfold cat
    rw [← List.flatten_append, ← List.map_append, List.take_append_drop]
  rw [e, whole_app, ByteArray.size_append]; omega
/-- Sides under way: what is put together of the first so many. -/
structure TgI (S : List Nat) (w1 : World) (X : List Side) (k : Nat) (p : Option Addr) (wr : World) : Prop where
  t : Tr wr S p (cat (X.take k))
  bel : Below w1.heap.size w1 wr

set_option maxRecDepth 100000 in
set_option maxHeartbeats 1600000 in
theorem together_any {S : List Nat} {w : World} {g n c : Nat} {X : List Side} (hS : InS S w) (hr : PRow w g 0 (sidesV X)) (hn : X.length = n) (h3 : n ≤ 3) (hX : ∀ x ∈ X, Tr w S x.1 x.2) (hz : (wholeL (cat X)).size ≤ 6000) :
    Calls Try.prog 62 #[.slice (some ⟨g, 0, none⟩) n c] w (RetTr S w (cat X)) := by
  have hmf : ∀ (fn : Fn) (first cap : Array Value) (w : World), (Instr.makeFunc fn first cap).run Try.prog w = .ok (.func fn first cap) w := fun _ _ _ _ => rfl
  have HS := Lib.hid hS; have HR := Lib.hid hr; have HN := Lib.hid hn; have HX := Lib.hid hX; have HZ := Lib.hid hz
  clear hS hr hn hX hz
  go_enter Try.func62, Try.ntmps62
  go_wp2
  have hw1 : Below w.heap.size w (w.alloc (.cells #[layV w.heap.size] 104)) := (Below.refl _ _).alloc (Nat.le_refl _) _
  have hbx : (w.alloc (.cells #[layV w.heap.size] 104)).cell? ⟨w.heap.size, 0, none⟩ = some (layV w.heap.size) := (Blk.new w #[layV w.heap.size] 104).cell 0 _ rfl
  have hsz : w.heap.size < (w.alloc (.cells #[layV w.heap.size] 104)).heap.size := by simp
  obtain ⟨w1, hw⟩ : ∃ w1, w1 = w.alloc (.cells #[layV w.heap.size] 104) := ⟨_, rfl⟩
  rw [← hw] at hw1 hbx hsz
  rw [← hw]
  obtain ⟨bl, hbl⟩ : ∃ bl, w.heap.size = bl := ⟨_, rfl⟩
  rw [hbl] at hbx hsz
  simp only [hbl]
  have HW := Lib.hid hw1; have HBX := Lib.hid hbx; have HSZ := Lib.hid hsz
  clear hw hw1 hbx hsz hbl hmf
  go_loopw [4, 10] (fun v i wr => ∃ (k : Nat) (p : Option Addr), k ≤ n ∧ v = .pointer p ∧ i = .int .i64 k ∧ TgI S w1 X k p wr) (fun _ i _ => n - (intOf i).toNat)
  case atStart => exact ⟨0, none, Nat.zero_le _, rfl, rfl, .inl ⟨rfl, rfl⟩, Below.refl _ _⟩
  case round =>
    obtain ⟨k, p, hk, rfl, rfl, hI⟩ := hrel
    by_cases hlt : k < n
    · have hkl : k < X.length := by rw [HN.out]; exact hlt
      have hbw := HW.out.trans (hI.bel.mono HW.out.size)
      have q0 := (HR.out.on hbw).2 k (by unfold sidesV; rw [List.length_map]; exact hkl)
      rw [show (sidesV X)[k]'(by unfold sidesV; rw [List.length_map]; exact hkl) = .pointer X[k].1 by simp [sidesV], Nat.zero_add] at q0
      have ht := (HX.out X[k] (List.getElem_mem hkl)).later hbw
      have hst := cat_take X k hkl
      have hcz := Nat.le_trans (cat_le X (k + 1)) HZ.out
      obtain ⟨x, hx⟩ : ∃ x, X[k] = x := ⟨_, rfl⟩
      rw [hx] at q0 ht hst
      obtain ⟨xp, xl⟩ := x
      dsimp only at q0 ht hst
      rw [hst] at hcz
      have b1 : (k : Int) < (n : Int) := by omega
      have hz1 : (wholeL (cat (X.take k))).size ≤ 6000 := by rw [whole_app, ByteArray.size_append] at hcz; omega
      have hz2 : (wholeL xl).size ≤ 6000 := by rw [whole_app, ByteArray.size_append] at hcz; omega
      rcases ht with ⟨rfl, rfl⟩ | ⟨b, h, rfl, kb⟩
      · have kh := height_nil wr
        have HN := Lib.hid (fun W (hW : Below wr.heap.size wr W) => (show TgI S w1 X (k + 1) p W from ⟨by rw [hst, List.append_nil]; exact hI.t.later hW, hI.bel.trans (hW.mono hI.bel.size)⟩))
        have KH := Lib.hid kh
        clear kh hI hst hcz hx hkl hbw hz1 hz2
        go_wp2_with fail
        refine KH.out.mono ?_; rintro e w2 ⟨rfl, hb2⟩
        have HN2 := Lib.hid (HN.out w2 hb2)
        clear hb2
        go_wp2
        go_roundw
        case rel => exact ⟨k + 1, p, by omega, rfl, by go_num, HN2.out⟩
        case measure => simp [intOf]; omega
      · have kh := (kb.hgt (by have := kb.high hz2; omega)).call
        have KH := Lib.hid kh
        rcases hI.t with ⟨rfl, he⟩ | ⟨a, ha, rfl, ka⟩
        · have HN := Lib.hid (fun W (hW : Below wr.heap.size wr W) => (show TgI S w1 X (k + 1) (some ⟨b, 0, none⟩) W from ⟨.inr ⟨b, h, rfl, by rw [hst, he, List.nil_append]; exact kb.later hW⟩, hI.bel.trans (hW.mono hI.bel.size)⟩))
          clear kh hI hst hcz hx hkl hbw hz1 hz2 kb he
          go_wp2_with fail
          refine KH.out.mono ?_; rintro e w2 ⟨rfl, hb2⟩
          have HN2 := Lib.hid (HN.out w2 hb2)
          clear hb2
          go_wp2
          go_roundw
          case rel => exact ⟨k + 1, _, by omega, rfl, by go_num, HN2.out⟩
          case measure => simp [intOf]; omega
        · have hha := ka.high hz1
          have hhb := kb.high hz2
          have hS1 : InS S wr := HS.out.on hbw.size
          have cl := fun W (hW : Below wr.heap.size wr W) => lay_any (ha + h) S W a b ha h bl _ _ (Nat.le_refl _) (hS1.on hW.size) (((hI.bel.trans (hW.mono hI.bel.size)).cell HSZ.out).trans HBX.out) (ka.later hW) (kb.later hW) (by omega) (by omega) (by omega)
          rw [← hst] at cl hcz
          have hbx2 : ∀ W, Below wr.heap.size wr W → W.cell? ⟨bl, 0, none⟩ = some (layV bl) := fun W hW => ((hI.bel.trans (hW.mono hI.bel.size)).cell HSZ.out).trans HBX.out
          have HN := Lib.hid (fun W (hW : Below wr.heap.size wr W) q (hq : Tr W S q (cat (X.take (k + 1)))) => (show TgI S w1 X (k + 1) q W from ⟨hq, hI.bel.trans (hW.mono hI.bel.size)⟩))
          have CL := Lib.hid cl; have HB := Lib.hid hbx2; have HCZ := Lib.hid hcz; have HS1 := Lib.hid hS1
          have HM := Lib.hid (show max ha h ≤ 12 from by omega)
          obtain ⟨hm, hhm⟩ : ∃ hm, max ha h = hm := ⟨_, rfl⟩
          rw [hhm] at CL HM
          obtain ⟨XL, hXL⟩ : ∃ XL, cat (X.take (k + 1)) = XL := ⟨_, rfl⟩
          rw [hXL] at CL HCZ HN
          clear kh hI hst hcz hx hkl hbw hz1 hz2 kb ka cl hbx2 hS1 hhm hXL hha hhb
          go_wp2_with fail
          refine KH.out.mono ?_; rintro e w2 ⟨rfl, hb2⟩
          have q1 := HB.out w2 hb2
          have HB2 := Lib.hid hb2
          clear hb2
          go_wp2_with fail
          refine (CL.out w2 HB2.out).mono ?_; rintro e w3 ⟨r, c3, K3, rfl, ho, x1, x2, hf, hk3, hb3⟩
          have hB3 := HB2.out.trans (hb3.mono HB2.out.size)
          have hJ : JoinP w3 (Off S w3) r 0 K3.length hm K3 := ⟨rfl, (own_prow ho (by omega)).2.2, fun k hk => (hk3 k hk).lessS, fun i hi => hi.1, by have := HM.out; omega, by rw [hf]; have := HCZ.out; omega⟩
          have cu := up_few (c := c3) (HS1.out.on hB3.size) hJ x1 (by omega)
          rw [hf] at cu
          have CU := Lib.hid cu; have HB3 := Lib.hid hB3
          clear ho hf hk3 hb3 hB3 hJ cu
          go_wp2_with fail
          refine CU.out.mono ?_; rintro e w4 ⟨q, rfl, ht4, hb4⟩
          have HN4 := Lib.hid (HN.out w4 (HB3.out.trans (hb4.mono HB3.out.size)) q ht4)
          clear ht4 hb4
          go_wp2
          go_roundw
          case rel => exact ⟨k + 1, q, by omega, rfl, by go_num, HN4.out⟩
          case measure => simp [intOf]; omega
    · obtain rfl : k = n := by omega
      have e : X.take k = X := List.take_of_length_le (by rw [HN.out]; exact Nat.le_refl _)
      have HQ := Lib.hid (show RetTr S w (cat X) (.returned (.pointer p)) wr from ⟨p, rfl, by have := hI.t; rwa [e] at this, HW.out.trans (hI.bel.mono HW.out.size)⟩)
      clear hI e
      go_wp2
      go_ret
      exact HQ.out
end Go.Proofs.Ytephlcdanokolaa
