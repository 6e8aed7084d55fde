/-
  Joined: WeldTogether, WeldAr, WeldPick, WeldCut, WeldTight.
-/
import Derived.Test.YtfiobemeogaaiaaGreatJKnotDev6
import Derived.Laws.EntriesVeiled
import Derived.Test.YtfiobemeogaaiaaGreatSq
import Derived.Test.YtfiobemeogaaiaaGreatJChunkRef
namespace Go.Proofs.YtfiobemeogaaiaaGreat
open Lib (hid)
open Go.RowKit
set_option linter.unusedVariables false
set_option linter.unusedSimpArgs false
def Tr (w : World) (S : List Nat) (p : Option Addr) (L : List ByteArray) : Prop := (p = none ∧ L = []) ∨ ∃ b h, p = some ⟨b, 0, none⟩ ∧ KnotW w (Off S w) h b L
theorem Tr.later {S : List Nat} {w w' : World} {p : Option Addr} {L : List ByteArray} (t : Tr w S p L) (hb : Below w.heap.size w w') : Tr w' S p L := by
  rcases t with t | ⟨b, h, e, k⟩
  · exact .inl t
  · exact .inr ⟨b, h, e, k.later hb⟩
theorem Tr.apartS {S : List Nat} {w w' : World} {p : Option Addr} {L : List ByteArray} (t : Tr w S p L) (ha : Apart S w w') : Tr w' S p L := by
  rcases t with t | ⟨b, h, e, k⟩
  · exact .inl t
  · exact .inr ⟨b, h, e, k.apartS ha⟩
theorem Tr.fits {S : List Nat} {w : World} {p : Option Addr} {L : List ByteArray} (t : Tr w S p L) : ∀ s ∈ L, fitsP s := by
  rcases t with ⟨-, rfl⟩ | ⟨b, h, e, k⟩
  · exact fun s hs => absurd hs (by simp)
  · exact k.chunks.1
theorem KnotW.high {S : List Nat} {w : World} {h b : Nat} {L : List ByteArray} (k : KnotW w (Off S w) h b L) (hz : (wholeL L).size ≤ 6000) : h ≤ 12 := by
  obtain ⟨h1, h2⟩ := k.chunks
  have h3 := fits_len h1
  rcases Nat.lt_or_ge 12 h with g | g
  · have : 2 ^ 13 ≤ 2 ^ h := Nat.pow_le_pow_right (by decide) g
    omega
  · exact g
def RetTr (S : List Nat) (w : World) (L : List ByteArray) (e : Ending) (w' : World) : Prop := ∃ p, e = .returned (.pointer p) ∧ Tr w' S p L ∧ Below w.heap.size w w'
theorem RetTr.from {S : List Nat} {w w1 w' : World} {L : List ByteArray} {e : Ending} (r : RetTr S w1 L e w') (hb : Below w.heap.size w w1) : RetTr S w L e w' := by
  obtain ⟨p, h1, h2, h3⟩ := r
  exact ⟨p, h1, h2, hb.trans (h3.mono hb.size)⟩
set_option maxRecDepth 100000 in
set_option maxHeartbeats 800000 in
theorem up_one {S : List Nat} {w : World} {g o c h : Nat} {K : List Kid} (p : JoinP w (Off S w) g o 1 h K) :
    Calls Tryz.prog 176 #[.slice (some ⟨g, o, none⟩) (1 : Nat) c] w (RetTr S w (flat K)) := by
  have ce := p.even (c := c) (by decide)
  have CE := hid ce; have HP := hid p
  clear ce p
  go_enter Tryz.func176, Tryz.ntmps176
  go_wp2_with fail
  refine CE.out.mono ?_; rintro e w1 ⟨rfl, hb1⟩
  obtain ⟨b, q0, hk⟩ := (HP.out.on hb1).one
  have HB1 := hid hb1
  have HR := hid (show RetTr S w (flat K) (.returned (pv b)) w1 from ⟨_, rfl, .inr ⟨b, h, rfl, hk.weak fun i hi => hi.on hb1.size⟩, hb1⟩)
  clear hb1 hk
  go_wp2
  go_loopw [0] (fun t wr => t = .slice (some ⟨g, o, none⟩) 1 c ∧ wr = w1) (fun _ _ => 0)
  case atStart => exact ⟨rfl, rfl⟩
  case round =>
    obtain ⟨rfl, rfl⟩ := hrel
    go_wp2
    go_ret
    exact HR.out
set_option maxRecDepth 100000 in
set_option maxHeartbeats 800000 in
theorem up_many {S : List Nat} {w : World} {g o n c h : Nat} {K : List Kid} (hS : InS S w) (p : JoinP w (Off S w) g o n h K) (h2 : 2 ≤ n) (h8 : n ≤ 8) :
    Calls Tryz.prog 176 #[.slice (some ⟨g, o, none⟩) n c] w (RetTr S w (flat K)) := by
  have ce := p.even (c := c) (by omega)
  have cj := fun W (hW : Below w.heap.size w W) => kjoin_yes (c := c) (p.on hW) h2 h8
  have CE := hid ce; have CJ := hid cj; have HS := hid hS
  clear ce cj p hS
  have t1 : ((n : Int) == 0) = false := by simpa using (show ¬ (n : Int) = 0 by omega)
  have t2 : (n == 0) = false := by simpa using (show ¬ n = 0 by omega)
  have t3 : ((n : Int) == 1) = false := by simpa using (show ¬ (n : Int) = 1 by omega)
  have t4 : (n == 1) = false := by simpa using (show ¬ n = 1 by omega)
  have t5 : ¬ (8 : Int) < (n : Int) := by omega
  go_enter Tryz.func176, Tryz.ntmps176
  go_wp2_with fail
  refine CE.out.mono ?_; rintro e w1 ⟨rfl, hb1⟩
  have HB1 := hid hb1
  clear hb1
  go_wp2
  go_loopw [0] (fun t wr => t = .slice (some ⟨g, o, none⟩) n c ∧ wr = w1) (fun _ _ => 0)
  case atStart => exact ⟨rfl, rfl⟩
  case round =>
    obtain ⟨rfl, rfl⟩ := hrel
    go_wp2_with fail
    refine (CJ.out _ HB1.out).mono ?_; rintro e w2 ⟨b, gb, cb, rfl, hbb, hgg, hkn, hb2⟩
    have hs := HB1.out.size
    have hbw := HB1.out.trans (hb2.mono hs)
    have HR := hid (show RetTr S w (flat K) (.returned (pv b)) w2 from ⟨_, rfl, .inr ⟨b, h + 1, rfl, hkn.made HS.out (by omega) (by omega) hbw.size⟩, hbw⟩)
    clear hbb hgg hkn hb2 hbw
    go_wp2
    go_ret
    exact HR.out
theorem up_few {S : List Nat} {w : World} {g o n c h : Nat} {K : List Kid} (hS : InS S w) (p : JoinP w (Off S w) g o n h K) (h1 : 1 ≤ n) (h8 : n ≤ 8) :
    Calls Tryz.prog 176 #[.slice (some ⟨g, o, none⟩) n c] w (RetTr S w (flat K)) := by
  by_cases e : n = 1
  · subst e; exact up_one p
  · exact up_many hS p (by omega) h8
set_option maxRecDepth 100000 in
theorem up_zero {a : Option Addr} {c : Nat} (w : World) : Calls Tryz.prog 176 #[.slice a 0 c] w fun e w' => e = .returned (.pointer none) ∧ Below w.heap.size w w' := by
  go_enter Tryz.func176, Tryz.ntmps176
  go_wp2
  go_ret
  exact ⟨rfl, Below.refl _ _⟩
abbrev Side := Option Addr × List ByteArray
def sidesV (X : List Side) : List Value := X.map fun x => .pointer x.1
def cat (X : List Side) : List ByteArray := (X.map Prod.snd).flatten
theorem cat_take (X : List Side) (k : Nat) (h : k < X.length) : cat (X.take (k + 1)) = cat (X.take k) ++ X[k].2 := by
  unfold cat
  rw [List.take_succ_eq_append_getElem h, List.map_append, List.flatten_append]
  simp
theorem cat_le (X : List Side) (k : Nat) : (wholeL (cat (X.take k))).size ≤ (wholeL (cat X)).size := by
  have e : cat X = cat (X.take k) ++ cat (X.drop k) := by
    unfold cat
    rw [← List.flatten_append, ← List.map_append, List.take_append_drop]
  rw [e, whole_app, ByteArray.size_append]; omega
structure TgI (S : List Nat) (w1 : World) (X : List Side) (k : Nat) (p : Option Addr) (wr : World) : Prop where
  t : Tr wr S p (cat (X.take k))
  bel : Below w1.heap.size w1 wr
set_option maxRecDepth 100000 in
set_option maxHeartbeats 1600000 in
theorem together_any {S : List Nat} {w : World} {g n c : Nat} {X : List Side} (hS : InS S w) (hr : PRow w g 0 (sidesV X)) (hn : X.length = n) (h3 : n ≤ 3) (hX : ∀ x ∈ X, Tr w S x.1 x.2) (hz : (wholeL (cat X)).size ≤ 6000) :
    Calls Tryz.prog 171 #[.slice (some ⟨g, 0, none⟩) n c] w (RetTr S w (cat X)) := by
  have hmf : ∀ (fn : Fn) (first cap : Array Value) (w : World), (Instr.makeFunc fn first cap).run Tryz.prog w = .ok (.func fn first cap) w := fun _ _ _ _ => rfl
  have HS := hid hS; have HR := hid hr; have HN := hid hn; have HX := hid hX; have HZ := hid hz
  clear hS hr hn hX hz
  go_enter Tryz.func171, Tryz.ntmps171
  go_wp2
  have hw1 : Below w.heap.size w (w.alloc (.cells #[layV w.heap.size] 206)) := (Below.refl _ _).alloc (Nat.le_refl _) _
  have hbx : (w.alloc (.cells #[layV w.heap.size] 206)).cell? ⟨w.heap.size, 0, none⟩ = some (layV w.heap.size) := (Blk.new w #[layV w.heap.size] 206).cell 0 _ rfl
  have hsz : w.heap.size < (w.alloc (.cells #[layV w.heap.size] 206)).heap.size := by simp
  obtain ⟨w1, hw⟩ : ∃ w1, w1 = w.alloc (.cells #[layV w.heap.size] 206) := ⟨_, rfl⟩
  rw [← hw] at hw1 hbx hsz
  rw [← hw]
  obtain ⟨bl, hbl⟩ : ∃ bl, w.heap.size = bl := ⟨_, rfl⟩
  rw [hbl] at hbx hsz
  simp only [hbl]
  have HW := hid hw1; have HBX := hid hbx; have HSZ := hid hsz
  clear hw hw1 hbx hsz hbl hmf
  go_loopw [4, 10] (fun v i wr => ∃ (k : Nat) (p : Option Addr), k ≤ n ∧ v = .pointer p ∧ i = .int .i64 k ∧ TgI S w1 X k p wr) (fun _ i _ => n - (intOf i).toNat)
  case atStart => exact ⟨0, none, Nat.zero_le _, rfl, rfl, .inl ⟨rfl, rfl⟩, Below.refl _ _⟩
  case round =>
    obtain ⟨k, p, hk, rfl, rfl, hI⟩ := hrel
    by_cases hlt : k < n
    · have hkl : k < X.length := by rw [HN.out]; exact hlt
      have hbw := HW.out.trans (hI.bel.mono HW.out.size)
      have q0 := (HR.out.on hbw).2 k (by unfold sidesV; rw [List.length_map]; exact hkl)
      rw [show (sidesV X)[k]'(by unfold sidesV; rw [List.length_map]; exact hkl) = .pointer X[k].1 by simp [sidesV], Nat.zero_add] at q0
      have ht := (HX.out X[k] (List.getElem_mem hkl)).later hbw
      have hst := cat_take X k hkl
      have hcz := Nat.le_trans (cat_le X (k + 1)) HZ.out
      obtain ⟨x, hx⟩ : ∃ x, X[k] = x := ⟨_, rfl⟩
      rw [hx] at q0 ht hst
      obtain ⟨xp, xl⟩ := x
      dsimp only at q0 ht hst
      rw [hst] at hcz
      have b1 : (k : Int) < (n : Int) := by omega
      have hz1 : (wholeL (cat (X.take k))).size ≤ 6000 := by rw [whole_app, ByteArray.size_append] at hcz; omega
      have hz2 : (wholeL xl).size ≤ 6000 := by rw [whole_app, ByteArray.size_append] at hcz; omega
      rcases ht with ⟨rfl, rfl⟩ | ⟨b, h, rfl, kb⟩
      · have kh := height_nil wr
        have HN := hid (fun W (hW : Below wr.heap.size wr W) => (show TgI S w1 X (k + 1) p W from ⟨by rw [hst, List.append_nil]; exact hI.t.later hW, hI.bel.trans (hW.mono hI.bel.size)⟩))
        have KH := hid kh
        clear kh hI hst hcz hx hkl hbw hz1 hz2
        go_wp2_with fail
        refine KH.out.mono ?_; rintro e w2 ⟨rfl, hb2⟩
        have HN2 := hid (HN.out w2 hb2)
        clear hb2
        go_wp2
        go_roundw
        case rel => exact ⟨k + 1, p, by omega, rfl, by go_num, HN2.out⟩
        case measure => simp [intOf]; omega
      · have kh := (kb.hgt (by have := kb.high hz2; omega)).call
        have KH := hid kh
        rcases hI.t with ⟨rfl, he⟩ | ⟨a, ha, rfl, ka⟩
        · have HN := hid (fun W (hW : Below wr.heap.size wr W) => (show TgI S w1 X (k + 1) (some ⟨b, 0, none⟩) W from ⟨.inr ⟨b, h, rfl, by rw [hst, he, List.nil_append]; exact kb.later hW⟩, hI.bel.trans (hW.mono hI.bel.size)⟩))
          clear kh hI hst hcz hx hkl hbw hz1 hz2 kb he
          go_wp2_with fail
          refine KH.out.mono ?_; rintro e w2 ⟨rfl, hb2⟩
          have HN2 := hid (HN.out w2 hb2)
          clear hb2
          go_wp2
          go_roundw
          case rel => exact ⟨k + 1, _, by omega, rfl, by go_num, HN2.out⟩
          case measure => simp [intOf]; omega
        · have hha := ka.high hz1
          have hhb := kb.high hz2
          have hS1 : InS S wr := HS.out.on hbw.size
          have cl := fun W (hW : Below wr.heap.size wr W) => lay_any (ha + h) S W a b ha h bl _ _ (Nat.le_refl _) (hS1.on hW.size) (((hI.bel.trans (hW.mono hI.bel.size)).cell HSZ.out).trans HBX.out) (ka.later hW) (kb.later hW) (by omega) (by omega) (by omega)
          rw [← hst] at cl hcz
          have hbx2 : ∀ W, Below wr.heap.size wr W → W.cell? ⟨bl, 0, none⟩ = some (layV bl) := fun W hW => ((hI.bel.trans (hW.mono hI.bel.size)).cell HSZ.out).trans HBX.out
          have HN := hid (fun W (hW : Below wr.heap.size wr W) q (hq : Tr W S q (cat (X.take (k + 1)))) => (show TgI S w1 X (k + 1) q W from ⟨hq, hI.bel.trans (hW.mono hI.bel.size)⟩))
          have CL := hid cl; have HB := hid hbx2; have HCZ := hid hcz; have HS1 := hid hS1
          have HM := hid (show max ha h ≤ 12 from by omega)
          obtain ⟨hm, hhm⟩ : ∃ hm, max ha h = hm := ⟨_, rfl⟩
          rw [hhm] at CL HM
          obtain ⟨XL, hXL⟩ : ∃ XL, cat (X.take (k + 1)) = XL := ⟨_, rfl⟩
          rw [hXL] at CL HCZ HN
          clear kh hI hst hcz hx hkl hbw hz1 hz2 kb ka cl hbx2 hS1 hhm hXL hha hhb
          go_wp2_with fail
          refine KH.out.mono ?_; rintro e w2 ⟨rfl, hb2⟩
          have q1 := HB.out w2 hb2
          have HB2 := hid hb2
          clear hb2
          go_wp2_with fail
          refine (CL.out w2 HB2.out).mono ?_; rintro e w3 ⟨r, c3, K3, rfl, ho, x1, x2, hf, hk3, hb3⟩
          have hB3 := HB2.out.trans (hb3.mono HB2.out.size)
          have hJ : JoinP w3 (Off S w3) r 0 K3.length hm K3 := ⟨rfl, (own_prow ho (by omega)).2.2, fun k hk => (hk3 k hk).lessS, fun i hi => hi.1, by have := HM.out; omega, by rw [hf]; have := HCZ.out; omega⟩
          have cu := up_few (c := c3) (HS1.out.on hB3.size) hJ x1 (by omega)
          rw [hf] at cu
          have CU := hid cu; have HB3 := hid hB3
          clear ho hf hk3 hb3 hB3 hJ cu
          go_wp2_with fail
          refine CU.out.mono ?_; rintro e w4 ⟨q, rfl, ht4, hb4⟩
          have HN4 := hid (HN.out w4 (HB3.out.trans (hb4.mono HB3.out.size)) q ht4)
          clear ht4 hb4
          go_wp2
          go_roundw
          case rel => exact ⟨k + 1, q, by omega, rfl, by go_num, HN4.out⟩
          case measure => simp [intOf]; omega
    · obtain rfl : k = n := by omega
      have e : X.take k = X := List.take_of_length_le (by rw [HN.out]; exact Nat.le_refl _)
      have HQ := hid (show RetTr S w (cat X) (.returned (.pointer p)) wr from ⟨p, rfl, by have := hI.t; rwa [e] at this, HW.out.trans (hI.bel.mono HW.out.size)⟩)
      clear hI e
      go_wp2
      go_ret
      exact HQ.out
end Go.Proofs.YtfiobemeogaaiaaGreat
namespace Go.Proofs.YtfiobemeogaaiaaGreat
open Lib (hid)
open Go.RowKit
set_option linter.unusedVariables false
set_option linter.unusedSimpArgs false
structure Pick (S : List Nat) (F : FuncId) (caps : Array Value) (Inv : Int → World → Prop) (Good : Int → List Kid → Nat → Int → Prop) : Prop where
  on : ∀ q w w', Inv q w → Below w.heap.size w w' → Inv q w'
  call : ∀ q w g c h (K : List Kid), g ∉ S → Inv q w → InS S w → JoinP w (Off S w) g 0 K.length h K → 2 ≤ K.length → K.length ≤ 8 → Calls Tryz.prog F (#[.slice (some ⟨g, 0, none⟩) K.length c] ++ caps) w fun e w' =>
    ∃ (i : Nat) (q1 : Int), e = .returned (.int .i64 i) ∧ i < K.length ∧ Good q K i q1 ∧ Inv q1 w' ∧ Apart S w w'
structure Way (Good : Int → List Kid → Nat → Int → Prop) (Rel : Int → List ByteArray → List ByteArray → ByteArray → List ByteArray → Int → Prop) : Prop where
  base : ∀ q s, fitsP s → Rel q [s] [] s [] q
  step : ∀ q K i q1 A s C q', (h : i < K.length) → Good q K i q1 → Rel q1 K[i].L A s C q' → Rel q (flat K) (flat (K.take i) ++ A) s (C ++ flat (K.drop (i + 1))) q'
def RetAr (S : List Nat) (Inv : Int → World → Prop) (Rel : Int → List ByteArray → List ByteArray → ByteArray → List ByteArray → Int → Prop) (w : World) (q : Int) (L : List ByteArray) (e : Ending) (w' : World) : Prop :=
  ∃ p1 A s p2 C q', e = .returned (.tuple #[.pointer p1, .string s, .pointer p2]) ∧ Tr w' S p1 A ∧ Tr w' S p2 C ∧ L = A ++ ([s] ++ C) ∧ Rel q L A s C q' ∧ Inv q' w' ∧ Apart S w w'
theorem ptr2_row (w : World) (p q : Option Addr) : PRow (w.alloc (.cells #[.pointer p, .pointer q] 71)) w.heap.size 0 [.pointer p, .pointer q] :=
  ⟨by simp, fun j hj => by
    match j, hj with
    | 0, _ => simp [World.cell?_alloc_new]
    | 1, _ => simp [World.cell?_alloc_new]⟩
theorem ptr3_row (w : World) (p q r : Option Addr) : PRow (w.alloc (.cells #[.pointer p, .pointer q, .pointer r] 71)) w.heap.size 0 [.pointer p, .pointer q, .pointer r] :=
  ⟨by simp, fun j hj => by
    match j, hj with
    | 0, _ => simp [World.cell?_alloc_new]
    | 1, _ => simp [World.cell?_alloc_new]
    | 2, _ => simp [World.cell?_alloc_new]⟩
theorem together_two {S : List Nat} {w : World} {p q : Option Addr} {L R : List ByteArray} (hS : InS S w) (t1 : Tr w S p L) (t2 : Tr w S q R) (hz : (wholeL (L ++ R)).size ≤ 6000) :
    Calls Tryz.prog 171 #[.slice (some ⟨w.heap.size, 0, none⟩) (2 : Nat) (2 : Nat)] (w.alloc (.cells #[.pointer p, .pointer q] 71)) (RetTr S w (L ++ R)) := by
  have hb : Below w.heap.size w (w.alloc (.cells #[.pointer p, .pointer q] 71)) := (Below.refl _ _).alloc (Nat.le_refl _) _
  have hc : cat [(p, L), (q, R)] = L ++ R := by simp [cat]
  refine (together_any (X := [(p, L), (q, R)]) (n := 2) (c := 2) (hS.on hb.size) (ptr2_row w p q) rfl (by decide) (fun x hx => ?_) (by rw [hc]; exact hz)).mono fun e w' h => by rw [hc] at h; exact h.from hb
  simp at hx
  rcases hx with rfl | rfl
  · exact t1.later hb
  · exact t2.later hb
theorem together_three {S : List Nat} {w : World} {p q r : Option Addr} {L R X : List ByteArray} (hS : InS S w) (t1 : Tr w S p L) (t2 : Tr w S q R) (t3 : Tr w S r X) (hz : (wholeL (L ++ (R ++ X))).size ≤ 6000) :
    Calls Tryz.prog 171 #[.slice (some ⟨w.heap.size, 0, none⟩) (3 : Nat) (3 : Nat)] (w.alloc (.cells #[.pointer p, .pointer q, .pointer r] 71)) (RetTr S w (L ++ (R ++ X))) := by
  have hb : Below w.heap.size w (w.alloc (.cells #[.pointer p, .pointer q, .pointer r] 71)) := (Below.refl _ _).alloc (Nat.le_refl _) _
  have hc : cat [(p, L), (q, R), (r, X)] = L ++ (R ++ X) := by simp [cat]
  refine (together_any (X := [(p, L), (q, R), (r, X)]) (n := 3) (c := 3) (hS.on hb.size) (ptr3_row w p q r) rfl (by decide) (fun x hx => ?_) (by rw [hc]; exact hz)).mono fun e w' h => by rw [hc] at h; exact h.from hb
  simp at hx
  rcases hx with rfl | rfl | rfl
  · exact t1.later hb
  · exact t2.later hb
  · exact t3.later hb
theorem up_side {S : List Nat} {w : World} {g o n c h : Nat} {K : List Kid} (hS : InS S w) (p : JoinP w (Off S w) g o n h K) (h8 : n ≤ 8) :
    Calls Tryz.prog 176 #[.slice (some ⟨g, o, none⟩) n c] w (RetTr S w (flat K)) := by
  rcases Nat.eq_zero_or_pos n with rfl | h0
  · obtain rfl : K = [] := List.eq_nil_of_length_eq_zero p.len
    exact (up_zero w).mono fun e w' ⟨he, hb⟩ => ⟨none, he, .inl ⟨rfl, rfl⟩, hb⟩
  · exact up_few hS p h0 h8
theorem JoinP.apartS {S : List Nat} {w w' : World} {g o n h : Nat} {K : List Kid} (p : JoinP w (Off S w) g o n h K) (hg : g ∉ S) (ha : Apart S w w') : JoinP w' (Off S w') g o n h K :=
  ⟨p.len, p.row.keep ha.size (ha.block g p.row.1 hg), fun k hk => (p.kids k hk).apartS ha, fun i hi => hi.1, p.hh, p.size⟩
theorem JoinP.later {S : List Nat} {w w' : World} {g o n h : Nat} {K : List Kid} (p : JoinP w (Off S w) g o n h K) (hb : Below w.heap.size w w') : JoinP w' (Off S w') g o n h K :=
  ⟨p.len, p.row.on hb, fun k hk => (p.kids k hk).later hb, fun i hi => hi.1, p.hh, p.size⟩
theorem JoinP.none {S : List Nat} {w : World} {g o n h : Nat} {K : List Kid} (p : JoinP w (Off S w) g o n h K) (hn : n = 0) (o' : Nat) : JoinP w (Off S w) g o' n h K := by
  subst hn
  obtain rfl : K = [] := List.eq_nil_of_length_eq_zero p.len
  exact ⟨rfl, ⟨p.row.1, fun j hj => absurd hj (by simp [ptrs])⟩, p.kids, p.lt, p.hh, p.size⟩
theorem whole_szs (A B : List ByteArray) : (wholeL (A ++ B)).size = (wholeL A).size + (wholeL B).size := by rw [whole_app, ByteArray.size_append]
theorem flat_pick {K : List Kid} {i : Nat} (h : i < K.length) : flat K = flat (K.take i) ++ (K[i].L ++ flat (K.drop (i + 1))) := by
  rw [← flat_one, ← flat_app, ← flat_app, List.singleton_append, ← List.drop_eq_getElem_cons, List.take_append_drop]
set_option maxRecDepth 100000 in
set_option maxHeartbeats 800000 in
theorem around_nil (f : Value) (w : World) : Calls Tryz.prog 172 #[.pointer none, f] w fun e w' => e = .returned (.tuple #[.pointer none, .string ⟨#[]⟩, .pointer none]) ∧ Below w.heap.size w w' := by
  have cb := below_nil w
  have cf := first_nil
  have CB := hid cb; have CF := hid cf
  clear cb cf
  go_enter Tryz.func172, Tryz.ntmps172
  go_wp2_with fail
  refine CB.out.mono ?_; rintro e w1 ⟨rfl, hb1⟩
  have HB1 := hid hb1
  clear hb1
  go_wp2_with fail
  refine (onward HB1.out (CF.out w1)).mono ?_; rintro e w2 ⟨rfl, hb2⟩
  have HB2 := hid hb2
  clear hb2
  go_wp2
  refine bodyPost_ret (v := .tuple #[.pointer none, .string ⟨#[]⟩, .pointer none]) (by simp [results, Tryz.results172, go_sem]) rfl ?_
  exact ⟨rfl, HB2.out⟩
def AroundC1 (S : List Nat)  (Inv : Int → World → Prop) (Rel : Int → List ByteArray → List ByteArray → ByteArray → List ByteArray → Int → Prop) (h : Nat) : Prop := ∀ (w : World) (b : Nat) (L : List ByteArray) (q : Int), KnotW w (Off S w) h b L → InS S w → Inv q w → (wholeL L).size ≤ 6000 →
  Calls Tryz.prog 172 #[pv b, (.func (.func 173) #[] #[])] w (RetAr S Inv Rel w q L)
set_option maxRecDepth 100000 in
set_option maxHeartbeats 800000 in
theorem ar1_zero {S : List Nat}  {Inv : Int → World → Prop} {Good : Int → List Kid → Nat → Int → Prop} {Rel : Int → List ByteArray → List ByteArray → ByteArray → List ByteArray → Int → Prop} (hp : Pick S 173 #[] Inv Good) (hy : Way Good Rel) : AroundC1 S  Inv Rel 0 := by
  intro w b L q k hS hq hz
  have cb := below_leaf k
  obtain ⟨-, s, rfl, hf, hB⟩ := k
  have cf := fun W (hW : Below w.heap.size w W) => first_blk (hB.onto hW)
  have HR := hid (fun W (hW : Below w.heap.size w W) => (show RetAr S Inv Rel w q [s] (.returned (.tuple #[.pointer none, .string s, .pointer none])) W from ⟨none, [], s, none, [], q, rfl, .inl ⟨rfl, rfl⟩, .inl ⟨rfl, rfl⟩, rfl, hy.base q s hf, hp.on q w W hq hW, .of_below hW⟩))
  have CB := hid cb; have CF := hid cf
  clear cb cf hB hf hq hS hz hp hy
  go_enter Tryz.func172, Tryz.ntmps172
  go_wp2_with fail
  refine CB.out.mono ?_; rintro e w1 ⟨rfl, hb1⟩
  have HB1 := hid hb1
  clear hb1
  go_wp2_with fail
  refine (onward HB1.out (CF.out w1 HB1.out)).mono ?_; rintro e w2 ⟨rfl, hb2⟩
  have HB2 := hid hb2
  clear hb2
  go_wp2
  refine bodyPost_ret (v := .tuple #[.pointer none, .string s, .pointer none]) (by simp [results, Tryz.results172, go_sem]) rfl ?_
  exact HR.out w2 HB2.out
set_option maxRecDepth 100000 in
set_option maxHeartbeats 1600000 in
theorem ar1_succ {S : List Nat}  {Inv : Int → World → Prop} {Good : Int → List Kid → Nat → Int → Prop} {Rel : Int → List ByteArray → List ByteArray → ByteArray → List ByteArray → Int → Prop} (hp : Pick S 173 #[] Inv Good) (hy : Way Good Rel) {h : Nat} (hh : h ≤ 20) (ih : AroundC1 S  Inv Rel h) : AroundC1 S  Inv Rel (h + 1) := by
  intro w b L q k hS hq hz
  obtain ⟨M, g, c, hM, rfl, -⟩ := k.node
  have cb := below_node hM (by omega)
  have h2 := hM.two
  have h8 := hM.eight
  obtain ⟨n, hn⟩ : ∃ n, M.length = n := ⟨_, rfl⟩
  rw [hn] at h2 h8
  have hj : ∀ (w1 : World) (g' : Nat), Below w.heap.size w w1 → PRow w1 g' 0 (ptrs M) → JoinP w1 (Off S w1) g' 0 n h M := fun w1 g' hb hr => ⟨hn, hr, fun k hk => (hM.kids k hk).later hb, fun i hi => hi.1, by omega, by omega⟩
  have hcall : ∀ (w1 : World) (g' c' : Nat), g' ∉ S → Below w.heap.size w w1 → PRow w1 g' 0 (ptrs M) → Calls Tryz.prog 173 #[.slice (some ⟨g', 0, none⟩) n c'] w1 fun e w' => ∃ (i : Nat) (q1 : Int), e = .returned (.int .i64 i) ∧ i < n ∧ Good q M i q1 ∧ Inv q1 w' ∧ Apart S w1 w' := fun w1 g' c' hgS hb hr => by
    have := hp.call q w1 g' c' h M hgS (hp.on q w w1 hq hb) (hS.on hb.size) (by rw [hn]; exact hj w1 g' hb hr) (by omega) (by omega)
    rw [hn] at this
    exact this
  have CB := hid cb; have CC := hid hcall; have HJ := hid hj; have HN := hid hn; have HS := hid hS; have HY := hid hy; have HI := hid ih; have HZ := hid hz; have HPO := hid hp.on
  clear cb hcall hj hn hS hy ih hz hp hM k hq
  go_enter Tryz.func172, Tryz.ntmps172
  go_wp2_with fail
  refine CB.out.mono ?_; rintro e w1 ⟨v1, rfl, ho1, hb1⟩
  obtain ⟨g', c', rfl, hc', hg', hr1⟩ := own_row ho1 (by rw [HN.out]; omega)
  rw [HN.out] at hc' ⊢
  have HGS := hid (show g' ∉ S from fun hm => by have := HS.out g' hm; omega)
  have cw := CC.out w1 g' c' HGS.out hb1 hr1
  have CW := hid cw
  have HJ1 := hid (HJ.out w1 g' hb1 hr1); have HB1 := hid hb1
  clear ho1 hb1 hg' hr1 cw
  have b0 : ((n : Int) == 0) = false := by simpa using (show ¬ (n : Int) = 0 by omega)
  have b0' : (n == 0) = false := by simpa using (show ¬ n = 0 by omega)
  go_wp2_with fail
  refine CW.out.mono ?_; rintro e w2 ⟨i, q1, rfl, hin, hgood, hq1, ha2⟩
  have hj2 := HJ1.out.apartS HGS.out ha2
  have q0 := hj2.cell hin
  rw [Nat.zero_add] at q0
  have hil : i < M.length := by rw [HN.out]; exact hin
  have hS2 : InS S w2 := HS.out.on (Nat.le_trans HB1.out.size ha2.size)
  have e0 := flat_pick hil
  have hxz : (wholeL M[i].L).size ≤ 6000 := by
    have := HZ.out
    rw [e0, whole_app, whole_app, ByteArray.size_append, ByteArray.size_append] at this
    omega
  have ci := HI.out w2 M[i].b M[i].L q1 (hj2.kids _ (List.getElem_mem hil)) hS2 hq1 hxz
  have HST := hid (fun A s C q' => HY.out.step q M i q1 A s C q' hil hgood)
  have HXL := hid e0
  obtain ⟨xb, hxb⟩ : ∃ xb, M[i].b = xb := ⟨_, rfl⟩
  obtain ⟨xL, hxL⟩ : ∃ xL, M[i].L = xL := ⟨_, rfl⟩
  rw [hxb] at q0 ci
  rw [hxL] at ci HST HXL
  have CI := hid ci; have HJ2 := hid hj2; have HA2 := hid ((Apart.of_below HB1.out : Apart S w w1).trans ha2 (fun x hx => .inl hx)); have HS2 := hid hS2
  have b1 : (0 : Int) ≤ (i : Int) := by omega
  have b2 : (i : Int) < (n : Int) := by omega
  clear ci hj2 ha2 hgood hq1 hxz hil hxb hxL e0 hS2
  go_wp2_with fail
  refine CI.out.mono ?_; rintro e w3 ⟨p1, A, s, p2, C, q', rfl, t1, t2, hL, hrel, hq3, ha3⟩
  have hj3 := HJ2.out.apartS HGS.out ha3
  have hsA : InS S w3 := HS2.out.on ha3.size
  have hall : flat M = (flat (M.take i) ++ A) ++ ([s] ++ (C ++ flat (M.drop (i + 1)))) := by rw [HXL.out, hL]; simp only [List.append_assoc]
  have hz1 : (wholeL (flat (M.take i) ++ A)).size ≤ 6000 := by
    have := HZ.out
    rw [hall] at this
    simp only [whole_szs] at this ⊢
    omega
  have hz2 : (wholeL (C ++ flat (M.drop (i + 1)))).size ≤ 6000 := by
    have := HZ.out
    rw [hall] at this
    simp only [whole_szs] at this ⊢
    omega
  have ca : ∀ W, Below w3.heap.size w3 W → Calls Tryz.prog 176 #[.slice (some ⟨g', 0, none⟩) i c'] W (RetTr S W (flat (M.take i))) := fun W hW => up_side (hsA.on hW.size) ((hj3.later hW).head (by omega)) (by omega)
  have cc : ∀ W o (len cap : Nat), Below w3.heap.size w3 W → len = n - (i + 1) → (o = i + 1 ∨ n = i + 1) → Calls Tryz.prog 176 #[.slice (some ⟨g', o, none⟩) len cap] W (RetTr S W (flat (M.drop (i + 1)))) := fun W o len cap hW hlen ho => by
    subst hlen
    have := (hj3.later hW).tail (i + 1)
    rw [Nat.zero_add] at this
    rcases ho with rfl | ho
    · exact up_side (hsA.on hW.size) this (by omega)
    · exact up_side (hsA.on hW.size) (this.none (by omega) o) (by omega)
  have ct1 : ∀ W p, Below w3.heap.size w3 W → Tr W S p (flat (M.take i)) → Calls Tryz.prog 171 #[.slice (some ⟨W.heap.size, 0, none⟩) (2 : Nat) (2 : Nat)] (W.alloc (.cells #[.pointer p, .pointer p1] 71)) (RetTr S W (flat (M.take i) ++ A)) := fun W p hW hp =>
    together_two (hsA.on hW.size) hp (t1.later hW) hz1
  have ct2 : ∀ W p, Below w3.heap.size w3 W → Tr W S p (flat (M.drop (i + 1))) → Calls Tryz.prog 171 #[.slice (some ⟨W.heap.size, 0, none⟩) (2 : Nat) (2 : Nat)] (W.alloc (.cells #[.pointer p2, .pointer p] 71)) (RetTr S W (C ++ flat (M.drop (i + 1)))) := fun W p hW hp =>
    together_two (hsA.on hW.size) (t2.later hW) hp hz2
  have HEND := hid (fun W (hW : Below w3.heap.size w3 W) u v (hu : Tr W S u (flat (M.take i) ++ A)) (hv : Tr W S v (C ++ flat (M.drop (i + 1)))) => (show RetAr S Inv Rel w q (flat M) (.returned (.tuple #[.pointer u, .string s, .pointer v])) W from ⟨u, _, s, v, _, q', rfl, hu, hv, hall, HST.out A s C q' hrel, HPO.out q' w3 W hq3 hW, (HA2.out.trans ha3 (fun x hx => .inl hx)).trans (Apart.of_below hW : Apart S w3 W) (fun x hx => .inl hx)⟩))
  have CA := hid ca; have CD := hid cc; have T1 := hid ct1; have T2 := hid ct2
  have b3 : (i : Int) ≤ (c' : Int) := by omega
  have b3' : i ≤ c' := by omega
  have b4 : (i : Int) + 1 ≤ (n : Int) := by omega
  have b5 : (n : Int) ≤ (c' : Int) := by omega
  have b6 : IntKind.i64.wrap ((i : Int) + 1) = (i : Int) + 1 := IntWalk.i64_in _ (by omega)
  have b7 : ((i : Int) + 1).toNat = i + 1 := by omega
  have b8 : (0 : Int) ≤ (i : Int) + 1 := by omega
  clear ca cc ct1 ct2 hall hz1 hz2 hsA hj3 t1 t2 hL hrel hq3 ha3
  go_wp2_with fail
  by_cases hcz : c' = i + 1
  · subst hcz
    have b9 : (i : Int) ≤ (i : Int) + 1 := by omega
    refine wp_region_held_drew (S := (fun w' : World => Below w3.heap.size w3 w')) (by kernel_rfl) (Below.refl _ _).drew (fun hHeld => ?_)
    refine sqt 0 ?_
    try simp only [Act.put, sqp]
    refine sqt 1 ?_
    try simp only [Act.put, sqp]
    refine sqt 2 ?_
    try simp only [Act.put, sqp]
    refine sqt 4 ?_
    try simp only [Act.put, sqp]
    refine sqt 7 ?_
    try simp only [Act.put, sqp]
    refine sqt 8 ?_
    try simp only [Act.put, sqp]
    refine sqt 9 ?_
    try simp only [Act.put, sqp]
    refine sqt 10 ?_
    try simp only [Act.put, sqp]
    refine sqt 11 ?_
    try simp only [Act.put, sqp]
    refine sqt 12 ?_
    try simp only [Act.put, sqp]
    refine wpAnyH_ready (rs := [3]) (by kernel_rfl) (by simp) ?_
    refine AllReadyH.cons (by simp only [sqg]; rfl) (fun K hK => ?_) AllReadyH.nil
    go_simp
    (go_at_call 176; refine (CA.out _ hHeld).mono ?_; rintro e w4 ⟨u1, rfl, hu1, hb4⟩; have HB4 := hid (hHeld.trans (hb4.mono hHeld.size)); have HU1 := hid hu1; clear hu1 hb4)
    try go_wp2_with fail
    refine hK.out _ _ ?_ (fun hHeld => ?_)
    · exact HB4.out
    clear hK K
    try simp only [Act.put, sqp]
    refine wpAnyH_ready (rs := [5]) (by kernel_rfl) (by simp) ?_
    refine AllReadyH.cons (by simp only [sqg]; rfl) (fun K hK => ?_) AllReadyH.nil
    go_simp
    have HB5 := hid (HB4.out.alloc HB4.out.size (.cells #[.pointer u1, .pointer p1] 71))
    try go_wp2_with fail
    refine hK.out _ _ ?_ (fun hHeld => ?_)
    · exact HB5.out
    clear hK K
    try simp only [Act.put, sqp]
    refine wpAnyH_ready (rs := [6]) (by kernel_rfl) (by simp) ?_
    refine AllReadyH.cons (by simp only [sqg]; rfl) (fun K hK => ?_) AllReadyH.nil
    go_simp
    (go_at_call 171; refine (T1.out w4 u1 HB4.out HU1.out).mono ?_; rintro e w5 ⟨u2, rfl, hu2, hb5⟩; have HB6 := hid (HB4.out.trans (hb5.mono HB4.out.size)); have HU2 := hid hu2; clear hu2 hb5)
    try go_wp2_with fail
    refine hK.out _ _ ?_ (fun hHeld => ?_)
    · exact HB6.out
    clear hK K
    try simp only [Act.put, sqp]
    refine wpAnyH_ready (rs := [13]) (by kernel_rfl) (by simp) ?_
    refine AllReadyH.cons (by simp only [sqg]; rfl) (fun K hK => ?_) AllReadyH.nil
    go_simp
    (go_at_call 176; refine (CD.out _ 0 0 _ HB6.out (by omega) (.inr (by omega))).mono ?_; rintro e w6 ⟨u3, rfl, hu3, hb6⟩; have HB7 := hid (HB6.out.trans (hb6.mono HB6.out.size)); have HX6 := hid hb6; have HU3 := hid hu3; clear hu3 hb6)
    try go_wp2_with fail
    refine hK.out _ _ ?_ (fun hHeld => ?_)
    · exact HB7.out
    clear hK K
    try simp only [Act.put, sqp]
    refine wpAnyH_ready (rs := [14]) (by kernel_rfl) (by simp) ?_
    refine AllReadyH.cons (by simp only [sqg]; rfl) (fun K hK => ?_) AllReadyH.nil
    go_simp
    have HB8 := hid (HB7.out.alloc HB7.out.size (.cells #[.pointer p2, .pointer u3] 71))
    try go_wp2_with fail
    refine hK.out _ _ ?_ (fun hHeld => ?_)
    · exact HB8.out
    clear hK K
    try simp only [Act.put, sqp]
    refine wpAnyH_ready (rs := [15]) (by kernel_rfl) (by simp) ?_
    refine AllReadyH.cons (by simp only [sqg]; rfl) (fun K hK => ?_) AllReadyH.nil
    go_simp
    (go_at_call 171; refine (T2.out w6 u3 HB7.out HU3.out).mono ?_; rintro e w7 ⟨u4, rfl, hu4, hb7⟩; have HB9 := hid (HB7.out.trans (hb7.mono HB7.out.size)); have HX7 := hid hb7; have HU4 := hid hu4; clear hu4 hb7)
    try go_wp2_with fail
    refine hK.out _ _ ?_ (fun hHeld => ?_)
    · exact HB9.out
    clear hK K
    try simp only [Act.put, sqp]
    refine sqt 16 ?_
    try simp only [Act.put, sqp]
    refine sqt 17 ?_
    try simp only [Act.put, sqp]
    refine sqt 18 ?_
    try simp only [Act.put, sqp]
    refine wpAnyH_done (by kernel_rfl) ?_ _
    go_wp2_with fail
    refine bodyPost_ret (v := .tuple #[.pointer u2, .string s, .pointer u4]) (by simp [results, Tryz.results172, go_sem]) rfl ?_
    exact HEND.out w7 HB9.out u2 u4 ((HU2.out.later HX6.out).later HX7.out) HU4.out
  ·
    refine wp_region_held_drew (S := (fun w' : World => Below w3.heap.size w3 w')) (by kernel_rfl) (Below.refl _ _).drew (fun hHeld => ?_)
    refine sqt 0 ?_
    try simp only [Act.put, sqp]
    refine sqt 1 ?_
    try simp only [Act.put, sqp]
    refine sqt 2 ?_
    try simp only [Act.put, sqp]
    refine sqt 4 ?_
    try simp only [Act.put, sqp]
    refine sqt 7 ?_
    try simp only [Act.put, sqp]
    refine sqt 8 ?_
    try simp only [Act.put, sqp]
    refine sqt 9 ?_
    try simp only [Act.put, sqp]
    refine sqt 10 ?_
    try simp only [Act.put, sqp]
    refine sqt 11 ?_
    try simp only [Act.put, sqp]
    refine sqt 12 ?_
    try simp only [Act.put, sqp]
    refine wpAnyH_ready (rs := [3]) (by kernel_rfl) (by simp) ?_
    refine AllReadyH.cons (by simp only [sqg]; rfl) (fun K hK => ?_) AllReadyH.nil
    go_simp
    (go_at_call 176; refine (CA.out _ hHeld).mono ?_; rintro e w4 ⟨u1, rfl, hu1, hb4⟩; have HB4 := hid (hHeld.trans (hb4.mono hHeld.size)); have HU1 := hid hu1; clear hu1 hb4)
    try go_wp2_with fail
    refine hK.out _ _ ?_ (fun hHeld => ?_)
    · exact HB4.out
    clear hK K
    try simp only [Act.put, sqp]
    refine wpAnyH_ready (rs := [5]) (by kernel_rfl) (by simp) ?_
    refine AllReadyH.cons (by simp only [sqg]; rfl) (fun K hK => ?_) AllReadyH.nil
    go_simp
    have HB5 := hid (HB4.out.alloc HB4.out.size (.cells #[.pointer u1, .pointer p1] 71))
    try go_wp2_with fail
    refine hK.out _ _ ?_ (fun hHeld => ?_)
    · exact HB5.out
    clear hK K
    try simp only [Act.put, sqp]
    refine wpAnyH_ready (rs := [6]) (by kernel_rfl) (by simp) ?_
    refine AllReadyH.cons (by simp only [sqg]; rfl) (fun K hK => ?_) AllReadyH.nil
    go_simp
    (go_at_call 171; refine (T1.out w4 u1 HB4.out HU1.out).mono ?_; rintro e w5 ⟨u2, rfl, hu2, hb5⟩; have HB6 := hid (HB4.out.trans (hb5.mono HB4.out.size)); have HU2 := hid hu2; clear hu2 hb5)
    try go_wp2_with fail
    refine hK.out _ _ ?_ (fun hHeld => ?_)
    · exact HB6.out
    clear hK K
    try simp only [Act.put, sqp]
    refine wpAnyH_ready (rs := [13]) (by kernel_rfl) (by simp) ?_
    refine AllReadyH.cons (by simp only [sqg]; rfl) (fun K hK => ?_) AllReadyH.nil
    go_simp
    (go_at_call 176; refine (CD.out _ (i + 1) (n - (i + 1)) _ HB6.out (by omega) (.inl rfl)).mono ?_; rintro e w6 ⟨u3, rfl, hu3, hb6⟩; have HB7 := hid (HB6.out.trans (hb6.mono HB6.out.size)); have HX6 := hid hb6; have HU3 := hid hu3; clear hu3 hb6)
    try go_wp2_with fail
    refine hK.out _ _ ?_ (fun hHeld => ?_)
    · exact HB7.out
    clear hK K
    try simp only [Act.put, sqp]
    refine wpAnyH_ready (rs := [14]) (by kernel_rfl) (by simp) ?_
    refine AllReadyH.cons (by simp only [sqg]; rfl) (fun K hK => ?_) AllReadyH.nil
    go_simp
    have HB8 := hid (HB7.out.alloc HB7.out.size (.cells #[.pointer p2, .pointer u3] 71))
    try go_wp2_with fail
    refine hK.out _ _ ?_ (fun hHeld => ?_)
    · exact HB8.out
    clear hK K
    try simp only [Act.put, sqp]
    refine wpAnyH_ready (rs := [15]) (by kernel_rfl) (by simp) ?_
    refine AllReadyH.cons (by simp only [sqg]; rfl) (fun K hK => ?_) AllReadyH.nil
    go_simp
    (go_at_call 171; refine (T2.out w6 u3 HB7.out HU3.out).mono ?_; rintro e w7 ⟨u4, rfl, hu4, hb7⟩; have HB9 := hid (HB7.out.trans (hb7.mono HB7.out.size)); have HX7 := hid hb7; have HU4 := hid hu4; clear hu4 hb7)
    try go_wp2_with fail
    refine hK.out _ _ ?_ (fun hHeld => ?_)
    · exact HB9.out
    clear hK K
    try simp only [Act.put, sqp]
    refine sqt 16 ?_
    try simp only [Act.put, sqp]
    refine sqt 17 ?_
    try simp only [Act.put, sqp]
    refine sqt 18 ?_
    try simp only [Act.put, sqp]
    refine wpAnyH_done (by kernel_rfl) ?_ _
    go_wp2_with fail
    refine bodyPost_ret (v := .tuple #[.pointer u2, .string s, .pointer u4]) (by simp [results, Tryz.results172, go_sem]) rfl ?_
    exact HEND.out w7 HB9.out u2 u4 ((HU2.out.later HX6.out).later HX7.out) HU4.out
theorem around1_any {S : List Nat}  {Inv : Int → World → Prop} {Good : Int → List Kid → Nat → Int → Prop} {Rel : Int → List ByteArray → List ByteArray → ByteArray → List ByteArray → Int → Prop} (hp : Pick S 173 #[] Inv Good) (hy : Way Good Rel) (h : Nat) (hh : h ≤ 20) : AroundC1 S  Inv Rel h := by
  induction h with
  | zero => exact ar1_zero hp hy
  | succ h ih => exact ar1_succ hp hy (by omega) (ih (by omega))
def AroundC2 (S : List Nat)  (Inv : Int → World → Prop) (Rel : Int → List ByteArray → List ByteArray → ByteArray → List ByteArray → Int → Prop) (h : Nat) : Prop := ∀ (w : World) (b : Nat) (L : List ByteArray) (q : Int), KnotW w (Off S w) h b L → InS S w → Inv q w → (wholeL L).size ≤ 6000 →
  Calls Tryz.prog 172 #[pv b, (.func (.func 174) #[] #[])] w (RetAr S Inv Rel w q L)
set_option maxRecDepth 100000 in
set_option maxHeartbeats 800000 in
theorem ar2_zero {S : List Nat}  {Inv : Int → World → Prop} {Good : Int → List Kid → Nat → Int → Prop} {Rel : Int → List ByteArray → List ByteArray → ByteArray → List ByteArray → Int → Prop} (hp : Pick S 174 #[] Inv Good) (hy : Way Good Rel) : AroundC2 S  Inv Rel 0 := by
  intro w b L q k hS hq hz
  have cb := below_leaf k
  obtain ⟨-, s, rfl, hf, hB⟩ := k
  have cf := fun W (hW : Below w.heap.size w W) => first_blk (hB.onto hW)
  have HR := hid (fun W (hW : Below w.heap.size w W) => (show RetAr S Inv Rel w q [s] (.returned (.tuple #[.pointer none, .string s, .pointer none])) W from ⟨none, [], s, none, [], q, rfl, .inl ⟨rfl, rfl⟩, .inl ⟨rfl, rfl⟩, rfl, hy.base q s hf, hp.on q w W hq hW, .of_below hW⟩))
  have CB := hid cb; have CF := hid cf
  clear cb cf hB hf hq hS hz hp hy
  go_enter Tryz.func172, Tryz.ntmps172
  go_wp2_with fail
  refine CB.out.mono ?_; rintro e w1 ⟨rfl, hb1⟩
  have HB1 := hid hb1
  clear hb1
  go_wp2_with fail
  refine (onward HB1.out (CF.out w1 HB1.out)).mono ?_; rintro e w2 ⟨rfl, hb2⟩
  have HB2 := hid hb2
  clear hb2
  go_wp2
  refine bodyPost_ret (v := .tuple #[.pointer none, .string s, .pointer none]) (by simp [results, Tryz.results172, go_sem]) rfl ?_
  exact HR.out w2 HB2.out
set_option maxRecDepth 100000 in
set_option maxHeartbeats 1600000 in
theorem ar2_succ {S : List Nat}  {Inv : Int → World → Prop} {Good : Int → List Kid → Nat → Int → Prop} {Rel : Int → List ByteArray → List ByteArray → ByteArray → List ByteArray → Int → Prop} (hp : Pick S 174 #[] Inv Good) (hy : Way Good Rel) {h : Nat} (hh : h ≤ 20) (ih : AroundC2 S  Inv Rel h) : AroundC2 S  Inv Rel (h + 1) := by
  intro w b L q k hS hq hz
  obtain ⟨M, g, c, hM, rfl, -⟩ := k.node
  have cb := below_node hM (by omega)
  have h2 := hM.two
  have h8 := hM.eight
  obtain ⟨n, hn⟩ : ∃ n, M.length = n := ⟨_, rfl⟩
  rw [hn] at h2 h8
  have hj : ∀ (w1 : World) (g' : Nat), Below w.heap.size w w1 → PRow w1 g' 0 (ptrs M) → JoinP w1 (Off S w1) g' 0 n h M := fun w1 g' hb hr => ⟨hn, hr, fun k hk => (hM.kids k hk).later hb, fun i hi => hi.1, by omega, by omega⟩
  have hcall : ∀ (w1 : World) (g' c' : Nat), g' ∉ S → Below w.heap.size w w1 → PRow w1 g' 0 (ptrs M) → Calls Tryz.prog 174 #[.slice (some ⟨g', 0, none⟩) n c'] w1 fun e w' => ∃ (i : Nat) (q1 : Int), e = .returned (.int .i64 i) ∧ i < n ∧ Good q M i q1 ∧ Inv q1 w' ∧ Apart S w1 w' := fun w1 g' c' hgS hb hr => by
    have := hp.call q w1 g' c' h M hgS (hp.on q w w1 hq hb) (hS.on hb.size) (by rw [hn]; exact hj w1 g' hb hr) (by omega) (by omega)
    rw [hn] at this
    exact this
  have CB := hid cb; have CC := hid hcall; have HJ := hid hj; have HN := hid hn; have HS := hid hS; have HY := hid hy; have HI := hid ih; have HZ := hid hz; have HPO := hid hp.on
  clear cb hcall hj hn hS hy ih hz hp hM k hq
  go_enter Tryz.func172, Tryz.ntmps172
  go_wp2_with fail
  refine CB.out.mono ?_; rintro e w1 ⟨v1, rfl, ho1, hb1⟩
  obtain ⟨g', c', rfl, hc', hg', hr1⟩ := own_row ho1 (by rw [HN.out]; omega)
  rw [HN.out] at hc' ⊢
  have HGS := hid (show g' ∉ S from fun hm => by have := HS.out g' hm; omega)
  have cw := CC.out w1 g' c' HGS.out hb1 hr1
  have CW := hid cw
  have HJ1 := hid (HJ.out w1 g' hb1 hr1); have HB1 := hid hb1
  clear ho1 hb1 hg' hr1 cw
  have b0 : ((n : Int) == 0) = false := by simpa using (show ¬ (n : Int) = 0 by omega)
  have b0' : (n == 0) = false := by simpa using (show ¬ n = 0 by omega)
  go_wp2_with fail
  refine CW.out.mono ?_; rintro e w2 ⟨i, q1, rfl, hin, hgood, hq1, ha2⟩
  have hj2 := HJ1.out.apartS HGS.out ha2
  have q0 := hj2.cell hin
  rw [Nat.zero_add] at q0
  have hil : i < M.length := by rw [HN.out]; exact hin
  have hS2 : InS S w2 := HS.out.on (Nat.le_trans HB1.out.size ha2.size)
  have e0 := flat_pick hil
  have hxz : (wholeL M[i].L).size ≤ 6000 := by
    have := HZ.out
    rw [e0, whole_app, whole_app, ByteArray.size_append, ByteArray.size_append] at this
    omega
  have ci := HI.out w2 M[i].b M[i].L q1 (hj2.kids _ (List.getElem_mem hil)) hS2 hq1 hxz
  have HST := hid (fun A s C q' => HY.out.step q M i q1 A s C q' hil hgood)
  have HXL := hid e0
  obtain ⟨xb, hxb⟩ : ∃ xb, M[i].b = xb := ⟨_, rfl⟩
  obtain ⟨xL, hxL⟩ : ∃ xL, M[i].L = xL := ⟨_, rfl⟩
  rw [hxb] at q0 ci
  rw [hxL] at ci HST HXL
  have CI := hid ci; have HJ2 := hid hj2; have HA2 := hid ((Apart.of_below HB1.out : Apart S w w1).trans ha2 (fun x hx => .inl hx)); have HS2 := hid hS2
  have b1 : (0 : Int) ≤ (i : Int) := by omega
  have b2 : (i : Int) < (n : Int) := by omega
  clear ci hj2 ha2 hgood hq1 hxz hil hxb hxL e0 hS2
  go_wp2_with fail
  refine CI.out.mono ?_; rintro e w3 ⟨p1, A, s, p2, C, q', rfl, t1, t2, hL, hrel, hq3, ha3⟩
  have hj3 := HJ2.out.apartS HGS.out ha3
  have hsA : InS S w3 := HS2.out.on ha3.size
  have hall : flat M = (flat (M.take i) ++ A) ++ ([s] ++ (C ++ flat (M.drop (i + 1)))) := by rw [HXL.out, hL]; simp only [List.append_assoc]
  have hz1 : (wholeL (flat (M.take i) ++ A)).size ≤ 6000 := by
    have := HZ.out
    rw [hall] at this
    simp only [whole_szs] at this ⊢
    omega
  have hz2 : (wholeL (C ++ flat (M.drop (i + 1)))).size ≤ 6000 := by
    have := HZ.out
    rw [hall] at this
    simp only [whole_szs] at this ⊢
    omega
  have ca : ∀ W, Below w3.heap.size w3 W → Calls Tryz.prog 176 #[.slice (some ⟨g', 0, none⟩) i c'] W (RetTr S W (flat (M.take i))) := fun W hW => up_side (hsA.on hW.size) ((hj3.later hW).head (by omega)) (by omega)
  have cc : ∀ W o (len cap : Nat), Below w3.heap.size w3 W → len = n - (i + 1) → (o = i + 1 ∨ n = i + 1) → Calls Tryz.prog 176 #[.slice (some ⟨g', o, none⟩) len cap] W (RetTr S W (flat (M.drop (i + 1)))) := fun W o len cap hW hlen ho => by
    subst hlen
    have := (hj3.later hW).tail (i + 1)
    rw [Nat.zero_add] at this
    rcases ho with rfl | ho
    · exact up_side (hsA.on hW.size) this (by omega)
    · exact up_side (hsA.on hW.size) (this.none (by omega) o) (by omega)
  have ct1 : ∀ W p, Below w3.heap.size w3 W → Tr W S p (flat (M.take i)) → Calls Tryz.prog 171 #[.slice (some ⟨W.heap.size, 0, none⟩) (2 : Nat) (2 : Nat)] (W.alloc (.cells #[.pointer p, .pointer p1] 71)) (RetTr S W (flat (M.take i) ++ A)) := fun W p hW hp =>
    together_two (hsA.on hW.size) hp (t1.later hW) hz1
  have ct2 : ∀ W p, Below w3.heap.size w3 W → Tr W S p (flat (M.drop (i + 1))) → Calls Tryz.prog 171 #[.slice (some ⟨W.heap.size, 0, none⟩) (2 : Nat) (2 : Nat)] (W.alloc (.cells #[.pointer p2, .pointer p] 71)) (RetTr S W (C ++ flat (M.drop (i + 1)))) := fun W p hW hp =>
    together_two (hsA.on hW.size) (t2.later hW) hp hz2
  have HEND := hid (fun W (hW : Below w3.heap.size w3 W) u v (hu : Tr W S u (flat (M.take i) ++ A)) (hv : Tr W S v (C ++ flat (M.drop (i + 1)))) => (show RetAr S Inv Rel w q (flat M) (.returned (.tuple #[.pointer u, .string s, .pointer v])) W from ⟨u, _, s, v, _, q', rfl, hu, hv, hall, HST.out A s C q' hrel, HPO.out q' w3 W hq3 hW, (HA2.out.trans ha3 (fun x hx => .inl hx)).trans (Apart.of_below hW : Apart S w3 W) (fun x hx => .inl hx)⟩))
  have CA := hid ca; have CD := hid cc; have T1 := hid ct1; have T2 := hid ct2
  have b3 : (i : Int) ≤ (c' : Int) := by omega
  have b3' : i ≤ c' := by omega
  have b4 : (i : Int) + 1 ≤ (n : Int) := by omega
  have b5 : (n : Int) ≤ (c' : Int) := by omega
  have b6 : IntKind.i64.wrap ((i : Int) + 1) = (i : Int) + 1 := IntWalk.i64_in _ (by omega)
  have b7 : ((i : Int) + 1).toNat = i + 1 := by omega
  have b8 : (0 : Int) ≤ (i : Int) + 1 := by omega
  clear ca cc ct1 ct2 hall hz1 hz2 hsA hj3 t1 t2 hL hrel hq3 ha3
  go_wp2_with fail
  by_cases hcz : c' = i + 1
  · subst hcz
    have b9 : (i : Int) ≤ (i : Int) + 1 := by omega
    refine wp_region_held_drew (S := (fun w' : World => Below w3.heap.size w3 w')) (by kernel_rfl) (Below.refl _ _).drew (fun hHeld => ?_)
    refine sqt 0 ?_
    try simp only [Act.put, sqp]
    refine sqt 1 ?_
    try simp only [Act.put, sqp]
    refine sqt 2 ?_
    try simp only [Act.put, sqp]
    refine sqt 4 ?_
    try simp only [Act.put, sqp]
    refine sqt 7 ?_
    try simp only [Act.put, sqp]
    refine sqt 8 ?_
    try simp only [Act.put, sqp]
    refine sqt 9 ?_
    try simp only [Act.put, sqp]
    refine sqt 10 ?_
    try simp only [Act.put, sqp]
    refine sqt 11 ?_
    try simp only [Act.put, sqp]
    refine sqt 12 ?_
    try simp only [Act.put, sqp]
    refine wpAnyH_ready (rs := [3]) (by kernel_rfl) (by simp) ?_
    refine AllReadyH.cons (by simp only [sqg]; rfl) (fun K hK => ?_) AllReadyH.nil
    go_simp
    (go_at_call 176; refine (CA.out _ hHeld).mono ?_; rintro e w4 ⟨u1, rfl, hu1, hb4⟩; have HB4 := hid (hHeld.trans (hb4.mono hHeld.size)); have HU1 := hid hu1; clear hu1 hb4)
    try go_wp2_with fail
    refine hK.out _ _ ?_ (fun hHeld => ?_)
    · exact HB4.out
    clear hK K
    try simp only [Act.put, sqp]
    refine wpAnyH_ready (rs := [5]) (by kernel_rfl) (by simp) ?_
    refine AllReadyH.cons (by simp only [sqg]; rfl) (fun K hK => ?_) AllReadyH.nil
    go_simp
    have HB5 := hid (HB4.out.alloc HB4.out.size (.cells #[.pointer u1, .pointer p1] 71))
    try go_wp2_with fail
    refine hK.out _ _ ?_ (fun hHeld => ?_)
    · exact HB5.out
    clear hK K
    try simp only [Act.put, sqp]
    refine wpAnyH_ready (rs := [6]) (by kernel_rfl) (by simp) ?_
    refine AllReadyH.cons (by simp only [sqg]; rfl) (fun K hK => ?_) AllReadyH.nil
    go_simp
    (go_at_call 171; refine (T1.out w4 u1 HB4.out HU1.out).mono ?_; rintro e w5 ⟨u2, rfl, hu2, hb5⟩; have HB6 := hid (HB4.out.trans (hb5.mono HB4.out.size)); have HU2 := hid hu2; clear hu2 hb5)
    try go_wp2_with fail
    refine hK.out _ _ ?_ (fun hHeld => ?_)
    · exact HB6.out
    clear hK K
    try simp only [Act.put, sqp]
    refine wpAnyH_ready (rs := [13]) (by kernel_rfl) (by simp) ?_
    refine AllReadyH.cons (by simp only [sqg]; rfl) (fun K hK => ?_) AllReadyH.nil
    go_simp
    (go_at_call 176; refine (CD.out _ 0 0 _ HB6.out (by omega) (.inr (by omega))).mono ?_; rintro e w6 ⟨u3, rfl, hu3, hb6⟩; have HB7 := hid (HB6.out.trans (hb6.mono HB6.out.size)); have HX6 := hid hb6; have HU3 := hid hu3; clear hu3 hb6)
    try go_wp2_with fail
    refine hK.out _ _ ?_ (fun hHeld => ?_)
    · exact HB7.out
    clear hK K
    try simp only [Act.put, sqp]
    refine wpAnyH_ready (rs := [14]) (by kernel_rfl) (by simp) ?_
    refine AllReadyH.cons (by simp only [sqg]; rfl) (fun K hK => ?_) AllReadyH.nil
    go_simp
    have HB8 := hid (HB7.out.alloc HB7.out.size (.cells #[.pointer p2, .pointer u3] 71))
    try go_wp2_with fail
    refine hK.out _ _ ?_ (fun hHeld => ?_)
    · exact HB8.out
    clear hK K
    try simp only [Act.put, sqp]
    refine wpAnyH_ready (rs := [15]) (by kernel_rfl) (by simp) ?_
    refine AllReadyH.cons (by simp only [sqg]; rfl) (fun K hK => ?_) AllReadyH.nil
    go_simp
    (go_at_call 171; refine (T2.out w6 u3 HB7.out HU3.out).mono ?_; rintro e w7 ⟨u4, rfl, hu4, hb7⟩; have HB9 := hid (HB7.out.trans (hb7.mono HB7.out.size)); have HX7 := hid hb7; have HU4 := hid hu4; clear hu4 hb7)
    try go_wp2_with fail
    refine hK.out _ _ ?_ (fun hHeld => ?_)
    · exact HB9.out
    clear hK K
    try simp only [Act.put, sqp]
    refine sqt 16 ?_
    try simp only [Act.put, sqp]
    refine sqt 17 ?_
    try simp only [Act.put, sqp]
    refine sqt 18 ?_
    try simp only [Act.put, sqp]
    refine wpAnyH_done (by kernel_rfl) ?_ _
    go_wp2_with fail
    refine bodyPost_ret (v := .tuple #[.pointer u2, .string s, .pointer u4]) (by simp [results, Tryz.results172, go_sem]) rfl ?_
    exact HEND.out w7 HB9.out u2 u4 ((HU2.out.later HX6.out).later HX7.out) HU4.out
  ·
    refine wp_region_held_drew (S := (fun w' : World => Below w3.heap.size w3 w')) (by kernel_rfl) (Below.refl _ _).drew (fun hHeld => ?_)
    refine sqt 0 ?_
    try simp only [Act.put, sqp]
    refine sqt 1 ?_
    try simp only [Act.put, sqp]
    refine sqt 2 ?_
    try simp only [Act.put, sqp]
    refine sqt 4 ?_
    try simp only [Act.put, sqp]
    refine sqt 7 ?_
    try simp only [Act.put, sqp]
    refine sqt 8 ?_
    try simp only [Act.put, sqp]
    refine sqt 9 ?_
    try simp only [Act.put, sqp]
    refine sqt 10 ?_
    try simp only [Act.put, sqp]
    refine sqt 11 ?_
    try simp only [Act.put, sqp]
    refine sqt 12 ?_
    try simp only [Act.put, sqp]
    refine wpAnyH_ready (rs := [3]) (by kernel_rfl) (by simp) ?_
    refine AllReadyH.cons (by simp only [sqg]; rfl) (fun K hK => ?_) AllReadyH.nil
    go_simp
    (go_at_call 176; refine (CA.out _ hHeld).mono ?_; rintro e w4 ⟨u1, rfl, hu1, hb4⟩; have HB4 := hid (hHeld.trans (hb4.mono hHeld.size)); have HU1 := hid hu1; clear hu1 hb4)
    try go_wp2_with fail
    refine hK.out _ _ ?_ (fun hHeld => ?_)
    · exact HB4.out
    clear hK K
    try simp only [Act.put, sqp]
    refine wpAnyH_ready (rs := [5]) (by kernel_rfl) (by simp) ?_
    refine AllReadyH.cons (by simp only [sqg]; rfl) (fun K hK => ?_) AllReadyH.nil
    go_simp
    have HB5 := hid (HB4.out.alloc HB4.out.size (.cells #[.pointer u1, .pointer p1] 71))
    try go_wp2_with fail
    refine hK.out _ _ ?_ (fun hHeld => ?_)
    · exact HB5.out
    clear hK K
    try simp only [Act.put, sqp]
    refine wpAnyH_ready (rs := [6]) (by kernel_rfl) (by simp) ?_
    refine AllReadyH.cons (by simp only [sqg]; rfl) (fun K hK => ?_) AllReadyH.nil
    go_simp
    (go_at_call 171; refine (T1.out w4 u1 HB4.out HU1.out).mono ?_; rintro e w5 ⟨u2, rfl, hu2, hb5⟩; have HB6 := hid (HB4.out.trans (hb5.mono HB4.out.size)); have HU2 := hid hu2; clear hu2 hb5)
    try go_wp2_with fail
    refine hK.out _ _ ?_ (fun hHeld => ?_)
    · exact HB6.out
    clear hK K
    try simp only [Act.put, sqp]
    refine wpAnyH_ready (rs := [13]) (by kernel_rfl) (by simp) ?_
    refine AllReadyH.cons (by simp only [sqg]; rfl) (fun K hK => ?_) AllReadyH.nil
    go_simp
    (go_at_call 176; refine (CD.out _ (i + 1) (n - (i + 1)) _ HB6.out (by omega) (.inl rfl)).mono ?_; rintro e w6 ⟨u3, rfl, hu3, hb6⟩; have HB7 := hid (HB6.out.trans (hb6.mono HB6.out.size)); have HX6 := hid hb6; have HU3 := hid hu3; clear hu3 hb6)
    try go_wp2_with fail
    refine hK.out _ _ ?_ (fun hHeld => ?_)
    · exact HB7.out
    clear hK K
    try simp only [Act.put, sqp]
    refine wpAnyH_ready (rs := [14]) (by kernel_rfl) (by simp) ?_
    refine AllReadyH.cons (by simp only [sqg]; rfl) (fun K hK => ?_) AllReadyH.nil
    go_simp
    have HB8 := hid (HB7.out.alloc HB7.out.size (.cells #[.pointer p2, .pointer u3] 71))
    try go_wp2_with fail
    refine hK.out _ _ ?_ (fun hHeld => ?_)
    · exact HB8.out
    clear hK K
    try simp only [Act.put, sqp]
    refine wpAnyH_ready (rs := [15]) (by kernel_rfl) (by simp) ?_
    refine AllReadyH.cons (by simp only [sqg]; rfl) (fun K hK => ?_) AllReadyH.nil
    go_simp
    (go_at_call 171; refine (T2.out w6 u3 HB7.out HU3.out).mono ?_; rintro e w7 ⟨u4, rfl, hu4, hb7⟩; have HB9 := hid (HB7.out.trans (hb7.mono HB7.out.size)); have HX7 := hid hb7; have HU4 := hid hu4; clear hu4 hb7)
    try go_wp2_with fail
    refine hK.out _ _ ?_ (fun hHeld => ?_)
    · exact HB9.out
    clear hK K
    try simp only [Act.put, sqp]
    refine sqt 16 ?_
    try simp only [Act.put, sqp]
    refine sqt 17 ?_
    try simp only [Act.put, sqp]
    refine sqt 18 ?_
    try simp only [Act.put, sqp]
    refine wpAnyH_done (by kernel_rfl) ?_ _
    go_wp2_with fail
    refine bodyPost_ret (v := .tuple #[.pointer u2, .string s, .pointer u4]) (by simp [results, Tryz.results172, go_sem]) rfl ?_
    exact HEND.out w7 HB9.out u2 u4 ((HU2.out.later HX6.out).later HX7.out) HU4.out
theorem around2_any {S : List Nat}  {Inv : Int → World → Prop} {Good : Int → List Kid → Nat → Int → Prop} {Rel : Int → List ByteArray → List ByteArray → ByteArray → List ByteArray → Int → Prop} (hp : Pick S 174 #[] Inv Good) (hy : Way Good Rel) (h : Nat) (hh : h ≤ 20) : AroundC2 S  Inv Rel h := by
  induction h with
  | zero => exact ar2_zero hp hy
  | succ h ih => exact ar2_succ hp hy (by omega) (ih (by omega))
def AroundC3 (S : List Nat) (bt : Nat) (Inv : Int → World → Prop) (Rel : Int → List ByteArray → List ByteArray → ByteArray → List ByteArray → Int → Prop) (h : Nat) : Prop := ∀ (w : World) (b : Nat) (L : List ByteArray) (q : Int), KnotW w (Off S w) h b L → InS S w → Inv q w → (wholeL L).size ≤ 6000 →
  Calls Tryz.prog 172 #[pv b, (.func (.func 193) #[] #[.pointer (some ⟨bt, 0, none⟩)])] w (RetAr S Inv Rel w q L)
set_option maxRecDepth 100000 in
set_option maxHeartbeats 800000 in
theorem ar3_zero {S : List Nat} {bt : Nat} {Inv : Int → World → Prop} {Good : Int → List Kid → Nat → Int → Prop} {Rel : Int → List ByteArray → List ByteArray → ByteArray → List ByteArray → Int → Prop} (hp : Pick S 193 #[.pointer (some ⟨bt, 0, none⟩)] Inv Good) (hy : Way Good Rel) : AroundC3 S bt Inv Rel 0 := by
  intro w b L q k hS hq hz
  have cb := below_leaf k
  obtain ⟨-, s, rfl, hf, hB⟩ := k
  have cf := fun W (hW : Below w.heap.size w W) => first_blk (hB.onto hW)
  have HR := hid (fun W (hW : Below w.heap.size w W) => (show RetAr S Inv Rel w q [s] (.returned (.tuple #[.pointer none, .string s, .pointer none])) W from ⟨none, [], s, none, [], q, rfl, .inl ⟨rfl, rfl⟩, .inl ⟨rfl, rfl⟩, rfl, hy.base q s hf, hp.on q w W hq hW, .of_below hW⟩))
  have CB := hid cb; have CF := hid cf
  clear cb cf hB hf hq hS hz hp hy
  go_enter Tryz.func172, Tryz.ntmps172
  go_wp2_with fail
  refine CB.out.mono ?_; rintro e w1 ⟨rfl, hb1⟩
  have HB1 := hid hb1
  clear hb1
  go_wp2_with fail
  refine (onward HB1.out (CF.out w1 HB1.out)).mono ?_; rintro e w2 ⟨rfl, hb2⟩
  have HB2 := hid hb2
  clear hb2
  go_wp2
  refine bodyPost_ret (v := .tuple #[.pointer none, .string s, .pointer none]) (by simp [results, Tryz.results172, go_sem]) rfl ?_
  exact HR.out w2 HB2.out
set_option maxRecDepth 100000 in
set_option maxHeartbeats 1600000 in
theorem ar3_succ {S : List Nat} {bt : Nat} {Inv : Int → World → Prop} {Good : Int → List Kid → Nat → Int → Prop} {Rel : Int → List ByteArray → List ByteArray → ByteArray → List ByteArray → Int → Prop} (hp : Pick S 193 #[.pointer (some ⟨bt, 0, none⟩)] Inv Good) (hy : Way Good Rel) {h : Nat} (hh : h ≤ 20) (ih : AroundC3 S bt Inv Rel h) : AroundC3 S bt Inv Rel (h + 1) := by
  intro w b L q k hS hq hz
  obtain ⟨M, g, c, hM, rfl, -⟩ := k.node
  have cb := below_node hM (by omega)
  have h2 := hM.two
  have h8 := hM.eight
  obtain ⟨n, hn⟩ : ∃ n, M.length = n := ⟨_, rfl⟩
  rw [hn] at h2 h8
  have hj : ∀ (w1 : World) (g' : Nat), Below w.heap.size w w1 → PRow w1 g' 0 (ptrs M) → JoinP w1 (Off S w1) g' 0 n h M := fun w1 g' hb hr => ⟨hn, hr, fun k hk => (hM.kids k hk).later hb, fun i hi => hi.1, by omega, by omega⟩
  have hcall : ∀ (w1 : World) (g' c' : Nat), g' ∉ S → Below w.heap.size w w1 → PRow w1 g' 0 (ptrs M) → Calls Tryz.prog 193 #[.slice (some ⟨g', 0, none⟩) n c', .pointer (some ⟨bt, 0, none⟩)] w1 fun e w' => ∃ (i : Nat) (q1 : Int), e = .returned (.int .i64 i) ∧ i < n ∧ Good q M i q1 ∧ Inv q1 w' ∧ Apart S w1 w' := fun w1 g' c' hgS hb hr => by
    have := hp.call q w1 g' c' h M hgS (hp.on q w w1 hq hb) (hS.on hb.size) (by rw [hn]; exact hj w1 g' hb hr) (by omega) (by omega)
    rw [hn] at this
    exact this
  have CB := hid cb; have CC := hid hcall; have HJ := hid hj; have HN := hid hn; have HS := hid hS; have HY := hid hy; have HI := hid ih; have HZ := hid hz; have HPO := hid hp.on
  clear cb hcall hj hn hS hy ih hz hp hM k hq
  go_enter Tryz.func172, Tryz.ntmps172
  go_wp2_with fail
  refine CB.out.mono ?_; rintro e w1 ⟨v1, rfl, ho1, hb1⟩
  obtain ⟨g', c', rfl, hc', hg', hr1⟩ := own_row ho1 (by rw [HN.out]; omega)
  rw [HN.out] at hc' ⊢
  have HGS := hid (show g' ∉ S from fun hm => by have := HS.out g' hm; omega)
  have cw := CC.out w1 g' c' HGS.out hb1 hr1
  have CW := hid cw
  have HJ1 := hid (HJ.out w1 g' hb1 hr1); have HB1 := hid hb1
  clear ho1 hb1 hg' hr1 cw
  have b0 : ((n : Int) == 0) = false := by simpa using (show ¬ (n : Int) = 0 by omega)
  have b0' : (n == 0) = false := by simpa using (show ¬ n = 0 by omega)
  go_wp2_with fail
  refine CW.out.mono ?_; rintro e w2 ⟨i, q1, rfl, hin, hgood, hq1, ha2⟩
  have hj2 := HJ1.out.apartS HGS.out ha2
  have q0 := hj2.cell hin
  rw [Nat.zero_add] at q0
  have hil : i < M.length := by rw [HN.out]; exact hin
  have hS2 : InS S w2 := HS.out.on (Nat.le_trans HB1.out.size ha2.size)
  have e0 := flat_pick hil
  have hxz : (wholeL M[i].L).size ≤ 6000 := by
    have := HZ.out
    rw [e0, whole_app, whole_app, ByteArray.size_append, ByteArray.size_append] at this
    omega
  have ci := HI.out w2 M[i].b M[i].L q1 (hj2.kids _ (List.getElem_mem hil)) hS2 hq1 hxz
  have HST := hid (fun A s C q' => HY.out.step q M i q1 A s C q' hil hgood)
  have HXL := hid e0
  obtain ⟨xb, hxb⟩ : ∃ xb, M[i].b = xb := ⟨_, rfl⟩
  obtain ⟨xL, hxL⟩ : ∃ xL, M[i].L = xL := ⟨_, rfl⟩
  rw [hxb] at q0 ci
  rw [hxL] at ci HST HXL
  have CI := hid ci; have HJ2 := hid hj2; have HA2 := hid ((Apart.of_below HB1.out : Apart S w w1).trans ha2 (fun x hx => .inl hx)); have HS2 := hid hS2
  have b1 : (0 : Int) ≤ (i : Int) := by omega
  have b2 : (i : Int) < (n : Int) := by omega
  clear ci hj2 ha2 hgood hq1 hxz hil hxb hxL e0 hS2
  go_wp2_with fail
  refine CI.out.mono ?_; rintro e w3 ⟨p1, A, s, p2, C, q', rfl, t1, t2, hL, hrel, hq3, ha3⟩
  have hj3 := HJ2.out.apartS HGS.out ha3
  have hsA : InS S w3 := HS2.out.on ha3.size
  have hall : flat M = (flat (M.take i) ++ A) ++ ([s] ++ (C ++ flat (M.drop (i + 1)))) := by rw [HXL.out, hL]; simp only [List.append_assoc]
  have hz1 : (wholeL (flat (M.take i) ++ A)).size ≤ 6000 := by
    have := HZ.out
    rw [hall] at this
    simp only [whole_szs] at this ⊢
    omega
  have hz2 : (wholeL (C ++ flat (M.drop (i + 1)))).size ≤ 6000 := by
    have := HZ.out
    rw [hall] at this
    simp only [whole_szs] at this ⊢
    omega
  have ca : ∀ W, Below w3.heap.size w3 W → Calls Tryz.prog 176 #[.slice (some ⟨g', 0, none⟩) i c'] W (RetTr S W (flat (M.take i))) := fun W hW => up_side (hsA.on hW.size) ((hj3.later hW).head (by omega)) (by omega)
  have cc : ∀ W o (len cap : Nat), Below w3.heap.size w3 W → len = n - (i + 1) → (o = i + 1 ∨ n = i + 1) → Calls Tryz.prog 176 #[.slice (some ⟨g', o, none⟩) len cap] W (RetTr S W (flat (M.drop (i + 1)))) := fun W o len cap hW hlen ho => by
    subst hlen
    have := (hj3.later hW).tail (i + 1)
    rw [Nat.zero_add] at this
    rcases ho with rfl | ho
    · exact up_side (hsA.on hW.size) this (by omega)
    · exact up_side (hsA.on hW.size) (this.none (by omega) o) (by omega)
  have ct1 : ∀ W p, Below w3.heap.size w3 W → Tr W S p (flat (M.take i)) → Calls Tryz.prog 171 #[.slice (some ⟨W.heap.size, 0, none⟩) (2 : Nat) (2 : Nat)] (W.alloc (.cells #[.pointer p, .pointer p1] 71)) (RetTr S W (flat (M.take i) ++ A)) := fun W p hW hp =>
    together_two (hsA.on hW.size) hp (t1.later hW) hz1
  have ct2 : ∀ W p, Below w3.heap.size w3 W → Tr W S p (flat (M.drop (i + 1))) → Calls Tryz.prog 171 #[.slice (some ⟨W.heap.size, 0, none⟩) (2 : Nat) (2 : Nat)] (W.alloc (.cells #[.pointer p2, .pointer p] 71)) (RetTr S W (C ++ flat (M.drop (i + 1)))) := fun W p hW hp =>
    together_two (hsA.on hW.size) (t2.later hW) hp hz2
  have HEND := hid (fun W (hW : Below w3.heap.size w3 W) u v (hu : Tr W S u (flat (M.take i) ++ A)) (hv : Tr W S v (C ++ flat (M.drop (i + 1)))) => (show RetAr S Inv Rel w q (flat M) (.returned (.tuple #[.pointer u, .string s, .pointer v])) W from ⟨u, _, s, v, _, q', rfl, hu, hv, hall, HST.out A s C q' hrel, HPO.out q' w3 W hq3 hW, (HA2.out.trans ha3 (fun x hx => .inl hx)).trans (Apart.of_below hW : Apart S w3 W) (fun x hx => .inl hx)⟩))
  have CA := hid ca; have CD := hid cc; have T1 := hid ct1; have T2 := hid ct2
  have b3 : (i : Int) ≤ (c' : Int) := by omega
  have b3' : i ≤ c' := by omega
  have b4 : (i : Int) + 1 ≤ (n : Int) := by omega
  have b5 : (n : Int) ≤ (c' : Int) := by omega
  have b6 : IntKind.i64.wrap ((i : Int) + 1) = (i : Int) + 1 := IntWalk.i64_in _ (by omega)
  have b7 : ((i : Int) + 1).toNat = i + 1 := by omega
  have b8 : (0 : Int) ≤ (i : Int) + 1 := by omega
  clear ca cc ct1 ct2 hall hz1 hz2 hsA hj3 t1 t2 hL hrel hq3 ha3
  go_wp2_with fail
  by_cases hcz : c' = i + 1
  · subst hcz
    have b9 : (i : Int) ≤ (i : Int) + 1 := by omega
    refine wp_region_held_drew (S := (fun w' : World => Below w3.heap.size w3 w')) (by kernel_rfl) (Below.refl _ _).drew (fun hHeld => ?_)
    refine sqt 0 ?_
    try simp only [Act.put, sqp]
    refine sqt 1 ?_
    try simp only [Act.put, sqp]
    refine sqt 2 ?_
    try simp only [Act.put, sqp]
    refine sqt 4 ?_
    try simp only [Act.put, sqp]
    refine sqt 7 ?_
    try simp only [Act.put, sqp]
    refine sqt 8 ?_
    try simp only [Act.put, sqp]
    refine sqt 9 ?_
    try simp only [Act.put, sqp]
    refine sqt 10 ?_
    try simp only [Act.put, sqp]
    refine sqt 11 ?_
    try simp only [Act.put, sqp]
    refine sqt 12 ?_
    try simp only [Act.put, sqp]
    refine wpAnyH_ready (rs := [3]) (by kernel_rfl) (by simp) ?_
    refine AllReadyH.cons (by simp only [sqg]; rfl) (fun K hK => ?_) AllReadyH.nil
    go_simp
    (go_at_call 176; refine (CA.out _ hHeld).mono ?_; rintro e w4 ⟨u1, rfl, hu1, hb4⟩; have HB4 := hid (hHeld.trans (hb4.mono hHeld.size)); have HU1 := hid hu1; clear hu1 hb4)
    try go_wp2_with fail
    refine hK.out _ _ ?_ (fun hHeld => ?_)
    · exact HB4.out
    clear hK K
    try simp only [Act.put, sqp]
    refine wpAnyH_ready (rs := [5]) (by kernel_rfl) (by simp) ?_
    refine AllReadyH.cons (by simp only [sqg]; rfl) (fun K hK => ?_) AllReadyH.nil
    go_simp
    have HB5 := hid (HB4.out.alloc HB4.out.size (.cells #[.pointer u1, .pointer p1] 71))
    try go_wp2_with fail
    refine hK.out _ _ ?_ (fun hHeld => ?_)
    · exact HB5.out
    clear hK K
    try simp only [Act.put, sqp]
    refine wpAnyH_ready (rs := [6]) (by kernel_rfl) (by simp) ?_
    refine AllReadyH.cons (by simp only [sqg]; rfl) (fun K hK => ?_) AllReadyH.nil
    go_simp
    (go_at_call 171; refine (T1.out w4 u1 HB4.out HU1.out).mono ?_; rintro e w5 ⟨u2, rfl, hu2, hb5⟩; have HB6 := hid (HB4.out.trans (hb5.mono HB4.out.size)); have HU2 := hid hu2; clear hu2 hb5)
    try go_wp2_with fail
    refine hK.out _ _ ?_ (fun hHeld => ?_)
    · exact HB6.out
    clear hK K
    try simp only [Act.put, sqp]
    refine wpAnyH_ready (rs := [13]) (by kernel_rfl) (by simp) ?_
    refine AllReadyH.cons (by simp only [sqg]; rfl) (fun K hK => ?_) AllReadyH.nil
    go_simp
    (go_at_call 176; refine (CD.out _ 0 0 _ HB6.out (by omega) (.inr (by omega))).mono ?_; rintro e w6 ⟨u3, rfl, hu3, hb6⟩; have HB7 := hid (HB6.out.trans (hb6.mono HB6.out.size)); have HX6 := hid hb6; have HU3 := hid hu3; clear hu3 hb6)
    try go_wp2_with fail
    refine hK.out _ _ ?_ (fun hHeld => ?_)
    · exact HB7.out
    clear hK K
    try simp only [Act.put, sqp]
    refine wpAnyH_ready (rs := [14]) (by kernel_rfl) (by simp) ?_
    refine AllReadyH.cons (by simp only [sqg]; rfl) (fun K hK => ?_) AllReadyH.nil
    go_simp
    have HB8 := hid (HB7.out.alloc HB7.out.size (.cells #[.pointer p2, .pointer u3] 71))
    try go_wp2_with fail
    refine hK.out _ _ ?_ (fun hHeld => ?_)
    · exact HB8.out
    clear hK K
    try simp only [Act.put, sqp]
    refine wpAnyH_ready (rs := [15]) (by kernel_rfl) (by simp) ?_
    refine AllReadyH.cons (by simp only [sqg]; rfl) (fun K hK => ?_) AllReadyH.nil
    go_simp
    (go_at_call 171; refine (T2.out w6 u3 HB7.out HU3.out).mono ?_; rintro e w7 ⟨u4, rfl, hu4, hb7⟩; have HB9 := hid (HB7.out.trans (hb7.mono HB7.out.size)); have HX7 := hid hb7; have HU4 := hid hu4; clear hu4 hb7)
    try go_wp2_with fail
    refine hK.out _ _ ?_ (fun hHeld => ?_)
    · exact HB9.out
    clear hK K
    try simp only [Act.put, sqp]
    refine sqt 16 ?_
    try simp only [Act.put, sqp]
    refine sqt 17 ?_
    try simp only [Act.put, sqp]
    refine sqt 18 ?_
    try simp only [Act.put, sqp]
    refine wpAnyH_done (by kernel_rfl) ?_ _
    go_wp2_with fail
    refine bodyPost_ret (v := .tuple #[.pointer u2, .string s, .pointer u4]) (by simp [results, Tryz.results172, go_sem]) rfl ?_
    exact HEND.out w7 HB9.out u2 u4 ((HU2.out.later HX6.out).later HX7.out) HU4.out
  ·
    refine wp_region_held_drew (S := (fun w' : World => Below w3.heap.size w3 w')) (by kernel_rfl) (Below.refl _ _).drew (fun hHeld => ?_)
    refine sqt 0 ?_
    try simp only [Act.put, sqp]
    refine sqt 1 ?_
    try simp only [Act.put, sqp]
    refine sqt 2 ?_
    try simp only [Act.put, sqp]
    refine sqt 4 ?_
    try simp only [Act.put, sqp]
    refine sqt 7 ?_
    try simp only [Act.put, sqp]
    refine sqt 8 ?_
    try simp only [Act.put, sqp]
    refine sqt 9 ?_
    try simp only [Act.put, sqp]
    refine sqt 10 ?_
    try simp only [Act.put, sqp]
    refine sqt 11 ?_
    try simp only [Act.put, sqp]
    refine sqt 12 ?_
    try simp only [Act.put, sqp]
    refine wpAnyH_ready (rs := [3]) (by kernel_rfl) (by simp) ?_
    refine AllReadyH.cons (by simp only [sqg]; rfl) (fun K hK => ?_) AllReadyH.nil
    go_simp
    (go_at_call 176; refine (CA.out _ hHeld).mono ?_; rintro e w4 ⟨u1, rfl, hu1, hb4⟩; have HB4 := hid (hHeld.trans (hb4.mono hHeld.size)); have HU1 := hid hu1; clear hu1 hb4)
    try go_wp2_with fail
    refine hK.out _ _ ?_ (fun hHeld => ?_)
    · exact HB4.out
    clear hK K
    try simp only [Act.put, sqp]
    refine wpAnyH_ready (rs := [5]) (by kernel_rfl) (by simp) ?_
    refine AllReadyH.cons (by simp only [sqg]; rfl) (fun K hK => ?_) AllReadyH.nil
    go_simp
    have HB5 := hid (HB4.out.alloc HB4.out.size (.cells #[.pointer u1, .pointer p1] 71))
    try go_wp2_with fail
    refine hK.out _ _ ?_ (fun hHeld => ?_)
    · exact HB5.out
    clear hK K
    try simp only [Act.put, sqp]
    refine wpAnyH_ready (rs := [6]) (by kernel_rfl) (by simp) ?_
    refine AllReadyH.cons (by simp only [sqg]; rfl) (fun K hK => ?_) AllReadyH.nil
    go_simp
    (go_at_call 171; refine (T1.out w4 u1 HB4.out HU1.out).mono ?_; rintro e w5 ⟨u2, rfl, hu2, hb5⟩; have HB6 := hid (HB4.out.trans (hb5.mono HB4.out.size)); have HU2 := hid hu2; clear hu2 hb5)
    try go_wp2_with fail
    refine hK.out _ _ ?_ (fun hHeld => ?_)
    · exact HB6.out
    clear hK K
    try simp only [Act.put, sqp]
    refine wpAnyH_ready (rs := [13]) (by kernel_rfl) (by simp) ?_
    refine AllReadyH.cons (by simp only [sqg]; rfl) (fun K hK => ?_) AllReadyH.nil
    go_simp
    (go_at_call 176; refine (CD.out _ (i + 1) (n - (i + 1)) _ HB6.out (by omega) (.inl rfl)).mono ?_; rintro e w6 ⟨u3, rfl, hu3, hb6⟩; have HB7 := hid (HB6.out.trans (hb6.mono HB6.out.size)); have HX6 := hid hb6; have HU3 := hid hu3; clear hu3 hb6)
    try go_wp2_with fail
    refine hK.out _ _ ?_ (fun hHeld => ?_)
    · exact HB7.out
    clear hK K
    try simp only [Act.put, sqp]
    refine wpAnyH_ready (rs := [14]) (by kernel_rfl) (by simp) ?_
    refine AllReadyH.cons (by simp only [sqg]; rfl) (fun K hK => ?_) AllReadyH.nil
    go_simp
    have HB8 := hid (HB7.out.alloc HB7.out.size (.cells #[.pointer p2, .pointer u3] 71))
    try go_wp2_with fail
    refine hK.out _ _ ?_ (fun hHeld => ?_)
    · exact HB8.out
    clear hK K
    try simp only [Act.put, sqp]
    refine wpAnyH_ready (rs := [15]) (by kernel_rfl) (by simp) ?_
    refine AllReadyH.cons (by simp only [sqg]; rfl) (fun K hK => ?_) AllReadyH.nil
    go_simp
    (go_at_call 171; refine (T2.out w6 u3 HB7.out HU3.out).mono ?_; rintro e w7 ⟨u4, rfl, hu4, hb7⟩; have HB9 := hid (HB7.out.trans (hb7.mono HB7.out.size)); have HX7 := hid hb7; have HU4 := hid hu4; clear hu4 hb7)
    try go_wp2_with fail
    refine hK.out _ _ ?_ (fun hHeld => ?_)
    · exact HB9.out
    clear hK K
    try simp only [Act.put, sqp]
    refine sqt 16 ?_
    try simp only [Act.put, sqp]
    refine sqt 17 ?_
    try simp only [Act.put, sqp]
    refine sqt 18 ?_
    try simp only [Act.put, sqp]
    refine wpAnyH_done (by kernel_rfl) ?_ _
    go_wp2_with fail
    refine bodyPost_ret (v := .tuple #[.pointer u2, .string s, .pointer u4]) (by simp [results, Tryz.results172, go_sem]) rfl ?_
    exact HEND.out w7 HB9.out u2 u4 ((HU2.out.later HX6.out).later HX7.out) HU4.out
theorem around3_any {S : List Nat} {bt : Nat} {Inv : Int → World → Prop} {Good : Int → List Kid → Nat → Int → Prop} {Rel : Int → List ByteArray → List ByteArray → ByteArray → List ByteArray → Int → Prop} (hp : Pick S 193 #[.pointer (some ⟨bt, 0, none⟩)] Inv Good) (hy : Way Good Rel) (h : Nat) (hh : h ≤ 20) : AroundC3 S bt Inv Rel h := by
  induction h with
  | zero => exact ar3_zero hp hy
  | succ h ih => exact ar3_succ hp hy (by omega) (ih (by omega))
end Go.Proofs.YtfiobemeogaaiaaGreat
namespace Go.Proofs.YtfiobemeogaaiaaGreat
open Lib (hid)
open Go.RowKit
set_option linter.unusedVariables false
set_option linter.unusedSimpArgs false
def noneI (q : Int) (w : World) : Prop := True
def lastG (q : Int) (K : List Kid) (i : Nat) (q1 : Int) : Prop := i + 1 = K.length
def lastR (q : Int) (L A : List ByteArray) (s : ByteArray) (C : List ByteArray) (q' : Int) : Prop := C = []
def firstG (q : Int) (K : List Kid) (i : Nat) (q1 : Int) : Prop := i = 0
def firstR (q : Int) (L A : List ByteArray) (s : ByteArray) (C : List ByteArray) (q' : Int) : Prop := A = []
theorem last_way : Way lastG lastR :=
  ⟨fun q s _ => rfl, fun q K i q1 A s C q' h hg hr => by
    unfold lastG at hg; unfold lastR at hr ⊢
    rw [hr, hg, List.drop_length]; rfl⟩
theorem first_way : Way firstG firstR :=
  ⟨fun q s _ => rfl, fun q K i q1 A s C q' h hg hr => by
    unfold firstG at hg; unfold firstR at hr ⊢
    subst hg; rw [hr]; rfl⟩
set_option maxRecDepth 100000 in
theorem last_pick : Pick [] 173 #[] noneI lastG := by
  refine ⟨fun _ _ _ _ _ => trivial, fun q w g c h K _ _ _ _ h2 h8 => ?_⟩
  obtain ⟨n, hn⟩ : ∃ n, K.length = n + 1 := ⟨K.length - 1, by omega⟩
  show Calls Tryz.prog 173 #[.slice (some ⟨g, 0, none⟩) K.length c] w _
  have HN := hid hn
  rw [hn]
  rw [hn] at h8
  clear hn h2
  go_enter Tryz.func173, Tryz.ntmps173
  go_wp2
  go_ret
  exact ⟨n, q, rfl, by omega, HN.out.symm, trivial, Apart.refl _ _⟩
set_option maxRecDepth 100000 in
theorem first_pick : Pick [] 174 #[] noneI firstG := by
  refine ⟨fun _ _ _ _ _ => trivial, fun q w g c h K _ _ _ _ h2 h8 => ?_⟩
  show Calls Tryz.prog 174 #[.slice (some ⟨g, 0, none⟩) K.length c] w _
  go_enter Tryz.func174, Tryz.ntmps174
  go_wp2
  go_ret
  exact ⟨0, q, rfl, by omega, rfl, trivial, Apart.refl _ _⟩
def i64P (q : Int) : Prop := -9223372036854775808 ≤ q ∧ q ≤ 9223372036854775807
def placeI (bt : Nat) (q : Int) (w : World) : Prop := Blk w bt #[.int .i64 q] 3 ∧ i64P q
def placeG (q : Int) (K : List Kid) (i : Nat) (q1 : Int) : Prop := q1 = q - (wholeL (flat (K.take i))).size ∧ (0 < i → 0 ≤ q1) ∧ ∀ h : i < K.length, i + 1 < K.length → q1 < (wholeL K[i].L).size
theorem flat_drop_none {K : List Kid} {n : Nat} (h : K.length ≤ n) : flat (K.drop n) = [] := by rw [List.drop_of_length_le h]; rfl
def cutR (q : Int) (L A : List ByteArray) (s : ByteArray) (C : List ByteArray) (q' : Int) : Prop := CutAt L q A s C q'
theorem place_way : Way placeG cutR := by
  refine ⟨fun q s _ => ⟨rfl, by have z : (wholeL []).size = 0 := rfl; omega, fun h => absurd rfl h, fun h => absurd rfl h⟩, fun q K i q1 A s C q' h hg hr => ?_⟩
  obtain ⟨g1, g2, g3⟩ := hg
  obtain ⟨r1, r2, r3, r4⟩ := hr
  have e := flat_pick h
  refine ⟨by rw [e, r1]; simp only [List.append_assoc], by rw [whole_szs]; omega, fun hn => ?_, fun hn => ?_⟩
  · by_cases hA : A = []
    · subst hA
      have : 0 < i := by
        rcases Nat.eq_zero_or_pos i with rfl | h0
        · exact absurd rfl hn
        · exact h0
      have := g2 this
      have z : (wholeL []).size = 0 := rfl
      omega
    · exact r3 hA
  · by_cases hC : C = []
    · subst hC
      have hi : i + 1 < K.length := by
        rcases Nat.lt_or_ge (i + 1) K.length with g | g
        · exact g
        · exact absurd (flat_drop_none g) hn
      have := g3 h hi
      rw [r1, whole_szs, whole_szs, whole_one] at this
      have z : (wholeL []).size = 0 := rfl
      omega
    · exact r4 hC
structure SpI (bt : Nat) (w : World) (K : List Kid) (q : Int) (i : Nat) (q1 : Int) (wr : World) : Prop where
  blk : Blk wr bt #[.int .i64 q1] 3
  in' : i64P q1
  at' : q1 = q - (wholeL (flat (K.take i))).size
  lo : 0 < i → 0 ≤ q1
  ap : Apart [bt] w wr
theorem flat_take_size (K : List Kid) (k : Nat) (h : k < K.length) : (wholeL (flat (K.take (k + 1)))).size = (wholeL (flat (K.take k))).size + (wholeL K[k].L).size := by rw [flat_take K k h, whole_szs]
set_option maxRecDepth 100000 in
set_option maxHeartbeats 1600000 in
theorem place_pick (bt : Nat) : Pick [bt] 193 #[.pointer (some ⟨bt, 0, none⟩)] (placeI bt) placeG := by
  refine ⟨fun q w w' h hb => ⟨h.1.onto hb, h.2⟩, fun q w g c h M hgS hq hS hj h2 h8 => ?_⟩
  show Calls Tryz.prog 193 #[.slice (some ⟨g, 0, none⟩) M.length c, .pointer (some ⟨bt, 0, none⟩)] w _
  have hbt : bt < w.heap.size := hS bt (by simp)
  have hg : g ≠ bt := by simpa using hgS
  have hcf : ∀ (a b c : Int) (W : World), (Instr.field 94 (cntV a b c) 0).run Tryz.prog W = .ok (.int .i64 a) W := fun a b c W => by kernel_rfl
  obtain ⟨n, hn⟩ : ∃ n, M.length = n := ⟨_, rfl⟩
  rw [hn] at h2 h8 hj ⊢
  have HN := hid hn; have HJ := hid hj; have HS := hid hS; have HG := hid hg; have HGS := hid hgS
  have HQ0 := hid hq; have HBT := hid hbt
  clear hn hj hS hg hgS hq hbt
  have e1 : IntKind.i64.wrap ((n : Int) - 1) = (n : Int) - 1 := IntWalk.i64_in _ (by omega)
  go_enter Tryz.func193, Tryz.ntmps193
  go_wp2
  go_loopw [4] (fun v wr => ∃ (i : Nat) (q1 : Int), v = .int .i64 i ∧ i < n ∧ SpI bt w M q i q1 wr) (fun v _ => n - (intOf v).toNat)
  case atStart => exact ⟨0, q, rfl, by omega, HQ0.out.1, HQ0.out.2, by have z : (wholeL (flat (M.take 0))).size = 0 := rfl; omega, fun h => absurd h (Nat.lt_irrefl 0), Apart.refl _ _⟩
  case round =>
    obtain ⟨i, q1, rfl, hin, hI⟩ := hrel
    have hil : i < M.length := by rw [HN.out]; exact hin
    have hj := HJ.out.apartS HGS.out hI.ap
    have r0 := hj.cell hin
    rw [Nat.zero_add] at r0
    have hgl := hj.row.1
    obtain ⟨kv, -, hB⟩ := (hj.kids _ (List.getElem_mem hil)).cells
    have cc : ∀ W, Below wr.heap.size wr W → Calls Tryz.prog 110 #[pv M[i].b] W fun e w' => e = .returned (cntV (wholeL M[i].L).size (runes (wholeL M[i].L).data.toList) (lines (wholeL M[i].L).data.toList)) ∧ Below W.heap.size W w' := fun W hW => count_blk (hB.onto hW)
    have hsz := flat_take_size M i hil
    have hzz : (wholeL M[i].L).size ≤ 1000000 := by
      have := hj.size
      rw [flat_pick hil, whole_szs, whole_szs] at this
      omega
    have HEND := hid (fun (W : World) (hW : Below wr.heap.size wr W) (hh : i + 1 < n → q1 < (wholeL M[i].L).size) => (show ∃ (i' : Nat) (q1 : Int), Ending.returned (.int .i64 i) = .returned (.int .i64 i') ∧ i' < n ∧ placeG q M i' q1 ∧ placeI bt q1 W ∧ Apart [bt] w W from
      ⟨i, q1, rfl, hin, ⟨hI.at', hI.lo, fun _ h => hh (by rw [← HN.out]; exact h)⟩, ⟨hI.blk.onto hW, hI.in'⟩, hI.ap.trans (Apart.of_below hW : Apart [bt] wr W) (fun x hx => .inl hx)⟩))
    have HNX := hid (fun (W : World) (hW : Below wr.heap.size wr W) (hle : ((wholeL M[i].L).size : Int) ≤ q1) => (show SpI bt w M q (i + 1) (q1 - (wholeL M[i].L).size) (W.setCell ⟨bt, 0, none⟩ (.int .i64 (q1 - (wholeL M[i].L).size))) from
      ⟨(hI.blk.onto hW).set 0 _, by have := hI.in'; unfold i64P at this ⊢; omega, by rw [hsz]; have := hI.at'; omega, fun _ => by omega, (hI.ap.trans (Apart.of_below hW : Apart [bt] wr W) (fun x hx => .inl hx)).setCell (.inl (by simp)) _⟩))
    have HW1 := hid (fun hle : ((wholeL M[i].L).size : Int) ≤ q1 => (IntWalk.i64_in _ (by have := hI.in'; unfold i64P at this; omega) : IntKind.i64.wrap (q1 - ((wholeL M[i].L).size : Int)) = q1 - ((wholeL M[i].L).size : Int)))
    have HQ := hid (And.intro (fun W (hW : Below wr.heap.size wr W) => (hI.blk.onto hW).cell 0 (.int .i64 q1) rfl) (fun W (hW : Below wr.heap.size wr W) => (hW.cell (p := ⟨g, i, none⟩) hgl).trans r0))
    have HF := hid (fun W (hW : Below wr.heap.size wr W) => (hI.blk.onto hW).free 0)
    obtain ⟨xb, hxb⟩ : ∃ xb, M[i].b = xb := ⟨_, rfl⟩
    obtain ⟨z, hz⟩ : ∃ z, (wholeL M[i].L).size = z := ⟨_, rfl⟩
    obtain ⟨R, hR⟩ : ∃ R, runes (wholeL M[i].L).data.toList = R := ⟨_, rfl⟩
    obtain ⟨Y, hY⟩ : ∃ Y, lines (wholeL M[i].L).data.toList = Y := ⟨_, rfl⟩
    rw [hxb, hz, hR, hY] at cc
    rw [hxb] at HQ
    rw [hz] at HEND HNX HW1 hzz
    have CC := hid cc; have HGL := hid hgl
    have hcf' := hcf z R Y
    have b1 : (0 : Int) ≤ (i : Int) := by omega
    have b2 : (i : Int) < (n : Int) := by omega
    clear hj r0 hB cc hsz hI hil hxb hz hR hY hgl
    by_cases hlt : i + 1 < n
    · have t1 : decide ((i : Int) < (n : Int) - 1) = true := decide_eq_true (by omega)
      have t2 : (i : Int) < (n : Int) - 1 := by omega
      by_cases hge : (z : Int) ≤ q1
      · have t3 : decide ((z : Int) ≤ q1) = true := decide_eq_true hge
        have HN := hid (fun W (hW : Below wr.heap.size wr W) => HNX.out W hW hge)
        have e2 := HW1.out hge
        have E2 := hid e2
        clear e2
        go_wp2_with fail
        refine wp_region_held_drew (S := (fun w' : World => Below wr.heap.size wr w' ∧ w'.cell? ⟨bt, 0, none⟩ = some (.int .i64 q1) ∧ w'.cell? ⟨g, i, none⟩ = some (pv xb))) (by kernel_rfl) ⟨(Below.refl _ _).drew, HQ.out.1 wr (Below.refl _ _), HQ.out.2 wr (Below.refl _ _)⟩ (fun hHeld => ?_)
        refine sqt 0 ?_
        try simp only [Act.put, sqp]
        refine sqt 1 ?_
        try simp only [Act.put, sqp]
        refine sqt 2 ?_
        try simp only [Act.put, sqp]
        refine sqt 3 ?_
        try simp only [Act.put, sqp]
        refine sqt 4 ?_
        try simp only [Act.put, sqp]
        refine sqt 5 ?_
        try simp only [Act.put, sqp]
        refine sqt 6 ?_
        try simp only [Act.put, sqp]
        refine sqt 7 ?_
        try simp only [Act.put, sqp]
        refine sqt 8 ?_
        try simp only [Act.put, sqp]
        refine sqt 9 ?_
        try simp only [Act.put, sqp]
        refine sqt 10 ?_
        try simp only [Act.put, sqp]
        refine wpAnyH_ready (rs := [11]) (by kernel_rfl) (by simp) ?_
        refine AllReadyH.cons (by simp only [sqg]; rfl) (fun K hK => ?_) AllReadyH.nil
        go_simp
        (go_at_call 110; refine (CC.out _ hHeld.1).mono ?_; rintro e w2 ⟨rfl, hb2⟩; have HB2 := hid (hHeld.1.trans (hb2.mono hHeld.1.size)); clear hb2)
        try go_wp2_with fail
        refine hK.out _ _ ?_ (fun hHeld => ?_)
        · exact ⟨HB2.out, HQ.out.1 w2 HB2.out, HQ.out.2 w2 HB2.out⟩
        clear hK K
        try simp only [Act.put, sqp]
        refine sqt 12 ?_
        try simp only [Act.put, sqp]
        refine sqt 13 ?_
        try simp only [Act.put, sqp]
        refine sqt 14 ?_
        try simp only [Act.put, sqp]
        refine wpAnyH_done (by kernel_rfl) ?_ _
        have CD := hid (fun W (hW : Below w2.heap.size w2 W) => CC.out W (HB2.out.trans (hW.mono HB2.out.size)))
        have HZB := hid (fun W (hW : Below w2.heap.size w2 W) => HQ.out.1 W (HB2.out.trans (hW.mono HB2.out.size)))
        have HZF := hid (fun W (hW : Below w2.heap.size w2 W) => HF.out W (HB2.out.trans (hW.mono HB2.out.size)))
        have HG2 := hid (fun W (hW : Below w2.heap.size w2 W) => HQ.out.2 W (HB2.out.trans (hW.mono HB2.out.size)))
        have HG3 := hid (fun W (hW : Below w2.heap.size w2 W) => (World.cell?_of_block (w := W) (a := ⟨g, i, none⟩) (Below.heap_setCell W ⟨bt, 0, none⟩ (.int .i64 (q1 - z)) g HG.out)).trans (HG2.out W hW))
        have e2 := E2.out
        go_wp2_with fail
        refine wp_region_held_drew (S := (fun w' : World => Apart [bt] w2 w' ∧ w'.cell? ⟨g, i, none⟩ = some (pv xb))) (by kernel_rfl) ⟨(Apart.refl _ _).drewN 1, HG2.out w2 (Below.refl _ _)⟩ (fun hHeld => ?_)
        refine sqt 1 ?_
        try simp only [Act.put, sqp]
        refine sqt 2 ?_
        try simp only [Act.put, sqp]
        refine sqt 3 ?_
        try simp only [Act.put, sqp]
        refine sqt 4 ?_
        try simp only [Act.put, sqp]
        have z1 := HZB.out w2.drew (Below.refl w2.heap.size w2).drew
        refine wpAnyH_ready (rs := [0, 5]) (by kernel_rfl) (by simp) ?_
        refine AllReadyH.cons (by simp only [sqg]; rfl) (fun K hK => ?_) (AllReadyH.cons (by simp only [sqg]; rfl) (fun K hK => ?_) AllReadyH.nil)
        · go_simp
          try go_wp2_with fail
          refine hK.out _ _ ?_ (fun hHeld => ?_)
          · exact hHeld
          clear hK K
          try simp only [Act.put, sqp]
          refine wpAnyH_ready (rs := [5]) (by kernel_rfl) (by simp) ?_
          refine AllReadyH.cons (by simp only [sqg]; rfl) (fun K hK => ?_) AllReadyH.nil
          go_simp
          (go_at_call 110; refine (CD.out _ (Below.refl w2.heap.size w2).drew).mono ?_; rintro e w3 ⟨rfl, hb3⟩; have HB3 := hid ((Below.refl w2.heap.size w2).drew.trans (hb3.mono (Below.refl w2.heap.size w2).drew.size)); have HX3 := hid hb3; clear hb3)
          try go_wp2_with fail
          refine hK.out _ _ ?_ (fun hHeld => ?_)
          · exact ⟨.of_below HB3.out, HG2.out w3 HB3.out⟩
          clear hK K
          try simp only [Act.put, sqp]
          refine sqt 6 ?_
          try simp only [Act.put, sqp]
          refine sqt 7 ?_
          try simp only [Act.put, sqp]
          have z2 := HZB.out w3 HB3.out
          have z3 := HZF.out w3 HB3.out
          refine wpAnyH_ready (rs := [8]) (by kernel_rfl) (by simp) ?_
          refine AllReadyH.cons (by simp only [sqg]; rfl) (fun K hK => ?_) AllReadyH.nil
          go_simp
          skip
          try go_wp2_with fail
          refine hK.out _ _ ?_ (fun hHeld => ?_)
          · exact ⟨Apart.setCell (.of_below HB3.out) (.inl (by simp)) _, HG3.out w3 HB3.out⟩
          clear hK K
          try simp only [Act.put, sqp]
          refine wpAnyH_done (by kernel_rfl) ?_ _
          go_wp2_with fail
          go_roundw
          case rel => exact ⟨i + 1, _, by go_num, by omega, HN.out w3 (HB2.out.trans (HB3.out.mono HB2.out.size))⟩
          case measure => simp [intOf]; omega
        · go_simp
          (go_at_call 110; refine (CD.out _ (Below.refl w2.heap.size w2).drew).mono ?_; rintro e w3 ⟨rfl, hb3⟩; have HB3 := hid ((Below.refl w2.heap.size w2).drew.trans (hb3.mono (Below.refl w2.heap.size w2).drew.size)); have HX3 := hid hb3; clear hb3)
          try go_wp2_with fail
          refine hK.out _ _ ?_ (fun hHeld => ?_)
          · exact ⟨.of_below HB3.out, HG2.out w3 HB3.out⟩
          clear hK K
          try simp only [Act.put, sqp]
          refine sqt 6 ?_
          try simp only [Act.put, sqp]
          clear z1
          have z1 := HZB.out w3 HB3.out
          refine wpAnyH_ready (rs := [0]) (by kernel_rfl) (by simp) ?_
          refine AllReadyH.cons (by simp only [sqg]; rfl) (fun K hK => ?_) AllReadyH.nil
          go_simp
          try go_wp2_with fail
          refine hK.out _ _ ?_ (fun hHeld => ?_)
          · exact hHeld
          clear hK K
          try simp only [Act.put, sqp]
          refine sqt 7 ?_
          try simp only [Act.put, sqp]
          have z2 := HZB.out w3 HB3.out
          have z3 := HZF.out w3 HB3.out
          refine wpAnyH_ready (rs := [8]) (by kernel_rfl) (by simp) ?_
          refine AllReadyH.cons (by simp only [sqg]; rfl) (fun K hK => ?_) AllReadyH.nil
          go_simp
          skip
          try go_wp2_with fail
          refine hK.out _ _ ?_ (fun hHeld => ?_)
          · exact ⟨Apart.setCell (.of_below HB3.out) (.inl (by simp)) _, HG3.out w3 HB3.out⟩
          clear hK K
          try simp only [Act.put, sqp]
          refine wpAnyH_done (by kernel_rfl) ?_ _
          go_wp2_with fail
          go_roundw
          case rel => exact ⟨i + 1, _, by go_num, by omega, HN.out w3 (HB2.out.trans (HB3.out.mono HB2.out.size))⟩
          case measure => simp [intOf]; omega
      · have t3 : decide ((z : Int) ≤ q1) = false := decide_eq_false hge
        have HE := hid (fun W (hW : Below wr.heap.size wr W) => HEND.out W hW (fun _ => by omega))
        clear HNX HEND HW1
        go_wp2_with fail
        refine wp_region_held_drew (S := (fun w' : World => Below wr.heap.size wr w' ∧ w'.cell? ⟨bt, 0, none⟩ = some (.int .i64 q1) ∧ w'.cell? ⟨g, i, none⟩ = some (pv xb))) (by kernel_rfl) ⟨(Below.refl _ _).drew, HQ.out.1 wr (Below.refl _ _), HQ.out.2 wr (Below.refl _ _)⟩ (fun hHeld => ?_)
        refine sqt 0 ?_
        try simp only [Act.put, sqp]
        refine sqt 1 ?_
        try simp only [Act.put, sqp]
        refine sqt 2 ?_
        try simp only [Act.put, sqp]
        refine sqt 3 ?_
        try simp only [Act.put, sqp]
        refine sqt 4 ?_
        try simp only [Act.put, sqp]
        refine sqt 5 ?_
        try simp only [Act.put, sqp]
        refine sqt 6 ?_
        try simp only [Act.put, sqp]
        refine sqt 7 ?_
        try simp only [Act.put, sqp]
        refine sqt 8 ?_
        try simp only [Act.put, sqp]
        refine sqt 9 ?_
        try simp only [Act.put, sqp]
        refine sqt 10 ?_
        try simp only [Act.put, sqp]
        refine wpAnyH_ready (rs := [11]) (by kernel_rfl) (by simp) ?_
        refine AllReadyH.cons (by simp only [sqg]; rfl) (fun K hK => ?_) AllReadyH.nil
        go_simp
        (go_at_call 110; refine (CC.out _ hHeld.1).mono ?_; rintro e w2 ⟨rfl, hb2⟩; have HB2 := hid (hHeld.1.trans (hb2.mono hHeld.1.size)); clear hb2)
        try go_wp2_with fail
        refine hK.out _ _ ?_ (fun hHeld => ?_)
        · exact ⟨HB2.out, HQ.out.1 w2 HB2.out, HQ.out.2 w2 HB2.out⟩
        clear hK K
        try simp only [Act.put, sqp]
        refine sqt 12 ?_
        try simp only [Act.put, sqp]
        refine sqt 13 ?_
        try simp only [Act.put, sqp]
        refine sqt 14 ?_
        try simp only [Act.put, sqp]
        refine wpAnyH_done (by kernel_rfl) ?_ _
        go_wp2_with fail
        go_ret
        exact HE.out _ HB2.out
    · have t1 : decide ((i : Int) < (n : Int) - 1) = false := decide_eq_false (by omega)
      have t2 : ¬ (i : Int) < (n : Int) - 1 := by omega
      have HE := hid (fun W (hW : Below wr.heap.size wr W) => HEND.out W hW (fun h => absurd h hlt))
      clear HNX HEND HW1
      go_wp2_with fail
      refine wp_region_held_drew (S := (fun w' : World => Below wr.heap.size wr w' ∧ w'.cell? ⟨bt, 0, none⟩ = some (.int .i64 q1) ∧ w'.cell? ⟨g, i, none⟩ = some (pv xb))) (by kernel_rfl) ⟨(Below.refl _ _).drew, HQ.out.1 wr (Below.refl _ _), HQ.out.2 wr (Below.refl _ _)⟩ (fun hHeld => ?_)
      refine sqt 0 ?_
      try simp only [Act.put, sqp]
      refine sqt 1 ?_
      try simp only [Act.put, sqp]
      refine sqt 2 ?_
      try simp only [Act.put, sqp]
      refine sqt 3 ?_
      try simp only [Act.put, sqp]
      refine sqt 4 ?_
      try simp only [Act.put, sqp]
      refine sqt 5 ?_
      try simp only [Act.put, sqp]
      refine wpAnyH_take (i := 6) (v := undef) (by simp only [sqg]; rfl) (by kernel_rfl) (by kernel_rfl) (by kernel_rfl) (fun _ _ _ h => by exact h) (Or.inr ⟨by rfl, rfl⟩) (by assumption) ?_
      try simp only [Act.put, sqp]
      refine wpAnyH_take (i := 7) (v := undef) (by simp only [sqg]; rfl) (by kernel_rfl) (by kernel_rfl) (by kernel_rfl) (fun _ _ _ h => by exact h) (Or.inr ⟨by rfl, rfl⟩) (by assumption) ?_
      try simp only [Act.put, sqp]
      refine wpAnyH_take (i := 8) (v := undef) (by simp only [sqg]; rfl) (by kernel_rfl) (by kernel_rfl) (by kernel_rfl) (fun _ _ _ h => by exact h) (Or.inr ⟨by rfl, rfl⟩) (by assumption) ?_
      try simp only [Act.put, sqp]
      refine wpAnyH_take (i := 9) (v := undef) (by simp only [sqg]; rfl) (by kernel_rfl) (by kernel_rfl) (by kernel_rfl) (fun _ _ _ h => by exact h) (Or.inr ⟨by rfl, rfl⟩) (by assumption) ?_
      try simp only [Act.put, sqp]
      refine wpAnyH_take (i := 10) (v := undef) (by simp only [sqg]; rfl) (by kernel_rfl) (by kernel_rfl) (by kernel_rfl) (fun _ _ _ h => by exact h) (Or.inr ⟨by rfl, rfl⟩) (by assumption) ?_
      try simp only [Act.put, sqp]
      refine wpAnyH_take (i := 11) (v := undef) (by simp only [sqg]; rfl) (by kernel_rfl) (by kernel_rfl) (by kernel_rfl) (fun _ _ _ h => by exact h) (Or.inr ⟨by rfl, rfl⟩) (by assumption) ?_
      try simp only [Act.put, sqp]
      refine wpAnyH_take (i := 12) (v := undef) (by simp only [sqg]; rfl) (by kernel_rfl) (by kernel_rfl) (by kernel_rfl) (fun _ _ _ h => by exact h) (Or.inr ⟨by rfl, rfl⟩) (by assumption) ?_
      try simp only [Act.put, sqp]
      refine wpAnyH_take (i := 13) (v := undef) (by simp only [sqg]; rfl) (by kernel_rfl) (by kernel_rfl) (by kernel_rfl) (fun _ _ _ h => by exact h) (Or.inr ⟨by rfl, rfl⟩) (by assumption) ?_
      try simp only [Act.put, sqp]
      refine sqt 14 ?_
      try simp only [Act.put, sqp]
      refine wpAnyH_done (by kernel_rfl) ?_ _
      go_wp2_with fail
      go_ret
      exact HE.out _ (Below.refl _ _).drew
end Go.Proofs.YtfiobemeogaaiaaGreat
namespace Go.Proofs.YtfiobemeogaaiaaGreat
open Lib (hid)
open Go.RowKit
set_option linter.unusedVariables false
set_option linter.unusedSimpArgs false
theorem Apart.below {w w' : World} (h : Apart [] w w') : Below w.heap.size w w' := h.to_below (by simp) (Nat.le_refl _)
theorem Tr.first {S : List Nat} {w : World} {p : Option Addr} {L : List ByteArray} (t : Tr w S p L) : ∀ W, Below w.heap.size w W → Calls Tryz.prog 81 #[.pointer p] W fun e w' => e = .returned (.string (fstL L)) ∧ Below W.heap.size W w' := fun W hW => by
  rcases t with ⟨rfl, rfl⟩ | ⟨b, h, rfl, k⟩
  · exact first_nil W
  · obtain ⟨kv, -, hB⟩ := (k.later hW).cells
    exact first_blk hB
theorem Tr.last {S : List Nat} {w : World} {p : Option Addr} {L : List ByteArray} (t : Tr w S p L) : ∀ W, Below w.heap.size w W → Calls Tryz.prog 80 #[.pointer p] W fun e w' => e = .returned (.string (lstL L)) ∧ Below W.heap.size W w' := fun W hW => by
  rcases t with ⟨rfl, rfl⟩ | ⟨b, h, rfl, k⟩
  · exact last_nil W
  · obtain ⟨kv, -, hB⟩ := (k.later hW).cells
    exact last_blk hB
theorem Tr.bare {S : List Nat} {w : World} {p : Option Addr} {L : List ByteArray} (t : Tr w S p L) : Tr w [] p L := by
  rcases t with t | ⟨b, h, e, k⟩
  · exact .inl t
  · exact .inr ⟨b, h, e, k.weak fun i hi => ⟨hi.1, by simp⟩⟩
theorem leaf_tr (x : ByteArray) (hz : x.size ≤ 1000000) (w : World) : Calls Tryz.prog 143 #[.string x] w (RetTr [] w (leafL x)) := by
  unfold leafL
  by_cases h : fitsB x = true
  · rw [if_pos h]
    exact (leaf_yes x (by unfold maxLen; omega) h w).mono fun e w' ⟨b, he, hb, hB, hbel⟩ => ⟨_, he, .inr ⟨b, 0, rfl, ⟨hB.lt, by simp⟩, x, rfl, (fitsB_iff x).1 h, hB⟩, hbel⟩
  · rw [if_neg h]
    exact (leaf_no x (by unfold maxLen; omega) (Bool.eq_false_iff.2 h) w).mono fun e w' ⟨he, hb⟩ => ⟨none, he, .inl ⟨rfl, rfl⟩, hb⟩
def RetText (w : World) (s : ByteArray) (e : Ending) (w' : World) : Prop := ∃ p L, e = .returned (.pointer p) ∧ Tr w' [] p L ∧ TightP L ∧ wholeL L = s ∧ Below w.heap.size w w'
theorem ends_small {L : List ByteArray} (h : TightP L) : (fstL L).size ≤ 16 ∧ (lstL L).size ≤ 16 := by
  cases hL : L with
  | nil => exact ⟨Nat.zero_le _, Nat.zero_le _⟩
  | cons x M =>
    subst hL
    have h0 : 0 < (x :: M).length := by simp
    rw [fstL_get h0, lstL_get h0]
    exact ⟨(h _ _).1.2.1, (h _ _).1.2.1⟩
theorem inS_nil (w : World) : InS [] w := fun m hm => absurd hm (by simp)
set_option maxRecDepth 100000 in
set_option maxHeartbeats 1600000 in
theorem concat_two {w : World} {p q : Option Addr} {L R : List ByteArray} (t1 : Tr w [] p L) (t2 : Tr w [] q R) (hL : TightP L) (hR : TightP R) (hz : (wholeL (L ++ R)).size ≤ 6000) (hn : (joinL (lstL L) (fstL R)).length ≠ 1) :
    Calls Tryz.prog 151 #[.pointer p, .pointer q] w (RetText w (wholeL L ++ wholeL R)) := by
  have c1 := t1.last
  have c2 := t2.first
  have z1 := (ends_small hL).2
  have z2 := (ends_small hR).1
  have cj := join_any (lstL L) (fstL R) (by omega) (by omega)
  have ct := fun W (hW : Below w.heap.size w W) => together_two (inS_nil W) (t1.later hW) (t2.later hW) hz
  have HE := hid (fun W W' e (hb : Below w.heap.size w W) (h : RetTr [] W (L ++ R) e W') => (show RetText w (wholeL L ++ wholeL R) e W' from by
    obtain ⟨p', h1, h2, h3⟩ := h
    exact ⟨p', _, h1, h2, glue_two hL hR hn, whole_app L R, hb.trans (h3.mono hb.size)⟩))
  obtain ⟨x, hx⟩ : ∃ x, lstL L = x := ⟨_, rfl⟩
  obtain ⟨y, hy⟩ : ∃ y, fstL R = y := ⟨_, rfl⟩
  rw [hx] at c1
  rw [hy] at c2
  rw [hx, hy] at cj hn
  obtain ⟨n, hjn⟩ : ∃ n, (joinL x y).length = n := ⟨_, rfl⟩
  unfold RetStrs at cj
  rw [hjn] at cj hn
  have b1 : ((n : Int) == 1) = false := by simpa using (show ¬ (n : Int) = 1 by omega)
  have b2 : (n == 1) = false := by simpa using hn
  have b3 : ((n : Int) != 1) = true := by simpa using (show ¬ (n : Int) = 1 by omega)
  have b4 : (n != 1) = true := by simpa using hn
  have C1 := hid c1; have C2 := hid c2; have CJ := hid cj; have CT := hid ct
  clear c1 c2 z1 z2 cj ct hx hy hjn hn t1 t2 hL hR hz
  go_enter Tryz.func151, Tryz.ntmps151
  go_wp2_with fail
  refine (C1.out _ (Below.refl _ _)).mono ?_; rintro e w1 ⟨rfl, hb1⟩
  have HB1 := hid hb1
  clear hb1
  go_wp2_with fail
  refine (onward HB1.out (C2.out _ HB1.out)).mono ?_; rintro e w2 ⟨rfl, hb2⟩
  have HB2 := hid hb2
  clear hb2
  go_wp2_with fail
  refine (CJ.out w2).mono ?_; rintro e w3 ⟨a, c, rfl, -, hb3⟩
  have HB3 := hid (HB2.out.trans (hb3.mono HB2.out.size))
  clear hb3
  go_wp2_with fail
  refine (CT.out w3 HB3.out).mono ?_; intro e w4 hr
  have HR := hid (HE.out w3 w4 e HB3.out hr)
  obtain ⟨p', rfl, -, -⟩ := hr
  go_wp2
  go_ret
  exact HR.out
set_option maxRecDepth 100000 in
set_option maxHeartbeats 1600000 in
theorem concat_one {w : World} {p q : Option Addr} {L R : List ByteArray} (t1 : Tr w [] p L) (t2 : Tr w [] q R) (hL : TightP L) (hR : TightP R) (hz : (wholeL (L ++ R)).size ≤ 6000) (hn : (joinL (lstL L) (fstL R)).length = 1) :
    Calls Tryz.prog 151 #[.pointer p, .pointer q] w (RetText w (wholeL L ++ wholeL R)) := by
  have c1 := t1.last
  have c2 := t2.first
  have z1 := (ends_small hL).2
  have z2 := (ends_small hR).1
  have cj := join_any (lstL L) (fstL R) (by omega) (by omega)
  have hj := join_is_one hn
  obtain ⟨f1, f2, f3⟩ := (join_len_one _ _).1 hn
  rcases t1 with ⟨-, rfl⟩ | ⟨b1, h1, rfl, k1⟩
  · exact absurd f1.1 (show ¬ 1 ≤ (0 : Nat) by decide)
  rcases t2 with ⟨-, rfl⟩ | ⟨b2, h2, rfl, k2⟩
  · exact absurd f2.1 (show ¬ 1 ≤ (0 : Nat) by decide)
  have hz' := hz
  rw [whole_szs] at hz'
  have g1 := k1.high (by omega)
  have g2 := k2.high (by omega)
  have ca := fun W (hW : Below w.heap.size w W) => around1_any last_pick last_way h1 (by omega) W b1 L 0 (k1.later hW) (inS_nil W) trivial (by omega)
  have cb := fun W (hW : Below w.heap.size w W) => around2_any first_pick first_way h2 (by omega) W b2 R 0 (k2.later hW) (inS_nil W) trivial (by omega)
  have cl := leaf_tr (lstL L ++ fstL R) (by rw [ByteArray.size_append]; omega)
  have hlf : leafL (lstL L ++ fstL R) = [lstL L ++ fstL R] := by
    unfold leafL
    rw [if_pos ((fitsB_iff _).2 (fits_app f1 f2 f3))]
  rw [hlf] at cl
  have hend : ∀ (A C : List ByteArray) (s1 s2 : ByteArray), L = A ++ ([s1] ++ []) → R = [] ++ ([s2] ++ C) → TightP (A ++ ([lstL L ++ fstL R] ++ C)) ∧ wholeL (A ++ ([lstL L ++ fstL R] ++ C)) = wholeL L ++ wholeL R := fun A C s1 s2 e1 e2 => by
    rw [List.append_nil] at e1
    rw [List.nil_append] at e2
    have x1 : lstL L = s1 := by rw [e1]; exact lstL_snoc A s1
    have x2 : fstL R = s2 := by rw [e2]; rfl
    rw [x1, x2] at f3
    rw [e1] at hL
    rw [e2] at hR
    have := glue_one hL hR f3
    rw [x1, x2, e1, e2]
    exact this
  have ct : ∀ W p1 p2 p3 A C s1 s2, Tr W [] p1 A → Tr W [] p2 [lstL L ++ fstL R] → Tr W [] p3 C → L = A ++ ([s1] ++ []) → R = [] ++ ([s2] ++ C) → Below w.heap.size w W → Calls Tryz.prog 171 #[.slice (some ⟨W.heap.size, 0, none⟩) (3 : Nat) (3 : Nat)] (W.alloc (.cells #[.pointer p1, .pointer p2, .pointer p3] 71)) (RetText w (wholeL L ++ wholeL R)) := fun W p1 p2 p3 A C s1 s2 u1 u2 u3 e1 e2 hW => by
    obtain ⟨y1, y2⟩ := hend A C s1 s2 e1 e2
    refine (together_three (inS_nil W) u1 u2 u3 (by rw [y2, ByteArray.size_append]; exact hz')).mono ?_
    rintro e w' ⟨p', h1, h2, h3⟩
    exact ⟨p', _, h1, h2, y1, y2, hW.trans (h3.mono hW.size)⟩
  obtain ⟨x, hx⟩ : ∃ x, lstL L = x := ⟨_, rfl⟩
  obtain ⟨y, hy⟩ : ∃ y, fstL R = y := ⟨_, rfl⟩
  rw [hx] at c1
  rw [hy] at c2
  rw [hx, hy] at cj hj cl ct
  unfold RetStrs at cj
  rw [hj] at cj
  obtain ⟨xy, hxy⟩ : ∃ xy, x ++ y = xy := ⟨_, rfl⟩
  rw [hxy] at cj cl ct
  have C1 := hid c1; have C2 := hid c2; have CJ := hid cj; have CA := hid ca; have CB := hid cb; have CL := hid cl; have CT := hid ct
  clear c1 c2 z1 z2 cj ca cb cl ct hx hy hxy hj hn hend hlf f1 f2 f3 k1 k2 hL hR hz hz' g1 g2
  go_enter Tryz.func151, Tryz.ntmps151
  go_wp2_with fail
  refine (C1.out _ (Below.refl _ _)).mono ?_; rintro e w1 ⟨rfl, hb1⟩
  have HB1 := hid hb1
  clear hb1
  go_wp2_with fail
  refine (onward HB1.out (C2.out _ HB1.out)).mono ?_; rintro e w2 ⟨rfl, hb2⟩
  have HB2 := hid hb2
  clear hb2
  go_wp2_with fail
  refine (CJ.out w2).mono ?_; rintro e w3 ⟨a, c, rfl, hst, hb3⟩
  obtain ⟨ad, rfl, hab, q0⟩ := hst 0 (by simp)
  have HQ0 := hid (show w3.cell? ad = some (.string xy) by simpa [Addr.add] using q0)
  have HAB := hid (show ad.block < w3.heap.size from hab)
  have HB3 := hid (HB2.out.trans (hb3.mono HB2.out.size))
  clear hb3 hst hab q0
  go_wp2_with fail
  refine (CA.out w3 HB3.out).mono ?_; rintro e w4 ⟨p1, A, s1, p2, C1', q', rfl, t1, -, e1, r1, -, ha4⟩
  unfold lastR at r1
  subst r1
  have hb4 := ha4.below
  have HB4 := hid (HB3.out.trans (hb4.mono HB3.out.size)); have HX4 := hid hb4; have HT1 := hid t1; have HE1 := hid e1
  clear t1 e1 ha4 hb4
  go_wp2_with fail
  refine (CB.out w4 HB4.out).mono ?_; rintro e w5 ⟨p3, A2, s2, p4, C2', q2, rfl, -, t4, e2, r2, -, ha5⟩
  unfold firstR at r2
  subst r2
  have hb5 := ha5.below
  have HB5 := hid (HB4.out.trans (hb5.mono HB4.out.size)); have HX5 := hid hb5; have HT4 := hid t4; have HE2 := hid e2
  have q0 : w5.cell? ad = some (.string xy) := ((HX4.out.trans (hb5.mono HX4.out.size)).cell HAB.out).trans HQ0.out
  clear t4 e2 ha5 hb5
  go_wp2_with fail
  refine (CL.out w5).mono ?_; rintro e w6 ⟨p5, rfl, t5, hb6⟩
  have HB6 := hid (HB5.out.trans (hb6.mono HB5.out.size)); have HX6 := hid hb6; have HT5 := hid t5
  clear t5 hb6
  go_wp2_with fail
  refine (CT.out w6 p1 p5 p4 A C2' s1 s2 ((HT1.out.later HX5.out).later HX6.out) HT5.out (HT4.out.later HX6.out) HE1.out HE2.out HB6.out).mono ?_
  rintro e w7 ⟨p', L', rfl, hr⟩
  have HR := hid (show RetText w (wholeL L ++ wholeL R) (.returned (.pointer p')) w7 from ⟨p', L', rfl, hr⟩)
  clear hr
  go_wp2
  go_ret
  exact HR.out
theorem concat_any {w : World} {p q : Option Addr} {L R : List ByteArray} (t1 : Tr w [] p L) (t2 : Tr w [] q R) (hL : TightP L) (hR : TightP R) (hz : (wholeL (L ++ R)).size ≤ 6000) :
    Calls Tryz.prog 151 #[.pointer p, .pointer q] w (RetText w (wholeL L ++ wholeL R)) := by
  by_cases hn : (joinL (lstL L) (fstL R)).length = 1
  · exact concat_one t1 t2 hL hR hz hn
  · exact concat_two t1 t2 hL hR hz hn
structure CutP2 (L : List ByteArray) (at' : Int) (A : List ByteArray) (s : ByteArray) (C : List ByteArray) (q : Int) : Prop where
  ta : TightP A
  tc : TightP C
  small : s.size ≤ 16
  le : backI s.data.toList q ≤ s.size
  t1 : TightP (leafL (s.extract 0 (backI s.data.toList q)))
  w1 : wholeL (leafL (s.extract 0 (backI s.data.toList q))) = s.extract 0 (backI s.data.toList q)
  t2 : TightP (leafL (s.extract (backI s.data.toList q) s.size))
  w2 : wholeL (leafL (s.extract (backI s.data.toList q) s.size)) = s.extract (backI s.data.toList q) s.size
  e1 : (wholeL L).extract 0 (backI (wholeL L).data.toList at') = wholeL A ++ s.extract 0 (backI s.data.toList q)
  e2 : (wholeL L).extract (backI (wholeL L).data.toList at') (wholeL L).size = s.extract (backI s.data.toList q) s.size ++ wholeL C
theorem CutAt.made {L A C : List ByteArray} {s : ByteArray} {p q : Int} (h : CutAt L p A s C q) (hL : TightP L) : CutP2 L p A s C q := by
  obtain ⟨h1, h2, h3, h4, h5, h6, h7, h8, h9, h10⟩ := h.parts hL
  exact ⟨h1, h2, h3.2.1, h4, h5, h6, h7, h8, h9, h10⟩
theorem empty_ext (a b : Nat) : (⟨#[]⟩ : ByteArray).extract a b = ⟨#[]⟩ := by
  apply str_ext
  rw [extract_list]
  simp
theorem leafL_empty : leafL ⟨#[]⟩ = [] := by unfold leafL; rw [if_neg (by decide +kernel)]
theorem cut_none (p : Int) : CutP2 [] p [] ⟨#[]⟩ [] p := by
  have h : backI (⟨#[]⟩ : ByteArray).data.toList p ≤ 0 := by have := backI_le (⟨#[]⟩ : ByteArray).data.toList p; simpa using this
  refine ⟨tight_nil, tight_nil, Nat.zero_le _, h, ?_, ?_, ?_, ?_, ?_, ?_⟩
  · rw [empty_ext, leafL_empty]; exact tight_nil
  · rw [empty_ext, leafL_empty]; rfl
  · rw [empty_ext, leafL_empty]; exact tight_nil
  · rw [empty_ext, leafL_empty]; rfl
  · show (⟨#[]⟩ : ByteArray).extract _ _ = ⟨#[]⟩ ++ (⟨#[]⟩ : ByteArray).extract _ _
    rw [empty_ext, empty_ext]; rfl
  · show (⟨#[]⟩ : ByteArray).extract _ _ = (⟨#[]⟩ : ByteArray).extract _ _ ++ ⟨#[]⟩
    rw [empty_ext, empty_ext]; rfl
def RetSplit (w : World) (s t : ByteArray) (e : Ending) (w' : World) : Prop :=
  ∃ p L q R, e = .returned (.tuple #[.pointer p, .pointer q]) ∧ Tr w' [] p L ∧ Tr w' [] q R ∧ TightP L ∧ TightP R ∧ wholeL L = s ∧ wholeL R = t ∧ Below w.heap.size w w'
def RetDown (bt : Nat) (w1 : World) (L : List ByteArray) (at' : Int) (e : Ending) (w' : World) : Prop :=
  ∃ p1 A s p2 C q, e = .returned (.tuple #[.pointer p1, .string s, .pointer p2]) ∧ Tr w' [] p1 A ∧ Tr w' [] p2 C ∧ CutP2 L at' A s C q ∧ w'.cell? ⟨bt, 0, none⟩ = some (.int .i64 q) ∧ (wholeL A).size ≤ (wholeL L).size ∧ (wholeL C).size ≤ (wholeL L).size ∧ Apart [bt] w1 w'
theorem down_any {bt : Nat} {w : World} {p : Option Addr} {L : List ByteArray} {at' : Int} (t : Tr w [bt] p L) (hL : TightP L) (hz : (wholeL L).size ≤ 6000) (hq : placeI bt at' w) :
    Calls Tryz.prog 172 #[.pointer p, .func (.func 193) #[] #[.pointer (some ⟨bt, 0, none⟩)]] w (RetDown bt w L at') := by
  have hlt := hq.1.lt
  rcases t with ⟨rfl, rfl⟩ | ⟨b, h, rfl, k⟩
  · refine (around_nil _ w).mono ?_
    rintro e w' ⟨rfl, hb⟩
    exact ⟨none, [], _, none, [], at', rfl, .inl ⟨rfl, rfl⟩, .inl ⟨rfl, rfl⟩, cut_none at', (hq.1.onto hb).cell 0 _ rfl, Nat.le_refl _, Nat.le_refl _, .of_below hb⟩
  · have g := k.high hz
    refine (around3_any (place_pick bt) place_way h (by omega) w b L at' k (fun m hm => by rw [List.mem_singleton.1 hm]; exact hlt) hq hz).mono ?_
    rintro e w' ⟨p1, A, s, p2, C, q, rfl, t1, t2, he, hr, hq', ha⟩
    refine ⟨p1, A, s, p2, C, q, rfl, t1.bare, t2.bare, CutAt.made hr hL, hq'.1.cell 0 _ rfl, ?_, ?_, ha⟩
    · rw [he, whole_szs]; omega
    · rw [he, whole_szs, whole_szs]; omega
set_option maxRecDepth 100000 in
set_option maxHeartbeats 1600000 in
theorem split_any {w : World} {p : Option Addr} {L : List ByteArray} {at' : Int} (t : Tr w [] p L) (hL : TightP L) (hz : (wholeL L).size ≤ 5000) (hat : i64P at') :
    Calls Tryz.prog 181 #[.pointer p, .int .i64 at'] w (RetSplit w ((wholeL L).extract 0 (backI (wholeL L).data.toList at')) ((wholeL L).extract (backI (wholeL L).data.toList at') (wholeL L).size)) := by
  have hmf : ∀ (fn : Fn) (first cap : Array Value) (w : World), (Instr.makeFunc fn first cap).run Tryz.prog w = .ok (.func fn first cap) w := fun _ _ _ _ => rfl
  have hb1 : Below w.heap.size w (w.alloc (.cells #[.int .i64 at'] 3)) := (Below.refl _ _).alloc (Nat.le_refl _) _
  have ht1 : Tr (w.alloc (.cells #[.int .i64 at'] 3)) [w.heap.size] p L := by
    rcases t with t | ⟨b, h, e, k⟩
    · exact .inl t
    · exact .inr ⟨b, h, e, k.beside hb1 (Nat.le_refl _)⟩
  have cd := down_any ht1 hL (by omega) ⟨Blk.new w _ _, hat⟩
  have HZ := hid hz
  obtain ⟨s1, hs1⟩ : ∃ s1, (wholeL L).extract 0 (backI (wholeL L).data.toList at') = s1 := ⟨_, rfl⟩
  obtain ⟨s2, hs2⟩ : ∃ s2, (wholeL L).extract (backI (wholeL L).data.toList at') (wholeL L).size = s2 := ⟨_, rfl⟩
  rw [hs1, hs2]
  have HS1 := hid hs1; have HS2 := hid hs2; have CD := hid cd; have HB1 := hid hb1
  clear hs1 hs2 cd hb1 ht1 t hL hz hat
  go_enter Tryz.func181, Tryz.ntmps181
  go_wp2_with fail
  refine CD.out.mono ?_; rintro e w2 ⟨p1, A, s, p2, C, q, rfl, t1, t2, hc, hcell, z1, z2, ha⟩
  have hb2 : Below w.heap.size w w2 := HB1.out.trans (ha.to_below (by simp) HB1.out.size)
  have cb := back_any s (by have := hc.small; unfold maxLen; omega) q w2
  have h16 := hc.small
  have hle := hc.le
  obtain ⟨n, hn⟩ : ∃ n, backI s.data.toList q = n := ⟨_, rfl⟩
  have hE1 := HS1.out.symm.trans hc.e1
  have hE2 := HS2.out.symm.trans hc.e2
  have hT1 := hc.t1
  have hT2 := hc.t2
  have hW1 := hc.w1
  have hW2 := hc.w2
  rw [hn] at cb hle hE1 hE2 hT1 hT2 hW1 hW2
  have y1 := piece_size s n hle
  have y2 := rest_size s n
  have cl1 := leaf_tr (s.extract 0 n) (by omega)
  have cl2 := leaf_tr (s.extract n s.size) (by omega)
  have cc1 : ∀ W q, Below w2.heap.size w2 W → Tr W [] q (leafL (s.extract 0 n)) → Calls Tryz.prog 151 #[.pointer p1, .pointer q] W (RetText W s1) := fun W q hW tq => by
    have := concat_any (t1.later hW) tq hc.ta hT1 (by rw [whole_szs, hW1]; have := HZ.out; omega)
    rwa [hW1, ← hE1] at this
  have cc2 : ∀ W q, Below w2.heap.size w2 W → Tr W [] q (leafL (s.extract n s.size)) → Calls Tryz.prog 151 #[.pointer q, .pointer p2] W (RetText W s2) := fun W q hW tq => by
    have := concat_any tq (t2.later hW) hT2 hc.tc (by rw [whole_szs, hW2]; have := HZ.out; omega)
    rwa [hW2, ← hE2] at this
  have HB2 := hid hb2; have CB := hid cb; have L1 := hid cl1; have L2 := hid cl2; have C1 := hid cc1; have C2 := hid cc2
  have b1 : (n : Int) ≤ (s.size : Int) := by omega
  have b2 : (0 : Int) ≤ (n : Int) := by omega
  clear t1 t2 hc z1 z2 ha hb2 cb hn hE1 hE2 hT1 hT2 hW1 hW2 y1 y2 cl1 cl2 cc1 cc2
  go_wp2_with fail
  refine CB.out.mono ?_; rintro e w3 ⟨rfl, rfl⟩
  go_wp2_with fail
  refine wp_region_held_drew (S := (fun w' : World => Below w2.heap.size w2 w')) (by kernel_rfl) (Below.refl _ _).drew (fun hHeld => ?_)
  refine sqt 0 ?_
  try simp only [Act.put, sqp]
  refine sqt 1 ?_
  try simp only [Act.put, sqp]
  refine sqt 2 ?_
  try simp only [Act.put, sqp]
  refine sqt 3 ?_
  try simp only [Act.put, sqp]
  refine sqt 6 ?_
  try simp only [Act.put, sqp]
  refine sqt 7 ?_
  try simp only [Act.put, sqp]
  refine sqt 8 ?_
  try simp only [Act.put, sqp]
  refine sqt 10 ?_
  try simp only [Act.put, sqp]
  refine wpAnyH_ready (rs := [4]) (by kernel_rfl) (by simp) ?_
  refine AllReadyH.cons (by simp only [sqg]; rfl) (fun K hK => ?_) AllReadyH.nil
  go_simp
  (go_at_call 143; refine (L1.out _).mono ?_; rintro e w3 ⟨u1, rfl, v1, hb3⟩; have HB3 := hid (hHeld.trans (hb3.mono hHeld.size)); have HV1 := hid v1; clear v1 hb3)
  try go_wp2_with fail
  refine hK.out _ _ ?_ (fun hHeld => ?_)
  · exact HB3.out
  clear hK K
  try simp only [Act.put, sqp]
  refine wpAnyH_ready (rs := [5]) (by kernel_rfl) (by simp) ?_
  refine AllReadyH.cons (by simp only [sqg]; rfl) (fun K hK => ?_) AllReadyH.nil
  go_simp
  (go_at_call 151; refine (C1.out w3 u1 HB3.out HV1.out).mono ?_; rintro e w4 ⟨u2, M2, rfl, v2, k2, x2, hb4⟩; have HB4 := hid (HB3.out.trans (hb4.mono HB3.out.size)); have HV2 := hid v2; have HK2 := hid k2; have HX2 := hid x2; clear v2 k2 x2 hb4)
  try go_wp2_with fail
  refine hK.out _ _ ?_ (fun hHeld => ?_)
  · exact HB4.out
  clear hK K
  try simp only [Act.put, sqp]
  refine wpAnyH_ready (rs := [9]) (by kernel_rfl) (by simp) ?_
  refine AllReadyH.cons (by simp only [sqg]; rfl) (fun K hK => ?_) AllReadyH.nil
  go_simp
  (go_at_call 143; refine (L2.out w4).mono ?_; rintro e w5 ⟨u3, rfl, v3, hb5⟩; have HB5 := hid (HB4.out.trans (hb5.mono HB4.out.size)); have HY5 := hid hb5; have HV3 := hid v3; clear v3 hb5)
  try go_wp2_with fail
  refine hK.out _ _ ?_ (fun hHeld => ?_)
  · exact HB5.out
  clear hK K
  try simp only [Act.put, sqp]
  refine wpAnyH_ready (rs := [11]) (by kernel_rfl) (by simp) ?_
  refine AllReadyH.cons (by simp only [sqg]; rfl) (fun K hK => ?_) AllReadyH.nil
  go_simp
  (go_at_call 151; refine (C2.out w5 u3 HB5.out HV3.out).mono ?_; rintro e w6 ⟨u4, M4, rfl, v4, k4, x4, hb6⟩; have HB6 := hid (HB5.out.trans (hb6.mono HB5.out.size)); have HY6 := hid hb6; have HV4 := hid v4; have HK4 := hid k4; have HX4 := hid x4; clear v4 k4 x4 hb6)
  try go_wp2_with fail
  refine hK.out _ _ ?_ (fun hHeld => ?_)
  · exact HB6.out
  clear hK K
  try simp only [Act.put, sqp]
  refine sqt 12 ?_
  try simp only [Act.put, sqp]
  refine sqt 13 ?_
  try simp only [Act.put, sqp]
  refine wpAnyH_done (by kernel_rfl) ?_ _
  go_wp2_with fail
  go_ret2
  exact ⟨u2, M2, u4, M4, rfl, (HV2.out.later HY5.out).later HY6.out, HV4.out, HK2.out, HK4.out, HX2.out, HX4.out, HB2.out.trans (HB6.out.mono HB2.out.size)⟩
end Go.Proofs.YtfiobemeogaaiaaGreat
namespace Go.Proofs.YtfiobemeogaaiaaGreat
open Go.RowKit
set_option linter.unusedVariables false
set_option linter.unusedSimpArgs false
abbrev tightV (bs bf : Nat) : Value := .func (.func 77) #[] #[.pointer (some ⟨bs, 0, none⟩), .pointer (some ⟨bf, 0, none⟩)]
structure TBox (w : World) (m bs bf : Nat) : Prop where
  c1 : w.cell? ⟨bs, 0, none⟩ = some (.map (some m))
  c2 : w.cell? ⟨bf, 0, none⟩ = some (tightV bs bf)
  n1 : bs ≠ m
  n2 : bf ≠ m
theorem TBox.apart {w w' : World} {m bs bf : Nat} (h : TBox w m bs bf) (ha : Apart [m] w w') : TBox w' m bs bf :=
  ⟨(ha.cell (p := ⟨bs, 0, none⟩) (World.block_lt_of_cell? w _ h.c1) (by simpa using h.n1)).trans h.c1, (ha.cell (p := ⟨bf, 0, none⟩) (World.block_lt_of_cell? w _ h.c2) (by simpa using h.n2)).trans h.c2, h.n1, h.n2⟩
end Go.Proofs.YtfiobemeogaaiaaGreat
