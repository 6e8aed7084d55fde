/-
  The walk of the law FusePlays.
-/
import Derived.Test.YtllbpjgmmbnogaaLawFuse
import Derived.Test.YtllbpjgmmbnogaaOpen
import Derived.Deep.DeepCutAuto
namespace Go.Proofs.Ytllbpjgmmbnogaa
open Go.RowKit

/-- A call of the script. -/
structure Op10 where
  k : Int
  fk : Int
  fn : Int
def Op10.fits (x : Op10) : Prop := x.fn ≤ 9223372036854775807
/-- A slice that reads as these; its row lies below B. -/
def Op10s (w : World) (B : Nat) (a : Option Addr) (l : List Op10) : Prop :=
  ∀ (k : Nat) (h : k < l.length), ∃ ad, a = some ad ∧ ad.block < B ∧ w.cell? (ad.add (k * 3)) = some (.int .i64 (l[k]).k) ∧ w.cell? ⟨(ad.add (k * 3)).block, (ad.add (k * 3)).off + 1, none⟩ = some (.int .i64 (l[k]).fk) ∧ w.cell? ⟨(ad.add (k * 3)).block, (ad.add (k * 3)).off + 2, none⟩ = some (.int .i64 (l[k]).fn)
theorem Op10s.below {w w' : World} {B : Nat} {a : Option Addr} {l : List Op10} (h : Op10s w B a l) (hb : Below B w w') : Op10s w' B a l := fun k hl => by
  obtain ⟨ad, e, hlt, q0, q1, q2⟩ := h k hl
  have hbl : (ad.add (k * 3)).block = ad.block := by unfold Addr.add; split <;> rfl
  exact ⟨ad, e, hlt, (hb.cell (by rw [hbl]; exact hlt)).trans q0, (hb.cell (by show (ad.add (k * 3)).block < B; rw [hbl]; exact hlt)).trans q1, (hb.cell (by show (ad.add (k * 3)).block < B; rw [hbl]; exact hlt)).trans q2⟩

/-- What the loop of the law holds at each round's head. -/
def Inv10 (w : World) (g : Nat) (a : Addr) (wr : World) (f : Fus) : Prop :=
  ∃ S, IsFuse wr S a f ∧ f.ok ∧ (∀ b ∈ S, w.heap.size ≤ b) ∧ g ∉ S ∧ w.heap.size ≤ g ∧ g < wr.heap.size ∧ Has4 wr g f ∧ Free4 wr g ∧ Below w.heap.size w wr

theorem inv_copy {w wr w3 w4 w5 : World} {S S3 S4 : List Nat} {a a3 : Addr} {f : Fus} {g : Nat} (hF : IsFuse wr S a f) (hok : f.ok) (hS : ∀ b ∈ S, w.heap.size ≤ b) (hgS : g ∉ S) (hg0 : w.heap.size ≤ g) (hg1 : g < wr.heap.size)
    (hq : Has4 wr g f) (hfr : Free4 wr g) (hbel : Below w.heap.size w wr) (hF3 : IsFuse w3 S3 a3 f) (hS3 : ∀ b ∈ S3, wr.heap.size ≤ b) (hb3 : Below wr.heap.size wr w3)
    (hA4 : Apart S w3 w4) (hS4 : ∀ b ∈ S4, b ∈ S ∨ w3.heap.size ≤ b) (hA5 : Apart S4 w4 w5) : Inv10 w g a3 w5 f := by
  have hl := hF.lt
  have hl3 := hF3.lt
  have z3 := hb3.size
  have z4 := hA4.size
  have z5 := hA5.size
  have zw := hbel.size
  have n4 : ∀ x, x < w3.heap.size → x ∉ S → x ∉ S4 := fun x h1 h2 h => (hS4 x h).elim h2 (fun h => by omega)
  have n3 : ∀ x ∈ S3, x ∉ S := fun x h1 h2 => by have := hl x h2; have := hS3 x h1; omega
  refine ⟨S3, (hF3.kept hA4 n3).kept hA5 (fun x h => n4 x (hl3 x h) (n3 x h)), hok, fun x h => Nat.le_trans zw (hS3 x h), fun h => by have := hS3 g h; omega, hg0, by omega, ?_, ?_, ?_⟩
  · refine hq.keep fun o => ?_
    exact ((hA5.cell (p := ⟨g, o, none⟩) (by show g < _; omega) (n4 g (by omega) hgS)).trans (hA4.cell (p := ⟨g, o, none⟩) (by show g < _; omega) hgS)).trans (hb3.cell (p := ⟨g, o, none⟩) hg1)
  · refine hfr.keep fun o => ?_
    exact ((hA5.frozen (p := ⟨g, o, none⟩) (by show g < _; omega) (n4 g (by omega) hgS)).trans (hA4.frozen (p := ⟨g, o, none⟩) (by show g < _; omega) hgS)).trans (hb3.frozen (p := ⟨g, o, none⟩) hg1)
  · have h3 := hbel.trans (hb3.mono zw)
    have h4 := h3.trans (hA4.to_below hS h3.size)
    exact h4.trans (hA5.to_below (fun b hb => (hS4 b hb).elim (hS b) (fun h => Nat.le_trans h3.size h)) h4.size)

/-- What holds behind the step: the next state in a block of its own, and the fuse has gone on. -/
def Aft (w : World) (g : Nat) (a : Addr) (f n : Fus) (v7 v8 : Value) (wx : World) : Prop :=
  ∃ g7 S', v7 = .pointer (some ⟨g7, 0, none⟩) ∧ v8 = .bool true ∧ IsFuse wx S' a n ∧ (∀ b ∈ S', w.heap.size ≤ b) ∧ g ∉ S' ∧ w.heap.size ≤ g ∧ g < wx.heap.size ∧ Has4 wx g f ∧ Free4 wx g ∧ Has4 wx g7 n ∧ Below w.heap.size w wx

theorem aftB {w wr w4 : World} {S S4 : List Nat} {a : Addr} {f n : Fus} {g : Nat} (hS : ∀ b ∈ S, w.heap.size ≤ b) (hgS : g ∉ S) (hg0 : w.heap.size ≤ g) (hg1 : g < wr.heap.size)
    (hq : Has4 wr g f) (hfr : Free4 wr g) (hbel : Below w.heap.size w wr) (hF4 : IsFuse w4 S4 a n) (hA4 : Apart S wr.drew w4) (hS4 : ∀ b ∈ S4, b ∈ S ∨ wr.drew.heap.size ≤ b) :
    Aft w g a f n (.pointer (some ⟨w4.heap.size, 0, none⟩)) (.bool true) (w4.alloc (.cells #[.int .i64 n.p, .int .i64 n.s, .int .i64 n.d, .bool n.off] 27)) := by
  have z4 : wr.heap.size ≤ w4.heap.size := hA4.size
  have zw := hbel.size
  have hb := (Below.refl w4.heap.size w4).alloc (Nat.le_refl _) (.cells #[.int .i64 n.p, .int .i64 n.s, .int .i64 n.d, .bool n.off] 27)
  have hgl : g < w4.heap.size := by omega
  refine ⟨_, S4, rfl, rfl, hF4.below hb, fun b h => (hS4 b h).elim (hS b) (fun h => Nat.le_trans zw h), fun h => (hS4 g h).elim hgS (fun h => by have : wr.heap.size ≤ g := h; omega), hg0, by simp; omega, ?_, ?_, (has4_new w4 n _).1, ?_⟩
  · exact hq.keep fun o => (hb.cell (p := ⟨g, o, none⟩) hgl).trans (hA4.cell (p := ⟨g, o, none⟩) hg1 hgS)
  · exact hfr.keep fun o => (hb.frozen (p := ⟨g, o, none⟩) hgl).trans (hA4.frozen (p := ⟨g, o, none⟩) hg1 hgS)
  · exact (hbel.drew.trans (hA4.to_below hS zw)).trans (hb.mono (by omega))

theorem set4_has {w : World} {g : Nat} {f : Fus} (n : Fus) (h : Has4 w g f) : Has4 ((((w.setCell ⟨g, 0, none⟩ (.int .i64 n.p)).setCell ⟨g, 1, none⟩ (.int .i64 n.s)).setCell ⟨g, 2, none⟩ (.int .i64 n.d)).setCell ⟨g, 3, none⟩ (.bool n.off)) g n := by
  obtain ⟨h0, h1, h2, h3⟩ := h
  refine ⟨?_, ?_, ?_, ?_⟩ <;> simp [go_sem, h0, h1, h2, h3]
theorem set4_free {w : World} {g : Nat} (u0 u1 u2 u3 : Value) (h : Free4 w g) : Free4 ((((w.setCell ⟨g, 0, none⟩ u0).setCell ⟨g, 1, none⟩ u1).setCell ⟨g, 2, none⟩ u2).setCell ⟨g, 3, none⟩ u3) g := by
  obtain ⟨h0, h1, h2, h3⟩ := h
  refine ⟨?_, ?_, ?_, ?_⟩ <;> simp [go_sem, h0, h1, h2, h3]
theorem set4_apart (w : World) (g : Nat) (u0 u1 u2 u3 : Value) : Apart [g] w ((((w.setCell ⟨g, 0, none⟩ u0).setCell ⟨g, 1, none⟩ u1).setCell ⟨g, 2, none⟩ u2).setCell ⟨g, 3, none⟩ u3) :=
  ((((Apart.refl [g] w).setCell (p := ⟨g, 0, none⟩) (.inl (by simp)) _).setCell (p := ⟨g, 1, none⟩) (.inl (by simp)) _).setCell (p := ⟨g, 2, none⟩) (.inl (by simp)) _).setCell (p := ⟨g, 3, none⟩) (.inl (by simp)) _

theorem aftA {w wr w4 : World} {S S4 : List Nat} {a : Addr} {f n : Fus} {g : Nat} {o : Obj} (hF : IsFuse wr S a f) (hS : ∀ b ∈ S, w.heap.size ≤ b) (hgS : g ∉ S) (hg0 : w.heap.size ≤ g) (hg1 : g < wr.heap.size)
    (hq : Has4 wr g f) (hfr : Free4 wr g) (hbel : Below w.heap.size w wr) (hF4 : IsFuse w4 S4 a n) (hA4 : Apart S (wr.alloc o).drew w4) (hS4 : ∀ b ∈ S4, b ∈ S ∨ (wr.alloc o).drew.heap.size ≤ b)
    (h7 : Has4 (wr.alloc o) wr.heap.size ⟨0, 0, 0, false⟩) :
    Aft w g a f n (.pointer (some ⟨wr.heap.size, 0, none⟩)) (.bool true) ((((w4.setCell ⟨wr.heap.size, 0, none⟩ (.int .i64 n.p)).setCell ⟨wr.heap.size, 1, none⟩ (.int .i64 n.s)).setCell ⟨wr.heap.size, 2, none⟩ (.int .i64 n.d)).setCell ⟨wr.heap.size, 3, none⟩ (.bool n.off)) := by
  have hl := hF.lt
  have za : (wr.alloc o).heap.size = wr.heap.size + 1 := by simp
  have z4 : (wr.alloc o).heap.size ≤ w4.heap.size := hA4.size
  have zw := hbel.size
  have h7S : wr.heap.size ∉ S := fun h => by have := hl _ h; omega
  have hb := (Below.refl wr.heap.size wr).alloc (Nat.le_refl _) o
  have k := set4_apart w4 wr.heap.size (.int .i64 n.p) (.int .i64 n.s) (.int .i64 n.d) (.bool n.off)
  have k7 : wr.heap.size ∉ S4 := fun h => (hS4 _ h).elim h7S (fun h => by have : (wr.alloc o).heap.size ≤ wr.heap.size := h; omega)
  have hg7 : g ∉ [wr.heap.size] := by simp; omega
  have hgl : g < w4.heap.size := by omega
  have e4 : Has4 w4 wr.heap.size ⟨0, 0, 0, false⟩ := h7.keep fun o => hA4.cell (p := ⟨wr.heap.size, o, none⟩) (by show wr.heap.size < (wr.alloc _).heap.size; omega) h7S
  have sz := k.size
  refine ⟨_, S4, rfl, rfl, hF4.kept k (fun b h g => ?_), fun b h => (hS4 b h).elim (hS b) (fun h => by have : (wr.alloc o).heap.size ≤ b := h; omega), fun h => (hS4 g h).elim hgS (fun h => by have : (wr.alloc o).heap.size ≤ g := h; omega), hg0, by omega, ?_, ?_, set4_has n e4, ?_⟩
  · have : b = wr.heap.size := by simpa using g
    exact k7 (this ▸ h)
  · exact hq.keep fun o => ((k.cell (p := ⟨g, o, none⟩) hgl hg7).trans (hA4.cell (p := ⟨g, o, none⟩) (by show g < (wr.alloc _).heap.size; omega) hgS)).trans (hb.cell (p := ⟨g, o, none⟩) hg1)
  · exact hfr.keep fun o => ((k.frozen (p := ⟨g, o, none⟩) hgl hg7).trans (hA4.frozen (p := ⟨g, o, none⟩) (by show g < (wr.alloc _).heap.size; omega) hgS)).trans (hb.frozen (p := ⟨g, o, none⟩) hg1)
  · have hA : Below w.heap.size (wr.alloc o).drew w4 := hA4.to_below hS (by show _ ≤ (wr.alloc o).heap.size; omega)
    have hk : ∀ b ∈ [wr.heap.size], w.heap.size ≤ b := fun b h => by
      have : b = wr.heap.size := by simpa using h
      omega
    exact ((hbel.trans (hb.mono zw)).drew.trans hA).trans (k.to_below hk (by omega))

theorem aft_inv {w wx : World} {a : Addr} {f n : Fus} {g : Nat} {S : List Nat} (hn : n.ok) (hF : IsFuse wx S a n) (hS : ∀ b ∈ S, w.heap.size ≤ b) (hgS : g ∉ S) (hg0 : w.heap.size ≤ g) (hg1 : g < wx.heap.size) (hq : Has4 wx g f) (hfr : Free4 wx g) (hb : Below w.heap.size w wx) :
    Inv10 w g a ((((wx.setCell ⟨g, 0, none⟩ (.int .i64 n.p)).setCell ⟨g, 1, none⟩ (.int .i64 n.s)).setCell ⟨g, 2, none⟩ (.int .i64 n.d)).setCell ⟨g, 3, none⟩ (.bool n.off)) n := by
  have k := set4_apart wx g (.int .i64 n.p) (.int .i64 n.s) (.int .i64 n.d) (.bool n.off)
  have sz := k.size
  refine ⟨S, hF.kept k (fun b h e => ?_), hn, hS, hgS, hg0, by omega, set4_has n hq, set4_free _ _ _ _ hfr, hb.trans (k.to_below (fun b h => ?_) hb.size)⟩
  · have : b = g := by simpa using e
    exact hgS (this ▸ h)
  · have : b = g := by simpa using h
    omega

theorem inv_below {w wx wy : World} {g : Nat} {a : Addr} {f : Fus} (h : Inv10 w g a wx f) (hb : Below wx.heap.size wx wy) : Inv10 w g a wy f := by
  obtain ⟨S, hF, hok, hS, hgS, hg0, hg1, hq, hfr, hw⟩ := h
  have z := hb.size
  exact ⟨S, hF.below hb, hok, hS, hgS, hg0, by omega, hq.keep fun o => hb.cell (p := ⟨g, o, none⟩) hg1, hfr.keep fun o => hb.frozen (p := ⟨g, o, none⟩) hg1, hw.trans (hb.mono hw.size)⟩

set_option maxRecDepth 100000 in
set_option maxHeartbeats 3200000 in
theorem fusePlays_walk (a0 : Option Addr) (l : List Op10) (c : Nat) (w : World) (hr : Op10s w w.heap.size a0 l) (hfit : ∀ x ∈ l, x.fits) (_hm : l.length ≤ maxLen) :
    Calls Try.prog 3 #[.slice a0 l.length c] w fun e w' => e = .returned (.bool true) ∧ Below w.heap.size w w' := by
  by_cases hl : l.length ≤ 60
  · obtain ⟨n, hn⟩ : ∃ n, l.length = n := ⟨_, rfl⟩
    have HN := Lib.hid hn
    rw [hn] at hl ⊢
    have HR := Lib.hid hr; have HFIT := Lib.hid hfit
    clear hn hr hfit _hm
    go_enter Try.func3, Try.ntmps3
    go_wp2_with fail
    refine (fnew_any _).mono ?_
    rintro e w1 ⟨a, S, rfl, hF, hS, hb1⟩
    go_wp2_with fail
    refine (rfnew_any _).mono ?_
    rintro e w2 ⟨rfl, hb2⟩
    have inv : Inv10 w w2.heap.size a (w2.alloc (.cells #[.int .i64 Fus.new.p, .int .i64 Fus.new.s, .int .i64 Fus.new.d, .bool Fus.new.off] 27)) Fus.new := by
      have hbn := (Below.refl w2.heap.size w2).alloc (Nat.le_refl _) (.cells #[.int .i64 Fus.new.p, .int .i64 Fus.new.s, .int .i64 Fus.new.d, .bool Fus.new.off] 27)
      have h4 := has4_new w2 Fus.new 27
      have hlt := hF.lt
      refine ⟨S, (hF.below hb2).below hbn, Fus.new_ok, hS, fun g => ?_, ?_, by simp, h4.1, h4.2, ?_⟩
      · have := hlt _ g; have := hb2.size; omega
      · have := hb1.size; have := hb2.size; omega
      · exact (hb1.trans (hb2.mono hb1.size)).trans (hbn.mono (by have := hb1.size; have := hb2.size; omega))
    have INV := Lib.hid inv
    clear inv hF hS hb1 hb2
    obtain ⟨g, hg⟩ : ∃ g, w2.heap.size = g := ⟨_, rfl⟩
    go_wp2
    rw [hg] at INV
    clear hg
    go_loopw [3, 5] (fun v i wr => ∃ (k : Nat) (a : Addr) (f : Fus), k ≤ n ∧ i = .int .i64 k ∧ v = .pointer (some a) ∧ Inv10 w g a wr f) (fun _ i _ => n - (intOf i).toNat)
    case atStart => exact ⟨0, a, Fus.new, Nat.zero_le _, rfl, rfl, INV.out⟩
    case round =>
      obtain ⟨k, a, f, hk, rfl, rfl, S, hF, hok, hS, hgS, hg0, hg1, hq, hfr, hbel⟩ := hrel
      by_cases hlt : k < n
      · have hkl : k < l.length := by rw [HN.out]; exact hlt
        obtain ⟨ad, rfl, hab, q0, q1, q2⟩ := (HR.out.below hbel) k hkl
        have hxf := HFIT.out (l[k]'hkl) (List.getElem_mem hkl)
        obtain ⟨x, hx⟩ : ∃ x, l[k]'hkl = x := ⟨_, rfl⟩
        rw [hx] at q0 q1 q2 hxf
        obtain ⟨xk, xa, xn⟩ := x
        simp only at q0 q1 q2
        have hxn : xn ≤ 9223372036854775807 := hxf
        clear hx hxf
        have b0 : (0 : Int) ≤ (k : Int) := by omega
        have b1 : (k : Int) < (n : Int) := by omega
        by_cases h4 : xk = 4
        · subst h4
          go_wp2_with fail
          go_ways
          refine (fcopy_any hF).mono ?_
          rintro e w3 ⟨a3, S3, rfl, hF3, hS3, hb3⟩
          go_wp2_with fail
          refine (farm_any (hF.below hb3) 3 0 (by omega)).mono ?_
          rintro e w4 ⟨rfl, S4, hF4, hA4, hS4⟩
          go_wp2_with fail
          refine (fput_any hF4 (Fus.arm_ok f 3 0 hok (by omega))).mono ?_
          rintro e w5 ⟨rfl, S5, hF5, hA5, hS5⟩
          go_wp2
          refine ⟨⟨k + 1, a3, f, hlt, rfl, rfl, ?_⟩, by simp [intOf]; omega⟩
          exact inv_copy hF hok hS hgS hg0 hg1 hq hfr hbel hF3 hS3 hb3 hA4 hS4 hA5
        · have t4 : (xk == 4) = false := beq_eq_false_iff_ne.2 h4
          clear h4
          go_wp2_with fail
          go_ways
          have hlt7 := hF.lt
          have h7 := has4_new wr ⟨0, 0, 0, false⟩ 27
          have hb7 := (Below.refl wr.heap.size wr).alloc (Nat.le_refl _) (.cells #[.int .i64 0, .int .i64 0, .int .i64 0, .bool false] 27)
          have hIA := Lib.hid (hF.below hb7.drew)
          have hIB := Lib.hid (hF.below ((Below.refl _ wr).drew))
          have hgs7 : wr.heap.size ∉ S := fun g => by have := hlt7 _ g; omega
          have hbl : (ad.add (k * 3)).block = ad.block := by unfold Addr.add; split <;> rfl
          have hadl : (ad.add (k * 3)).block < wr.heap.size := by have := hbel.size; omega
          have a0 : (wr.alloc (.cells #[.int .i64 0, .int .i64 0, .int .i64 0, .bool false] 27)).drew.cell? (ad.add (k * 3)) = _ := (hb7.cell hadl).trans q0
          have a1 : (wr.alloc (.cells #[.int .i64 0, .int .i64 0, .int .i64 0, .bool false] 27)).drew.cell? ⟨(ad.add (k * 3)).block, (ad.add (k * 3)).off + 1, none⟩ = _ := (hb7.cell (p := ⟨(ad.add (k * 3)).block, (ad.add (k * 3)).off + 1, none⟩) hadl).trans q1
          have a2 : (wr.alloc (.cells #[.int .i64 0, .int .i64 0, .int .i64 0, .bool false] 27)).drew.cell? ⟨(ad.add (k * 3)).block, (ad.add (k * 3)).off + 2, none⟩ = _ := (hb7.cell (p := ⟨(ad.add (k * 3)).block, (ad.add (k * 3)).off + 2, none⟩) hadl).trans q2
          clear hbl
          obtain ⟨ca0, ca1, ca2, ca3⟩ : Has4 (wr.alloc (.cells #[.int .i64 0, .int .i64 0, .int .i64 0, .bool false] 27)).drew g f := hq.keep fun o => hb7.cell (p := ⟨g, o, none⟩) hg1
          have H7 := Lib.hid h7; have G7 := Lib.hid hgs7; have GS := Lib.hid hgS; have HB7 := Lib.hid hb7; have HQ := Lib.hid hq; have HFR := Lib.hid hfr
          have HF := Lib.hid hF; have HS := Lib.hid hS; have HBEL := Lib.hid hbel; have HL7 := Lib.hid hlt7
          clear h7 hgs7 hgS hb7 hfr hF hS hbel hlt7
          obtain ⟨c0, c1, c2, c3⟩ : Has4 wr.drew g f := hq
          have d0 : wr.drew.cell? (ad.add (k * 3)) = _ := q0
          have d1 : wr.drew.cell? ⟨(ad.add (k * 3)).block, (ad.add (k * 3)).off + 1, none⟩ = _ := q1
          have d2 : wr.drew.cell? ⟨(ad.add (k * 3)).block, (ad.add (k * 3)).off + 2, none⟩ = _ := q2
          have CA := Lib.hid (step_any hIA.out hok xk xa xn hxn)
          have CB := Lib.hid (step_any hIB.out hok xk xa xn hxn)
          clear hIA hIB
          go_cut [7, 8] (fun v7 v8 wx => Aft w g a f (stepF f xk xa xn) v7 v8 wx)
          case first =>
            go_region_with (go_at_call 12; first
              | (refine CA.out.mono ?_; rintro e w4 ⟨rfl, S4, hF4, hA4, hS4⟩; have e7 := H7.out.1.keep (w' := w4) fun o => hA4.cell (p := ⟨wr.heap.size, o, none⟩) (by simp) G7.out; have r7 := H7.out.2.keep (w' := w4) fun o => hA4.frozen (p := ⟨wr.heap.size, o, none⟩) (by simp) G7.out; obtain ⟨e0, e1, e2, e3⟩ := e7; obtain ⟨r0, r1, r2, r3⟩ := r7; have HF4 := Lib.hid hF4; have HA4 := Lib.hid hA4; have HS4 := Lib.hid hS4; clear hF4 hA4 hS4)
              | (refine CB.out.mono ?_; rintro e w4 ⟨rfl, S4, hF4, hA4, hS4⟩; have HF4 := Lib.hid hF4; have HA4 := Lib.hid hA4; have HS4 := Lib.hid hS4; clear hF4 hA4 hS4))
            all_goals
              go_wp2_with fail
              go_meet
              first
                | exact aftB HS.out GS.out hg0 hg1 HQ.out HFR.out HBEL.out HF4.out HA4.out HS4.out
                | exact aftA HF.out HS.out GS.out hg0 hg1 HQ.out HFR.out HBEL.out HF4.out HA4.out HS4.out H7.out.1
          case rest =>
            have hn := stepF_ok f hok xk xa xn hxn
            have ht := HN.out
            clear CA CB c0 c1 c2 c3 ca0 ca1 ca2 ca3 a0 a1 a2 d0 d1 d2 q0 q1 q2 H7 G7 HB7 HQ HFR HF HS HL7 hok
            obtain ⟨x, hx⟩ : ∃ x, stepF f xk xa xn = x := ⟨_, rfl⟩
            rw [hx] at hcut hn
            clear hx
            obtain ⟨g7, S', rfl, rfl, hF, hS, hgS', hg0', hg1', hq, hfr, h7, hb⟩ := hcut
            have inv := aft_inv hn hF hS hgS' hg0' hg1' hq hfr hb
            obtain ⟨p0, p1, p2, p3⟩ := h7
            obtain ⟨b0', b1', b2', b3'⟩ := hq
            obtain ⟨r0, r1, r2, r3⟩ := hfr
            have INV2 := Lib.hid inv
            clear inv hF hS hgS' hb hn
            go_upto_region 16 with fail
            obtain ⟨wy, hwy⟩ : ∃ wy, (((wc.setCell ⟨g, 0, none⟩ (.int .i64 x.p)).setCell ⟨g, 1, none⟩ (.int .i64 x.s)).setCell ⟨g, 2, none⟩ (.int .i64 x.d)).setCell ⟨g, 3, none⟩ (.bool x.off) = wy := ⟨_, rfl⟩
            rw [hwy] at INV2 ⊢
            clear p0 p1 p2 p3 b0' b1' b2' b3' r0 r1 r2 r3 hwy
            go_cut [56] (fun v wx => v = .bool false ∧ Inv10 w g a wx x)
            case first =>
              have inv2 := INV2.out
              obtain ⟨S2, hF2, hok2, hS2, hgS2, hg02, hg12, hq2, hfr2, hw2⟩ := inv2
              have cu := fup_any (hF2.below ((Below.refl _ wy).drew))
              have hoff : wy.drew.cell? ⟨g, 3, none⟩ = some (.bool x.off) := hq2.2.2.2
              have CU := Lib.hid cu
              clear hF2 hok2 hS2 hgS2 hg02 hq2 hfr2 hw2 cu
              obtain ⟨y, hy⟩ : ∃ y, x.off = y := ⟨_, rfl⟩
              rw [hy] at CU hoff
              clear hy
              cases y
              · go_region_with (go_at_call 13; (refine CU.out.mono ?_; rintro e w6 ⟨rfl, hb6⟩; have hoff6 := (hb6.cell (p := ⟨g, 3, none⟩) hg12).trans hoff; have HB6 := Lib.hid hb6; clear hb6))
                all_goals
                  go_wp2_with fail
                  go_meet
                  exact ⟨rfl, inv_below INV2.out ((Below.refl _ wy).drew.trans HB6.out)⟩
              · go_region_with (go_at_call 13; (refine CU.out.mono ?_; rintro e w6 ⟨rfl, hb6⟩; have hoff6 := (hb6.cell (p := ⟨g, 3, none⟩) hg12).trans hoff; have HB6 := Lib.hid hb6; clear hb6))
                all_goals
                  go_wp2_with fail
                  go_meet
                  exact ⟨rfl, inv_below INV2.out ((Below.refl _ wy).drew.trans HB6.out)⟩
            case rest =>
              obtain ⟨rfl, hinv⟩ := hcut
              go_wp2
              exact ⟨⟨k + 1, a, x, hlt, rfl, rfl, hinv⟩, by simp [intOf]; omega⟩
      · obtain rfl : k = n := by omega
        go_wp2_with fail
        refine (lives10_any _).mono ?_; rintro e w3 ⟨rfl, hb3⟩
        go_wp2
        go_ret
        exact ⟨rfl, hbel.trans (hb3.mono hbel.size)⟩
  · have hg : 60 < l.length := by omega
    clear hl hr hfit _hm
    go_enter Try.func3, Try.ntmps3
    go_wp2_with fail
    refine (lives10_any _).mono ?_; rintro e w1 ⟨rfl, hb1⟩
    go_wp2
    go_ret
    exact ⟨rfl, hb1⟩
end Go.Proofs.Ytllbpjgmmbnogaa
