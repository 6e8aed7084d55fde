/-
  The program's stacks (layer 24), fifth part: Undoes, Redoes.
-/
import Derived.Test.YthboipmlkgmofaaStkDev4
namespace Go.Proofs.Ythboipmlkgmofaa
open Go.RowKit
set_option linter.unusedVariables false
set_option linter.unusedSimpArgs false

/-- What pop tells of the n first ones of a row. -/
def PopS (l : List EPc) (a : Option Addr) (c n : Nat) (ra : Option Addr) (rk rc : Nat) (ta : Option Addr) (tn tc : Nat) (ok : Bool) : Prop :=
  (n = 0 ∧ ra = none ∧ rk = 0 ∧ rc = 0 ∧ ta = none ∧ tn = 0 ∧ tc = 0 ∧ ok = false) ∨
  (∃ k, n = k + 1 ∧ ra = a ∧ rk = k ∧ rc = c ∧ ta = (l[k]!).a ∧ tn = (l[k]!).l.length ∧ tc = (l[k]!).c ∧ ok = true)
def popM (rv ov : Value) : Nat := match ov, rv with
  | .bool true, .slice _ k _ => k + 1
  | _, _ => 0
theorem PopS.m {l : List EPc} {a : Option Addr} {c n : Nat} {ra : Option Addr} {rk rc : Nat} {ta : Option Addr} {tn tc : Nat} {ok : Bool} (h : PopS l a c n ra rk rc ta tn tc ok) : popM (.slice ra rk rc) (.bool ok) = n := by
  rcases h with ⟨rfl, -, -, -, -, -, -, rfl⟩ | ⟨k, rfl, -, rfl, -, -, -, -, rfl⟩
  · rfl
  · rfl
theorem pop_any (l : List EPc) (a : Option Addr) (c n : Nat) (w : World) (hp : SPcs w ⟨a, l, c⟩) (hn : n ≤ l.length) :
    Calls Try.prog 21 #[.slice a n c] w fun e w' => ∃ ra rk rc ta tn tc ok, e = .returned (.tuple #[.slice ra rk rc, stpV ta tn tc, .bool ok]) ∧ PopS l a c n ra rk rc ta tn tc ok ∧ Below w.heap.size w w' := by
  cases n with
  | zero => exact (pop_none a c w).mono fun e w' ⟨he, hb⟩ => ⟨none, 0, 0, none, 0, 0, false, he, .inl ⟨rfl, rfl, rfl, rfl, rfl, rfl, rfl, rfl⟩, hb⟩
  | succ k =>
    obtain ⟨ad, ha, -, hc⟩ := hp.row k (by show k < l.length; omega)
    have ha : a = some ad := ha
    subst ha
    have h := pop_some ad c k (l[k]!) w hc (by have h : l.length ≤ c := hp.le; omega) hp.cap
    exact h.mono fun e w' ⟨he, hb⟩ => ⟨some ad, k, c, _, _, _, true, he, .inr ⟨k, rfl, rfl, rfl, rfl, rfl, rfl, rfl, rfl⟩, hb⟩

/-- What of each step is run, and the program's function that makes it. -/
structure ByF (f : List Edt → List Edt) (F : FuncId) : Prop where
  enter : ∀ (args : Array Value) (w : World), (callFunc F args).run Try.prog w = .ok (.enter F args) w
  len : ∀ l, (f l).length = l.length
  z : ∀ l b, Edtz l b → Edtz (f l) b
  call : ∀ (a : Option Addr) (l : List Edt) (c : Nat) (w : World), EPcs w ⟨a, l, c⟩ → l.length ≤ 100000 → Calls Try.prog F #[stpV a l.length c] w fun e w' => ∃ a' c', e = .returned (stpV a' (f l).length c') ∧ EPcs w' ⟨a', f l, c'⟩ ∧ Below w.heap.size w w'
theorem by_inverse : ByF invL 23 := ⟨fun _ _ => by rfl, invL_len, fun _ _ h => h.inv, fun a l c w h hl =>
  (sinv_any a l c w h.row hl).mono fun e w' ⟨a', c', he, hr, hb⟩ => ⟨a', c', he, hr.in, hb⟩⟩
theorem by_same : ByF id 27 := ⟨fun _ _ => by rfl, fun _ => rfl, fun _ _ h => h, fun a l c w h hl =>
  (same_step a l.length c w).mono fun e w' ⟨he, hb⟩ => ⟨a, c, he, h.later hb, hb⟩⟩

/-- What holds at a round's head: m steps are left, the top of these in its box. -/
def HeadR (f : List Edt → List Edt) (l : List EPc) (a : Option Addr) (c : Nat) (R : Bool) (w : World) (tv rv bv ov : Value) (wr : World) : Prop :=
  ∃ (m : Nat) (s : ByteArray) (b : Nat) (ra : Option Addr) (rk rc : Nat) (ta : Option Addr) (tn tc : Nat) (ok : Bool),
    tv = .string s ∧ rv = .slice ra rk rc ∧ bv = .pointer (some ⟨b, 0, none⟩) ∧ ov = .bool ok ∧ PopS l a c m ra rk rc ta tn tc ok ∧ m ≤ l.length ∧ s.size ≤ 4294967296 ∧ goesE f s ((lsP l).take m).reverse = R ∧
    w.heap.size ≤ b ∧ b < wr.heap.size ∧ wr.cell? ⟨b, 0, none⟩ = some (.slice ta tn tc) ∧ wr.frozen? ⟨b, 0, none⟩ = false ∧ Below w.heap.size w wr

set_option maxRecDepth 100000 in
set_option maxHeartbeats 3200000 in
theorem runs_any {f : List Edt → List Edt} {F : FuncId} (by1 : ByF f F) (t : ByteArray) (a : Option Addr) (l : List EPc) (c : Nat) (w : World) (hp : SPcs w ⟨a, l, c⟩) (ht : t.size ≤ 4294967296) (hl : l.length ≤ 1000000) (hb : ∀ x ∈ l, x.l.length ≤ 100000 ∧ Edtz x.l 4294967296) :
    Calls Try.prog 22 #[.string t, .slice a l.length c, .func (.func F) #[] #[]] w fun e w' => e = .returned (.bool (goes16 f t (lsP l))) ∧ Below w.heap.size w w' := by
  have he : (goes16 f t (lsP l)) = (goesE f t (lsP l).reverse && decide (l.length ≤ 16)) := by unfold goes16; rw [lsP_len]
  rw [he]
  obtain ⟨n, hn⟩ : ∃ n, l.length = n := ⟨_, rfl⟩
  rw [hn] at hl ⊢
  by_cases h16 : 16 < n
  · have h1 : (16 : Int) < (n : Int) := by omega
    have h2 : (goesE f t (lsP l).reverse && decide (n ≤ 16)) = false := by rw [decide_eq_false (by omega), Bool.and_false]
    rw [h2]
    clear he h2 hn hp hb
    go_enter Try.func22, Try.ntmps22
    go_wp2
    go_ret
    exact ⟨rfl, Below.refl _ _⟩
  have h1 : (n : Int) ≤ 16 := by omega
  rw [decide_eq_true (show n ≤ 16 by omega), Bool.and_true]
  obtain ⟨R, hR⟩ : ∃ R, goesE f t (lsP l).reverse = R := ⟨_, rfl⟩
  rw [hR]
  have hR0 : goesE f t ((lsP l).take n).reverse = R := by rw [List.take_of_length_le (by rw [lsP_len, hn]; exact Nat.le_refl _)]; exact hR
  have ce := by1.enter
  have cp := pop_any l a c n w hp (by omega)
  have HP := Lib.hid hp; have HN := Lib.hid hn; have HR0 := Lib.hid hR0; have HBB := Lib.hid hb; have CP := Lib.hid cp; have BY := Lib.hid by1
  clear hp hn hR hR0 hb cp he by1
  go_enter Try.func22, Try.ntmps22
  go_wp2_with fail
  refine CP.out.mono ?_
  rintro e w1 ⟨ra, rk, rc, ta, tn, tc, ok, rfl, hps, hb1⟩
  have HPS := Lib.hid hps; have HB1 := Lib.hid (hb1.alloc hb1.size (.cells #[.slice ta tn tc] 25)); have HK := Lib.hid (Blk.new w1 #[.slice ta tn tc] 25); have HWW := Lib.hid hb1.size
  clear hps hb1
  go_wp2
  clear CP
  go_loopw [0, 7, 8, 9] (fun tv rv bv ov wr => HeadR f l a c R w tv rv bv ov wr) (fun _ rv _ ov _ => popM rv ov)
  case atStart => exact ⟨n, t, w1.heap.size, ra, rk, rc, ta, tn, tc, ok, rfl, rfl, rfl, rfl, HPS.out, Nat.le_of_eq HN.out.symm, ht, HR0.out, HWW.out, HK.out.lt, HK.out.cell 0 _ rfl, HK.out.free 0, HB1.out⟩
  case round =>
    obtain ⟨m, s, b, ra, rk, rc, ta, tn, tc, ok, rfl, rfl, rfl, rfl, hps, hml, hs, hgo, hwb, hbl, x0, x5, hbel⟩ := hrel
    rcases hps with ⟨rfl, rfl, rfl, rfl, rfl, rfl, rfl, rfl⟩ | ⟨k, rfl, rfl, rfl, rfl, rfl, rfl, rfl, rfl⟩
    · have h0 : R = true := hgo.symm
      subst h0
      clear hgo x0 x5
      go_wp2
      go_ret
      exact ⟨rfl, hbel⟩
    · have hkl : rk < l.length := hml
      rw [rev_take _ _ (by rw [lsP_len]; exact hkl), lsP_get l rk hkl] at hgo
      have hx1 := (HP.out.later hbel).all.at rk hkl
      obtain ⟨hx2, hx3⟩ := HBB.out (l[rk]!) (by rw [epget hkl]; exact List.getElem_mem hkl)
      obtain ⟨y, hy⟩ : ∃ y, l[rk]! = y := ⟨_, rfl⟩
      rw [hy] at x0 hx1 hx2 hx3 hgo
      obtain ⟨ya, yl, yc⟩ := y
      simp only at x0 hx2 hx3 hgo
      have cb := BY.out.call ya yl yc wr hx1 hx2
      have hz := BY.out.z yl _ hx3
      have hlen := BY.out.len yl
      obtain ⟨q, hq⟩ : ∃ q, yl.length = q := ⟨_, rfl⟩
      obtain ⟨Y, hY⟩ : ∃ Y, f yl = Y := ⟨_, rfl⟩
      rw [hY] at cb hz hlen
      rw [hlen] at cb
      rw [hq] at cb x0 hx2 hlen
      have c1 := fun a' c' W (h : EPcs W ⟨a', Y, c'⟩) => sright_any s a' Y c' W h.row hs (by omega) hz
      have c2 := fun a' c' W (h : EPcs W ⟨a', Y, c'⟩) => srun_any s a' Y c' W h.row hs (by omega) hz
      rw [hlen] at c1 c2
      have hsz := rightS_size (t := s) (l := Y)
      have hg1 := goesE_no (f := f) (t := s) (x := yl) (r := ((lsP l).take rk).reverse)
      have hg2 := goesE_ok (f := f) (t := s) (x := yl) (r := ((lsP l).take rk).reverse)
      rw [hY, hgo] at hg1 hg2
      obtain ⟨⟨u, e0⟩, hu⟩ : ∃ z, runE s Y = z := ⟨_, rfl⟩
      obtain ⟨r, hr⟩ : ∃ r, rightS s Y = r := ⟨_, rfl⟩
      rw [hr] at c1 hsz hg1 hg2
      rw [hu] at c2 hsz hg2
      have CB := Lib.hid cb; have C1 := Lib.hid c1; have C2 := Lib.hid c2
      clear cb c1 c2 hgo hy hz hlen hx1 hx2 hx3 hq hY hu hr
      cases r with
      | false =>
        have h0 := hg1 rfl
        subst h0
        clear hg1 hg2 hsz
        go_wp2_with fail
        refine CB.out.mono ?_
        rintro e w2 ⟨a2, c2, rfl, hr2, hb2⟩
        have hb3 : Below wr.heap.size wr (w2.alloc (.cells #[.slice a2 q c2] 25)) := hb2.alloc hb2.size _
        have HR2 := Lib.hid (hr2.later ((Below.refl w2.heap.size w2).alloc (Nat.le_refl _) (.cells #[.slice a2 q c2] 25)))
        have HB2 := Lib.hid (hbel.trans (hb3.mono hbel.size))
        clear hr2 hb2 hb3 x0 x5 hbel
        go_wp2_with fail
        refine (C1.out _ _ _ HR2.out).mono ?_
        rintro e w3 ⟨rfl, hb3⟩
        have HB3 := Lib.hid (HB2.out.trans (hb3.mono HB2.out.size))
        clear hb3
        go_wp2
        go_ret
        exact ⟨rfl, HB3.out⟩
      | true =>
        have h0 := hg2 rfl
        have h1 : u.size ≤ max s.size 4096 := hsz rfl
        clear hg1 hg2 hsz
        have CPK := Lib.hid (fun W (hB : Below w.heap.size w W) => pop_any l ra rc rk W (HP.out.later hB) (Nat.le_of_lt hkl))
        go_wp2_with fail
        refine CB.out.mono ?_
        rintro e w2 ⟨a2, c2, rfl, hr2, hb2⟩
        have hb3 : Below wr.heap.size wr (w2.alloc (.cells #[.slice a2 q c2] 25)) := hb2.alloc hb2.size _
        have HR2 := Lib.hid (hr2.later ((Below.refl w2.heap.size w2).alloc (Nat.le_refl _) (.cells #[.slice a2 q c2] 25)))
        have HX2 := Lib.hid (Blk.new w2 #[.slice a2 q c2] 25)
        have HB2 := Lib.hid hb3
        clear hr2 hb2 hb3
        go_wp2_with fail
        refine (C1.out _ _ _ HR2.out).mono ?_
        rintro e w3 ⟨rfl, hb3⟩
        have HR3 := Lib.hid (HR2.out.later hb3)
        have y3 : w3.cell? ⟨w2.heap.size, 0, none⟩ = some (.slice a2 q c2) := (HX2.out.onto hb3).cell 0 _ rfl
        have HB3 := Lib.hid (HB2.out.trans (hb3.mono HB2.out.size))
        clear hb3
        go_wp2_with fail
        refine (C2.out _ _ _ HR3.out).mono ?_
        rintro e w4 ⟨rfl, hb4⟩
        have hb5 : Below wr.heap.size wr w4 := HB3.out.trans (hb4.mono HB3.out.size)
        have z0 := (hb5.cell (p := ⟨b, 0, none⟩) hbl).trans x0
        have HB5 := Lib.hid ((hbel.trans (hb5.mono hbel.size)).alloc (Nat.le_trans hbel.size hb5.size) (.cells #[.slice ya q yc] 25))
        have HX5 := Lib.hid (Blk.new w4 #[.slice ya q yc] 25)
        have HW4 := Lib.hid (Nat.le_trans hbel.size hb5.size)
        clear hb4 hb5 x0 x5 y3 hbel
        go_wp2_with fail
        refine (CPK.out _ HB5.out).mono ?_
        rintro e w6 ⟨ra', rk', rc', ta', tn', tc', ok', rfl, hps, hb6⟩
        have q0 : w6.cell? ⟨w4.heap.size, 0, none⟩ = some (.slice ya q yc) := (HX5.out.onto hb6).cell 0 _ rfl
        have q5 := (HX5.out.onto hb6).free 0
        have HPS6 := Lib.hid hps
        have HX6 := Lib.hid ((HX5.out.onto hb6).set 0 (.slice ta' tn' tc'))
        have HB6 := Lib.hid ((HB5.out.trans (hb6.mono HB5.out.size)).setCell (p := ⟨w4.heap.size, 0, none⟩) HW4.out (.slice ta' tn' tc'))
        clear hb6 hps z0
        go_wp2
        go_roundw
        case rel => exact ⟨rk, u, w4.heap.size, ra', rk', rc', ta', tn', tc', ok', rfl, rfl, rfl, rfl, HPS6.out, Nat.le_of_lt hkl, by omega, h0.symm, HW4.out, HX6.out.lt, HX6.out.cell 0 _ rfl, HX6.out.free 0, HB6.out⟩
        case measure =>
          rw [HPS6.out.m]
          show rk < rk + 1
          omega
theorem undoes_any (t : ByteArray) (a : Option Addr) (l : List EPc) (c : Nat) (w : World) (hp : SPcs w ⟨a, l, c⟩) (ht : t.size ≤ 4294967296) (hl : l.length ≤ 1000000) (hb : ∀ x ∈ l, x.l.length ≤ 100000 ∧ Edtz x.l 4294967296) :
    Calls Try.prog 14 #[.string t, .slice a l.length c] w fun e w' => e = .returned (.bool (goes16 invL t (lsP l))) ∧ Below w.heap.size w w' := by
  have cr := runs_any by_inverse t a l c w hp ht hl hb
  obtain ⟨R, hR⟩ : ∃ R, goes16 invL t (lsP l) = R := ⟨_, rfl⟩
  obtain ⟨n, hn⟩ : ∃ n, l.length = n := ⟨_, rfl⟩
  rw [hR, hn] at cr
  rw [hR, hn]
  have CR := Lib.hid cr
  clear cr hR hn hp hl hb
  go_enter Try.func14, Try.ntmps14
  go_wp2_with fail
  refine CR.out.mono ?_; rintro e w1 ⟨rfl, hb1⟩
  go_wp2
  go_ret
  exact ⟨rfl, hb1⟩
theorem redoes_any (t : ByteArray) (a : Option Addr) (l : List EPc) (c : Nat) (w : World) (hp : SPcs w ⟨a, l, c⟩) (ht : t.size ≤ 4294967296) (hl : l.length ≤ 1000000) (hb : ∀ x ∈ l, x.l.length ≤ 100000 ∧ Edtz x.l 4294967296) :
    Calls Try.prog 16 #[.string t, .slice a l.length c] w fun e w' => e = .returned (.bool (goes16 id t (lsP l))) ∧ Below w.heap.size w w' := by
  have cr := runs_any by_same t a l c w hp ht hl hb
  obtain ⟨R, hR⟩ : ∃ R, goes16 id t (lsP l) = R := ⟨_, rfl⟩
  obtain ⟨n, hn⟩ : ∃ n, l.length = n := ⟨_, rfl⟩
  rw [hR, hn] at cr
  rw [hR, hn]
  have CR := Lib.hid cr
  clear cr hR hn hp hl hb
  go_enter Try.func16, Try.ntmps16
  go_wp2_with fail
  refine CR.out.mono ?_; rintro e w1 ⟨rfl, hb1⟩
  go_wp2
  go_ret
  exact ⟨rfl, hb1⟩
end Go.Proofs.Ythboipmlkgmofaa
