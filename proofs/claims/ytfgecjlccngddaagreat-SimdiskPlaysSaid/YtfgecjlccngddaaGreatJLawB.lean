/-
  Joined: LawDisk3.
-/
import Derived.Test.YtfgecjlccngddaaGreatJLawA
namespace Go.Proofs.YtfgecjlccngddaaGreat
set_option linter.unusedSimpArgs false
set_option linter.unusedVariables false
open Go.RowKit
set_option linter.unusedVariables false

set_option maxRecDepth 100000 in
set_option maxHeartbeats 3200000 in
theorem change11_0 {w : World} {S : List Nat} {f : Addr} {D : Dsk} {M : Nat} (h : IsDk w S f D) (hD : D.ok M) (hM : M ≤ 198) (a : Option Addr) (c : Nat) (aL : Option Addr) (cL : Nat) (P : Nat → Prop) (hP : ∀ b, P b → b < w.heap.size ∧ b ∉ S) (hT : Tps w P a D.tp) (hL : LLs w P aL D.L) (hz : a = none → c = 0) (n : Int) (s t : ByteArray) (fk fn : Int) (n0 : -9223372036854775808 ≤ n) (n1 : n ≤ 9223372036854775807) (hs : s.size ≤ maxLen) (ht : t.size ≤ maxLen) (f0 : -9223372036854775808 ≤ fk ∧ fk ≤ 9223372036854775807) (f1 : -9223372036854775808 ≤ fn ∧ fn ≤ 9223372036854775807) :
    Calls Tryz.prog 58 #[.pointer (some f), dskV D.sec a D.tp.length c aL D.L.length cL D.fu D.calls, .agg (opC 0 n s t fk fn)] w (StepK w S f P (D.create s).1) := by
  have hD9 := D.ok_more hD (show M ≤ 199 by omega)
  have hSlt := h.lt
  have hP1 : ∀ b, P b → b < w.heap.size := fun b hb => (hP b hb).1
  have htf := fewD_size t
  have hft : (fewD t).size ≤ maxLen := by unfold maxLen; omega
  have c1 := fun (W : World) (hPW : ∀ b, P b → b < W.heap.size) (g1 : Tps W P a D.tp) (g2 : LLs W P aL D.L) => rdcreate_any hD (by omega) a c aL cL s hs P W hPW g1 g2 hz
  have c2 := fun (W : World) (S : List Nat) (h : IsDk W S f D) => dkcreate_any h hD9 s hs
  obtain ⟨⟨D2, v⟩, hr⟩ : ∃ r, D.create s = r := ⟨_, rfl⟩
  rw [hr]
  simp only [hr] at c1 c2
  show Calls _ _ _ _ (StepK w S f P D2)
  obtain ⟨sec, tp, LL, ⟨p, s0, d0, off⟩, calls⟩ := D
  obtain ⟨sec2, tp2, LL2, ⟨p2, s2, d2, off2⟩, calls2⟩ := D2
  obtain ⟨nt, hnt⟩ : ∃ x, tp.length = x := ⟨_, rfl⟩
  obtain ⟨nL, hnL⟩ : ∃ x, LL.length = x := ⟨_, rfl⟩
  obtain ⟨nt2, hnt2⟩ : ∃ x, tp2.length = x := ⟨_, rfl⟩
  obtain ⟨nL2, hnL2⟩ : ∃ x, LL2.length = x := ⟨_, rfl⟩
  simp only [hnt, hnL] at c1 ⊢
  obtain ⟨bs, bl, bz⟩ := Bs11.mk w (dskC sec a nt c aL nL cL ⟨p, s0, d0, off⟩ calls) (opC 0 n s t fk fn)
  obtain ⟨X, hX⟩ : ∃ X, ((w.alloc (.cells (dskC sec a nt c aL nL cL ⟨p, s0, d0, off⟩ calls) 34)).alloc (.cells (opC 0 n s t fk fn) 40)).alloc (.cells dskZ 34) = X := ⟨_, rfl⟩
  rw [hX] at bs bl bz
  have HX := Lib.hid hX; have C1 := Lib.hid c1; have C2 := Lib.hid c2; have BS := Lib.hid bs; have BL := Lib.hid bl; have BZ := Lib.hid bz; have H := Lib.hid h; have T := Lib.hid hT; have L := Lib.hid hL; have HP := Lib.hid hP; have HP1 := Lib.hid hP1; have HS := Lib.hid hSlt; have HN2 := Lib.hid hnt2; have HL2 := Lib.hid hnL2
  clear c1 c2 bs bl bz h hT hL hP hP1 hSlt hnt hnL hX hnt2 hnL2 hr hD hD9 hM hs ht htf hft n0 n1 f0 f1 hz
  go_enter Tryz.func58, Tryz.ntmps58
  go_wp2_with fail
  rw [show ((w.alloc (.cells #[.int .i64 sec, .slice a nt c, .slice aL nL cL, .int .i64 p, .int .i64 s0, .int .i64 d0, .bool off, .int .i64 calls] 34)).alloc (.cells #[.int .i64 0, .int .i64 n, .string s, .string t, .int .i64 fk, .int .i64 fn] 40)).alloc (.cells #[.int .i64 0, .slice none 0 0, .slice none 0 0, .int .i64 0, .int .i64 0, .int .i64 0, .bool false, .int .i64 0] 34) = X from HX.out]
  refine (few11_any t _).mono ?_
  rintro e w' ⟨rfl, rfl⟩
  have bs0 := BS.out
  obtain ⟨⟨_, _, _⟩, ⟨xb0, xb1, xb2, xb3, xb4, xb5, xb6, xb7, xq0, xq1, xq2, xq3, xq4, xq5, xq6, xq7⟩, ⟨xo0, xo1, xo2, xo3, xo4, xo5⟩, ⟨xk0, xk1, xk2, xk3, xk4, xk5, xk6, xk7, xr0, xr1, xr2, xr3, xr4, xr5, xr6, xr7⟩⟩ := bs0.facts
  clear bs0
  go_wp2_with fail
  refine (C1.out _ (fun b hb => Nat.lt_of_lt_of_le (HP1.out b hb) BL.out.size) (T.out.below HP1.out BL.out) (L.out.below HP1.out BL.out)).mono ?_
  rintro e w1 ⟨qv, rfl, ⟨a2, c2', aL2, cL2, rfl, hT2, hL2, hz2⟩, hb1⟩
  have hbs1 := BS.out.on hb1
  have HB1 := Lib.hid hb1; have T2 := Lib.hid hT2; have L2 := Lib.hid hL2; have Z2 := Lib.hid hz2
  simp only [HN2.out, HL2.out]
  clear hb1 hT2 hL2 hz2
  clear xb0 xb1 xb2 xb3 xb4 xb5 xb6 xb7 xq0 xq1 xq2 xq3 xq4 xq5 xq6 xq7 xo0 xo1 xo2 xo3 xo4 xo5 xk0 xk1 xk2 xk3 xk4 xk5 xk6 xk7 xr0 xr1 xr2 xr3 xr4 xr5 xr6 xr7
  obtain ⟨⟨_, _, _⟩, ⟨yb0, yb1, yb2, yb3, yb4, yb5, yb6, yb7, yq0, yq1, yq2, yq3, yq4, yq5, yq6, yq7⟩, ⟨yo0, yo1, yo2, yo3, yo4, yo5⟩, ⟨yk0, yk1, yk2, yk3, yk4, yk5, yk6, yk7, yr0, yr1, yr2, yr3, yr4, yr5, yr6, yr7⟩⟩ := hbs1.facts
  go_wp2_with fail
  obtain ⟨Y, hY, hbsY, hbY, hcY, hsY⟩ := put8_world hbs1 (BL.out.trans (HB1.out.mono BL.out.size)) sec2 a2 nt2 c2' aL2 nL2 cL2 p2 s2 d2 off2 calls2
  rw [hY]
  clear hY
  have hFY := H.out.below hbY
  have BSY := Lib.hid hbsY; have HBY := Lib.hid hbY; have HCY := Lib.hid hcY; have HSY := Lib.hid hsY; have HFY := Lib.hid hFY
  clear hbs1 hbY hcY hsY hFY
  clear yb0 yb1 yb2 yb3 yb4 yb5 yb6 yb7 yq0 yq1 yq2 yq3 yq4 yq5 yq6 yq7 yo0 yo1 yo2 yo3 yo4 yo5 yk0 yk1 yk2 yk3 yk4 yk5 yk6 yk7 yr0 yr1 yr2 yr3 yr4 yr5 yr6 yr7
  have hbsZ : Bs11 w (dskC sec2 a2 nt2 c2' aL2 nL2 cL2 ⟨p2, s2, d2, off2⟩ calls2) (opC 0 n s t fk fn) Y := hbsY
  obtain ⟨⟨_, _, _⟩, ⟨zb0, zb1, zb2, zb3, zb4, zb5, zb6, zb7, zq0, zq1, zq2, zq3, zq4, zq5, zq6, zq7⟩, ⟨zo0, zo1, zo2, zo3, zo4, zo5⟩, ⟨zk0, zk1, zk2, zk3, zk4, zk5, zk6, zk7, zr0, zr1, zr2, zr3, zr4, zr5, zr6, zr7⟩⟩ := hbsZ.facts
  clear hbsY hbsZ
  go_region_with (go_at_call 10; refine (C2.out _ _ HFY.out).mono ?_; rintro e w2 ⟨rfl, S2, hF2, hA2, hS2⟩; have hbs2 := BSY.out.apart hA2 HS.out; obtain ⟨⟨_, _, _⟩, ⟨vb0, vb1, vb2, vb3, vb4, vb5, vb6, vb7, vq0, vq1, vq2, vq3, vq4, vq5, vq6, vq7⟩, ⟨vo0, vo1, vo2, vo3, vo4, vo5⟩, ⟨vk0, vk1, vk2, vk3, vk4, vk5, vk6, vk7, vr0, vr1, vr2, vr3, vr4, vr5, vr6, vr7⟩⟩ := hbs2.facts; have HF2 := Lib.hid hF2; have HA2 := Lib.hid hA2; have HS2 := Lib.hid hS2; clear hF2 hA2 hS2 hbs2)
  all_goals
    go_wp2
    have hend := st11_end (cL := cL2) (D' := ⟨sec2, tp2, LL2, ⟨p2, s2, d2, off2⟩, calls2⟩) BL.out BZ.out HB1.out HCY.out HBY.out HSY.out T2.out L2.out Z2.out HN2.out HL2.out HP.out HS.out HF2.out HA2.out HS2.out
    exact bodyPost_ret (v := .tuple #[dskV sec2 a2 nt2 c2' aL2 nL2 cL2 ⟨p2, s2, d2, off2⟩ calls2, .bool true]) (by simp [results, Tryz.results58, go_sem, vk0, vk1, vk2, vk3, vk4, vk5, vk6, vk7]) rfl hend
set_option maxRecDepth 100000 in
set_option maxHeartbeats 3200000 in
theorem change11_1 {w : World} {S : List Nat} {f : Addr} {D : Dsk} {M : Nat} (h : IsDk w S f D) (hD : D.ok M) (hM : M ≤ 198) (a : Option Addr) (c : Nat) (aL : Option Addr) (cL : Nat) (P : Nat → Prop) (hP : ∀ b, P b → b < w.heap.size ∧ b ∉ S) (hT : Tps w P a D.tp) (hL : LLs w P aL D.L) (hz : a = none → c = 0) (n : Int) (s t : ByteArray) (fk fn : Int) (n0 : -9223372036854775808 ≤ n) (n1 : n ≤ 9223372036854775807) (hs : s.size ≤ maxLen) (ht : t.size ≤ maxLen) (f0 : -9223372036854775808 ≤ fk ∧ fk ≤ 9223372036854775807) (f1 : -9223372036854775808 ≤ fn ∧ fn ≤ 9223372036854775807) :
    Calls Tryz.prog 58 #[.pointer (some f), dskV D.sec a D.tp.length c aL D.L.length cL D.fu D.calls, .agg (opC 1 n s t fk fn)] w (StepK w S f P (D.append s (fewD t)).1) := by
  have hD9 := D.ok_more hD (show M ≤ 199 by omega)
  have hSlt := h.lt
  have hP1 : ∀ b, P b → b < w.heap.size := fun b hb => (hP b hb).1
  have htf := fewD_size t
  have hft : (fewD t).size ≤ maxLen := by unfold maxLen; omega
  have c1 := fun (W : World) (hPW : ∀ b, P b → b < W.heap.size) (g1 : Tps W P a D.tp) (g2 : LLs W P aL D.L) => rdappend_any hD (by omega) a c aL cL s (fewD t) htf P W hPW g1 g2 hz
  have c2 := fun (W : World) (S : List Nat) (h : IsDk W S f D) => dkappend_any h hD9 s (fewD t) hs htf
  obtain ⟨⟨D2, v⟩, hr⟩ : ∃ r, D.append s (fewD t) = r := ⟨_, rfl⟩
  rw [hr]
  simp only [hr] at c1 c2
  show Calls _ _ _ _ (StepK w S f P D2)
  obtain ⟨sec, tp, LL, ⟨p, s0, d0, off⟩, calls⟩ := D
  obtain ⟨sec2, tp2, LL2, ⟨p2, s2, d2, off2⟩, calls2⟩ := D2
  obtain ⟨nt, hnt⟩ : ∃ x, tp.length = x := ⟨_, rfl⟩
  obtain ⟨nL, hnL⟩ : ∃ x, LL.length = x := ⟨_, rfl⟩
  obtain ⟨nt2, hnt2⟩ : ∃ x, tp2.length = x := ⟨_, rfl⟩
  obtain ⟨nL2, hnL2⟩ : ∃ x, LL2.length = x := ⟨_, rfl⟩
  simp only [hnt, hnL] at c1 ⊢
  obtain ⟨bs, bl, bz⟩ := Bs11.mk w (dskC sec a nt c aL nL cL ⟨p, s0, d0, off⟩ calls) (opC 1 n s t fk fn)
  obtain ⟨X, hX⟩ : ∃ X, ((w.alloc (.cells (dskC sec a nt c aL nL cL ⟨p, s0, d0, off⟩ calls) 34)).alloc (.cells (opC 1 n s t fk fn) 40)).alloc (.cells dskZ 34) = X := ⟨_, rfl⟩
  rw [hX] at bs bl bz
  have HX := Lib.hid hX; have C1 := Lib.hid c1; have C2 := Lib.hid c2; have BS := Lib.hid bs; have BL := Lib.hid bl; have BZ := Lib.hid bz; have H := Lib.hid h; have T := Lib.hid hT; have L := Lib.hid hL; have HP := Lib.hid hP; have HP1 := Lib.hid hP1; have HS := Lib.hid hSlt; have HN2 := Lib.hid hnt2; have HL2 := Lib.hid hnL2
  clear c1 c2 bs bl bz h hT hL hP hP1 hSlt hnt hnL hX hnt2 hnL2 hr hD hD9 hM hs ht htf hft n0 n1 f0 f1 hz
  go_enter Tryz.func58, Tryz.ntmps58
  go_wp2_with fail
  rw [show ((w.alloc (.cells #[.int .i64 sec, .slice a nt c, .slice aL nL cL, .int .i64 p, .int .i64 s0, .int .i64 d0, .bool off, .int .i64 calls] 34)).alloc (.cells #[.int .i64 1, .int .i64 n, .string s, .string t, .int .i64 fk, .int .i64 fn] 40)).alloc (.cells #[.int .i64 0, .slice none 0 0, .slice none 0 0, .int .i64 0, .int .i64 0, .int .i64 0, .bool false, .int .i64 0] 34) = X from HX.out]
  refine (few11_any t _).mono ?_
  rintro e w' ⟨rfl, rfl⟩
  have bs0 := BS.out
  obtain ⟨⟨_, _, _⟩, ⟨xb0, xb1, xb2, xb3, xb4, xb5, xb6, xb7, xq0, xq1, xq2, xq3, xq4, xq5, xq6, xq7⟩, ⟨xo0, xo1, xo2, xo3, xo4, xo5⟩, ⟨xk0, xk1, xk2, xk3, xk4, xk5, xk6, xk7, xr0, xr1, xr2, xr3, xr4, xr5, xr6, xr7⟩⟩ := bs0.facts
  clear bs0
  go_wp2_with fail
  refine (C1.out _ (fun b hb => Nat.lt_of_lt_of_le (HP1.out b hb) BL.out.size) (T.out.below HP1.out BL.out) (L.out.below HP1.out BL.out)).mono ?_
  rintro e w1 ⟨qv, rfl, ⟨a2, c2', aL2, cL2, rfl, hT2, hL2, hz2⟩, hb1⟩
  have hbs1 := BS.out.on hb1
  have HB1 := Lib.hid hb1; have T2 := Lib.hid hT2; have L2 := Lib.hid hL2; have Z2 := Lib.hid hz2
  simp only [HN2.out, HL2.out]
  clear hb1 hT2 hL2 hz2
  clear xb0 xb1 xb2 xb3 xb4 xb5 xb6 xb7 xq0 xq1 xq2 xq3 xq4 xq5 xq6 xq7 xo0 xo1 xo2 xo3 xo4 xo5 xk0 xk1 xk2 xk3 xk4 xk5 xk6 xk7 xr0 xr1 xr2 xr3 xr4 xr5 xr6 xr7
  obtain ⟨⟨_, _, _⟩, ⟨yb0, yb1, yb2, yb3, yb4, yb5, yb6, yb7, yq0, yq1, yq2, yq3, yq4, yq5, yq6, yq7⟩, ⟨yo0, yo1, yo2, yo3, yo4, yo5⟩, ⟨yk0, yk1, yk2, yk3, yk4, yk5, yk6, yk7, yr0, yr1, yr2, yr3, yr4, yr5, yr6, yr7⟩⟩ := hbs1.facts
  go_wp2_with fail
  obtain ⟨Y, hY, hbsY, hbY, hcY, hsY⟩ := put8_world hbs1 (BL.out.trans (HB1.out.mono BL.out.size)) sec2 a2 nt2 c2' aL2 nL2 cL2 p2 s2 d2 off2 calls2
  rw [hY]
  clear hY
  have hFY := H.out.below hbY
  have BSY := Lib.hid hbsY; have HBY := Lib.hid hbY; have HCY := Lib.hid hcY; have HSY := Lib.hid hsY; have HFY := Lib.hid hFY
  clear hbs1 hbY hcY hsY hFY
  clear yb0 yb1 yb2 yb3 yb4 yb5 yb6 yb7 yq0 yq1 yq2 yq3 yq4 yq5 yq6 yq7 yo0 yo1 yo2 yo3 yo4 yo5 yk0 yk1 yk2 yk3 yk4 yk5 yk6 yk7 yr0 yr1 yr2 yr3 yr4 yr5 yr6 yr7
  have hbsZ : Bs11 w (dskC sec2 a2 nt2 c2' aL2 nL2 cL2 ⟨p2, s2, d2, off2⟩ calls2) (opC 1 n s t fk fn) Y := hbsY
  obtain ⟨⟨_, _, _⟩, ⟨zb0, zb1, zb2, zb3, zb4, zb5, zb6, zb7, zq0, zq1, zq2, zq3, zq4, zq5, zq6, zq7⟩, ⟨zo0, zo1, zo2, zo3, zo4, zo5⟩, ⟨zk0, zk1, zk2, zk3, zk4, zk5, zk6, zk7, zr0, zr1, zr2, zr3, zr4, zr5, zr6, zr7⟩⟩ := hbsZ.facts
  clear hbsY hbsZ
  go_region_with (go_at_call 11; refine (C2.out _ _ HFY.out).mono ?_; rintro e w2 ⟨rfl, S2, hF2, hA2, hS2⟩; have hbs2 := BSY.out.apart hA2 HS.out; obtain ⟨⟨_, _, _⟩, ⟨vb0, vb1, vb2, vb3, vb4, vb5, vb6, vb7, vq0, vq1, vq2, vq3, vq4, vq5, vq6, vq7⟩, ⟨vo0, vo1, vo2, vo3, vo4, vo5⟩, ⟨vk0, vk1, vk2, vk3, vk4, vk5, vk6, vk7, vr0, vr1, vr2, vr3, vr4, vr5, vr6, vr7⟩⟩ := hbs2.facts; have HF2 := Lib.hid hF2; have HA2 := Lib.hid hA2; have HS2 := Lib.hid hS2; clear hF2 hA2 hS2 hbs2)
  all_goals
    go_wp2
    have hend := st11_end (cL := cL2) (D' := ⟨sec2, tp2, LL2, ⟨p2, s2, d2, off2⟩, calls2⟩) BL.out BZ.out HB1.out HCY.out HBY.out HSY.out T2.out L2.out Z2.out HN2.out HL2.out HP.out HS.out HF2.out HA2.out HS2.out
    exact bodyPost_ret (v := .tuple #[dskV sec2 a2 nt2 c2' aL2 nL2 cL2 ⟨p2, s2, d2, off2⟩ calls2, .bool true]) (by simp [results, Tryz.results58, go_sem, vk0, vk1, vk2, vk3, vk4, vk5, vk6, vk7]) rfl hend
set_option maxRecDepth 100000 in
set_option maxHeartbeats 3200000 in
theorem change11_2 {w : World} {S : List Nat} {f : Addr} {D : Dsk} {M : Nat} (h : IsDk w S f D) (hD : D.ok M) (hM : M ≤ 198) (a : Option Addr) (c : Nat) (aL : Option Addr) (cL : Nat) (P : Nat → Prop) (hP : ∀ b, P b → b < w.heap.size ∧ b ∉ S) (hT : Tps w P a D.tp) (hL : LLs w P aL D.L) (hz : a = none → c = 0) (n : Int) (s t : ByteArray) (fk fn : Int) (n0 : -9223372036854775808 ≤ n) (n1 : n ≤ 9223372036854775807) (hs : s.size ≤ maxLen) (ht : t.size ≤ maxLen) (f0 : -9223372036854775808 ≤ fk ∧ fk ≤ 9223372036854775807) (f1 : -9223372036854775808 ≤ fn ∧ fn ≤ 9223372036854775807) :
    Calls Tryz.prog 58 #[.pointer (some f), dskV D.sec a D.tp.length c aL D.L.length cL D.fu D.calls, .agg (opC 2 n s t fk fn)] w (StepK w S f P (D.cut s n).1) := by
  have hD9 := D.ok_more hD (show M ≤ 199 by omega)
  have hSlt := h.lt
  have hP1 : ∀ b, P b → b < w.heap.size := fun b hb => (hP b hb).1
  have htf := fewD_size t
  have hft : (fewD t).size ≤ maxLen := by unfold maxLen; omega
  have c1 := fun (W : World) (hPW : ∀ b, P b → b < W.heap.size) (g1 : Tps W P a D.tp) (g2 : LLs W P aL D.L) => rdcut_any hD (by omega) a c aL cL s n P W hPW g1 g2 hz
  have c2 := fun (W : World) (S : List Nat) (h : IsDk W S f D) => dkcut_any h hD9 s hs n n0 n1
  obtain ⟨⟨D2, v⟩, hr⟩ : ∃ r, D.cut s n = r := ⟨_, rfl⟩
  rw [hr]
  simp only [hr] at c1 c2
  show Calls _ _ _ _ (StepK w S f P D2)
  obtain ⟨sec, tp, LL, ⟨p, s0, d0, off⟩, calls⟩ := D
  obtain ⟨sec2, tp2, LL2, ⟨p2, s2, d2, off2⟩, calls2⟩ := D2
  obtain ⟨nt, hnt⟩ : ∃ x, tp.length = x := ⟨_, rfl⟩
  obtain ⟨nL, hnL⟩ : ∃ x, LL.length = x := ⟨_, rfl⟩
  obtain ⟨nt2, hnt2⟩ : ∃ x, tp2.length = x := ⟨_, rfl⟩
  obtain ⟨nL2, hnL2⟩ : ∃ x, LL2.length = x := ⟨_, rfl⟩
  simp only [hnt, hnL] at c1 ⊢
  obtain ⟨bs, bl, bz⟩ := Bs11.mk w (dskC sec a nt c aL nL cL ⟨p, s0, d0, off⟩ calls) (opC 2 n s t fk fn)
  obtain ⟨X, hX⟩ : ∃ X, ((w.alloc (.cells (dskC sec a nt c aL nL cL ⟨p, s0, d0, off⟩ calls) 34)).alloc (.cells (opC 2 n s t fk fn) 40)).alloc (.cells dskZ 34) = X := ⟨_, rfl⟩
  rw [hX] at bs bl bz
  have HX := Lib.hid hX; have C1 := Lib.hid c1; have C2 := Lib.hid c2; have BS := Lib.hid bs; have BL := Lib.hid bl; have BZ := Lib.hid bz; have H := Lib.hid h; have T := Lib.hid hT; have L := Lib.hid hL; have HP := Lib.hid hP; have HP1 := Lib.hid hP1; have HS := Lib.hid hSlt; have HN2 := Lib.hid hnt2; have HL2 := Lib.hid hnL2
  clear c1 c2 bs bl bz h hT hL hP hP1 hSlt hnt hnL hX hnt2 hnL2 hr hD hD9 hM hs ht htf hft n0 n1 f0 f1 hz
  go_enter Tryz.func58, Tryz.ntmps58
  go_wp2_with fail
  rw [show ((w.alloc (.cells #[.int .i64 sec, .slice a nt c, .slice aL nL cL, .int .i64 p, .int .i64 s0, .int .i64 d0, .bool off, .int .i64 calls] 34)).alloc (.cells #[.int .i64 2, .int .i64 n, .string s, .string t, .int .i64 fk, .int .i64 fn] 40)).alloc (.cells #[.int .i64 0, .slice none 0 0, .slice none 0 0, .int .i64 0, .int .i64 0, .int .i64 0, .bool false, .int .i64 0] 34) = X from HX.out]
  refine (few11_any t _).mono ?_
  rintro e w' ⟨rfl, rfl⟩
  have bs0 := BS.out
  obtain ⟨⟨_, _, _⟩, ⟨xb0, xb1, xb2, xb3, xb4, xb5, xb6, xb7, xq0, xq1, xq2, xq3, xq4, xq5, xq6, xq7⟩, ⟨xo0, xo1, xo2, xo3, xo4, xo5⟩, ⟨xk0, xk1, xk2, xk3, xk4, xk5, xk6, xk7, xr0, xr1, xr2, xr3, xr4, xr5, xr6, xr7⟩⟩ := bs0.facts
  clear bs0
  go_wp2_with fail
  refine (C1.out _ (fun b hb => Nat.lt_of_lt_of_le (HP1.out b hb) BL.out.size) (T.out.below HP1.out BL.out) (L.out.below HP1.out BL.out)).mono ?_
  rintro e w1 ⟨qv, rfl, ⟨a2, c2', aL2, cL2, rfl, hT2, hL2, hz2⟩, hb1⟩
  have hbs1 := BS.out.on hb1
  have HB1 := Lib.hid hb1; have T2 := Lib.hid hT2; have L2 := Lib.hid hL2; have Z2 := Lib.hid hz2
  simp only [HN2.out, HL2.out]
  clear hb1 hT2 hL2 hz2
  clear xb0 xb1 xb2 xb3 xb4 xb5 xb6 xb7 xq0 xq1 xq2 xq3 xq4 xq5 xq6 xq7 xo0 xo1 xo2 xo3 xo4 xo5 xk0 xk1 xk2 xk3 xk4 xk5 xk6 xk7 xr0 xr1 xr2 xr3 xr4 xr5 xr6 xr7
  obtain ⟨⟨_, _, _⟩, ⟨yb0, yb1, yb2, yb3, yb4, yb5, yb6, yb7, yq0, yq1, yq2, yq3, yq4, yq5, yq6, yq7⟩, ⟨yo0, yo1, yo2, yo3, yo4, yo5⟩, ⟨yk0, yk1, yk2, yk3, yk4, yk5, yk6, yk7, yr0, yr1, yr2, yr3, yr4, yr5, yr6, yr7⟩⟩ := hbs1.facts
  go_wp2_with fail
  obtain ⟨Y, hY, hbsY, hbY, hcY, hsY⟩ := put8_world hbs1 (BL.out.trans (HB1.out.mono BL.out.size)) sec2 a2 nt2 c2' aL2 nL2 cL2 p2 s2 d2 off2 calls2
  rw [hY]
  clear hY
  have hFY := H.out.below hbY
  have BSY := Lib.hid hbsY; have HBY := Lib.hid hbY; have HCY := Lib.hid hcY; have HSY := Lib.hid hsY; have HFY := Lib.hid hFY
  clear hbs1 hbY hcY hsY hFY
  clear yb0 yb1 yb2 yb3 yb4 yb5 yb6 yb7 yq0 yq1 yq2 yq3 yq4 yq5 yq6 yq7 yo0 yo1 yo2 yo3 yo4 yo5 yk0 yk1 yk2 yk3 yk4 yk5 yk6 yk7 yr0 yr1 yr2 yr3 yr4 yr5 yr6 yr7
  have hbsZ : Bs11 w (dskC sec2 a2 nt2 c2' aL2 nL2 cL2 ⟨p2, s2, d2, off2⟩ calls2) (opC 2 n s t fk fn) Y := hbsY
  obtain ⟨⟨_, _, _⟩, ⟨zb0, zb1, zb2, zb3, zb4, zb5, zb6, zb7, zq0, zq1, zq2, zq3, zq4, zq5, zq6, zq7⟩, ⟨zo0, zo1, zo2, zo3, zo4, zo5⟩, ⟨zk0, zk1, zk2, zk3, zk4, zk5, zk6, zk7, zr0, zr1, zr2, zr3, zr4, zr5, zr6, zr7⟩⟩ := hbsZ.facts
  clear hbsY hbsZ
  go_region_with (go_at_call 25; refine (C2.out _ _ HFY.out).mono ?_; rintro e w2 ⟨rfl, S2, hF2, hA2, hS2⟩; have hbs2 := BSY.out.apart hA2 HS.out; obtain ⟨⟨_, _, _⟩, ⟨vb0, vb1, vb2, vb3, vb4, vb5, vb6, vb7, vq0, vq1, vq2, vq3, vq4, vq5, vq6, vq7⟩, ⟨vo0, vo1, vo2, vo3, vo4, vo5⟩, ⟨vk0, vk1, vk2, vk3, vk4, vk5, vk6, vk7, vr0, vr1, vr2, vr3, vr4, vr5, vr6, vr7⟩⟩ := hbs2.facts; have HF2 := Lib.hid hF2; have HA2 := Lib.hid hA2; have HS2 := Lib.hid hS2; clear hF2 hA2 hS2 hbs2)
  all_goals
    go_wp2
    have hend := st11_end (cL := cL2) (D' := ⟨sec2, tp2, LL2, ⟨p2, s2, d2, off2⟩, calls2⟩) BL.out BZ.out HB1.out HCY.out HBY.out HSY.out T2.out L2.out Z2.out HN2.out HL2.out HP.out HS.out HF2.out HA2.out HS2.out
    exact bodyPost_ret (v := .tuple #[dskV sec2 a2 nt2 c2' aL2 nL2 cL2 ⟨p2, s2, d2, off2⟩ calls2, .bool true]) (by simp [results, Tryz.results58, go_sem, vk0, vk1, vk2, vk3, vk4, vk5, vk6, vk7]) rfl hend
set_option maxRecDepth 100000 in
set_option maxHeartbeats 3200000 in
theorem change11_4 {w : World} {S : List Nat} {f : Addr} {D : Dsk} {M : Nat} (h : IsDk w S f D) (hD : D.ok M) (hM : M ≤ 198) (a : Option Addr) (c : Nat) (aL : Option Addr) (cL : Nat) (P : Nat → Prop) (hP : ∀ b, P b → b < w.heap.size ∧ b ∉ S) (hT : Tps w P a D.tp) (hL : LLs w P aL D.L) (hz : a = none → c = 0) (n : Int) (s t : ByteArray) (fk fn : Int) (n0 : -9223372036854775808 ≤ n) (n1 : n ≤ 9223372036854775807) (hs : s.size ≤ maxLen) (ht : t.size ≤ maxLen) (f0 : -9223372036854775808 ≤ fk ∧ fk ≤ 9223372036854775807) (f1 : -9223372036854775808 ≤ fn ∧ fn ≤ 9223372036854775807) :
    Calls Tryz.prog 58 #[.pointer (some f), dskV D.sec a D.tp.length c aL D.L.length cL D.fu D.calls, .agg (opC 4 n s t fk fn)] w (StepK w S f P (D.rename s t).1) := by
  have hD9 := D.ok_more hD (show M ≤ 199 by omega)
  have hSlt := h.lt
  have hP1 : ∀ b, P b → b < w.heap.size := fun b hb => (hP b hb).1
  have htf := fewD_size t
  have hft : (fewD t).size ≤ maxLen := by unfold maxLen; omega
  have c1 := fun (W : World) (hPW : ∀ b, P b → b < W.heap.size) (g1 : Tps W P a D.tp) (g2 : LLs W P aL D.L) => rdrename_any hD (by omega) a c aL cL s t ht P W hPW g1 g2 hz
  have c2 := fun (W : World) (S : List Nat) (h : IsDk W S f D) => dkrename_any h hD9 s t hs ht
  obtain ⟨⟨D2, v⟩, hr⟩ : ∃ r, D.rename s t = r := ⟨_, rfl⟩
  rw [hr]
  simp only [hr] at c1 c2
  show Calls _ _ _ _ (StepK w S f P D2)
  obtain ⟨sec, tp, LL, ⟨p, s0, d0, off⟩, calls⟩ := D
  obtain ⟨sec2, tp2, LL2, ⟨p2, s2, d2, off2⟩, calls2⟩ := D2
  obtain ⟨nt, hnt⟩ : ∃ x, tp.length = x := ⟨_, rfl⟩
  obtain ⟨nL, hnL⟩ : ∃ x, LL.length = x := ⟨_, rfl⟩
  obtain ⟨nt2, hnt2⟩ : ∃ x, tp2.length = x := ⟨_, rfl⟩
  obtain ⟨nL2, hnL2⟩ : ∃ x, LL2.length = x := ⟨_, rfl⟩
  simp only [hnt, hnL] at c1 ⊢
  obtain ⟨bs, bl, bz⟩ := Bs11.mk w (dskC sec a nt c aL nL cL ⟨p, s0, d0, off⟩ calls) (opC 4 n s t fk fn)
  obtain ⟨X, hX⟩ : ∃ X, ((w.alloc (.cells (dskC sec a nt c aL nL cL ⟨p, s0, d0, off⟩ calls) 34)).alloc (.cells (opC 4 n s t fk fn) 40)).alloc (.cells dskZ 34) = X := ⟨_, rfl⟩
  rw [hX] at bs bl bz
  have HX := Lib.hid hX; have C1 := Lib.hid c1; have C2 := Lib.hid c2; have BS := Lib.hid bs; have BL := Lib.hid bl; have BZ := Lib.hid bz; have H := Lib.hid h; have T := Lib.hid hT; have L := Lib.hid hL; have HP := Lib.hid hP; have HP1 := Lib.hid hP1; have HS := Lib.hid hSlt; have HN2 := Lib.hid hnt2; have HL2 := Lib.hid hnL2
  clear c1 c2 bs bl bz h hT hL hP hP1 hSlt hnt hnL hX hnt2 hnL2 hr hD hD9 hM hs ht htf hft n0 n1 f0 f1 hz
  go_enter Tryz.func58, Tryz.ntmps58
  go_wp2_with fail
  rw [show ((w.alloc (.cells #[.int .i64 sec, .slice a nt c, .slice aL nL cL, .int .i64 p, .int .i64 s0, .int .i64 d0, .bool off, .int .i64 calls] 34)).alloc (.cells #[.int .i64 4, .int .i64 n, .string s, .string t, .int .i64 fk, .int .i64 fn] 40)).alloc (.cells #[.int .i64 0, .slice none 0 0, .slice none 0 0, .int .i64 0, .int .i64 0, .int .i64 0, .bool false, .int .i64 0] 34) = X from HX.out]
  refine (few11_any t _).mono ?_
  rintro e w' ⟨rfl, rfl⟩
  have bs0 := BS.out
  obtain ⟨⟨_, _, _⟩, ⟨xb0, xb1, xb2, xb3, xb4, xb5, xb6, xb7, xq0, xq1, xq2, xq3, xq4, xq5, xq6, xq7⟩, ⟨xo0, xo1, xo2, xo3, xo4, xo5⟩, ⟨xk0, xk1, xk2, xk3, xk4, xk5, xk6, xk7, xr0, xr1, xr2, xr3, xr4, xr5, xr6, xr7⟩⟩ := bs0.facts
  clear bs0
  go_wp2_with fail
  refine (C1.out _ (fun b hb => Nat.lt_of_lt_of_le (HP1.out b hb) BL.out.size) (T.out.below HP1.out BL.out) (L.out.below HP1.out BL.out)).mono ?_
  rintro e w1 ⟨qv, rfl, ⟨a2, c2', aL2, cL2, rfl, hT2, hL2, hz2⟩, hb1⟩
  have hbs1 := BS.out.on hb1
  have HB1 := Lib.hid hb1; have T2 := Lib.hid hT2; have L2 := Lib.hid hL2; have Z2 := Lib.hid hz2
  simp only [HN2.out, HL2.out]
  clear hb1 hT2 hL2 hz2
  clear xb0 xb1 xb2 xb3 xb4 xb5 xb6 xb7 xq0 xq1 xq2 xq3 xq4 xq5 xq6 xq7 xo0 xo1 xo2 xo3 xo4 xo5 xk0 xk1 xk2 xk3 xk4 xk5 xk6 xk7 xr0 xr1 xr2 xr3 xr4 xr5 xr6 xr7
  obtain ⟨⟨_, _, _⟩, ⟨yb0, yb1, yb2, yb3, yb4, yb5, yb6, yb7, yq0, yq1, yq2, yq3, yq4, yq5, yq6, yq7⟩, ⟨yo0, yo1, yo2, yo3, yo4, yo5⟩, ⟨yk0, yk1, yk2, yk3, yk4, yk5, yk6, yk7, yr0, yr1, yr2, yr3, yr4, yr5, yr6, yr7⟩⟩ := hbs1.facts
  go_wp2_with fail
  obtain ⟨Y, hY, hbsY, hbY, hcY, hsY⟩ := put8_world hbs1 (BL.out.trans (HB1.out.mono BL.out.size)) sec2 a2 nt2 c2' aL2 nL2 cL2 p2 s2 d2 off2 calls2
  rw [hY]
  clear hY
  have hFY := H.out.below hbY
  have BSY := Lib.hid hbsY; have HBY := Lib.hid hbY; have HCY := Lib.hid hcY; have HSY := Lib.hid hsY; have HFY := Lib.hid hFY
  clear hbs1 hbY hcY hsY hFY
  clear yb0 yb1 yb2 yb3 yb4 yb5 yb6 yb7 yq0 yq1 yq2 yq3 yq4 yq5 yq6 yq7 yo0 yo1 yo2 yo3 yo4 yo5 yk0 yk1 yk2 yk3 yk4 yk5 yk6 yk7 yr0 yr1 yr2 yr3 yr4 yr5 yr6 yr7
  have hbsZ : Bs11 w (dskC sec2 a2 nt2 c2' aL2 nL2 cL2 ⟨p2, s2, d2, off2⟩ calls2) (opC 4 n s t fk fn) Y := hbsY
  obtain ⟨⟨_, _, _⟩, ⟨zb0, zb1, zb2, zb3, zb4, zb5, zb6, zb7, zq0, zq1, zq2, zq3, zq4, zq5, zq6, zq7⟩, ⟨zo0, zo1, zo2, zo3, zo4, zo5⟩, ⟨zk0, zk1, zk2, zk3, zk4, zk5, zk6, zk7, zr0, zr1, zr2, zr3, zr4, zr5, zr6, zr7⟩⟩ := hbsZ.facts
  clear hbsY hbsZ
  go_region_with (go_at_call 21; refine (C2.out _ _ HFY.out).mono ?_; rintro e w2 ⟨rfl, S2, hF2, hA2, hS2⟩; have hbs2 := BSY.out.apart hA2 HS.out; obtain ⟨⟨_, _, _⟩, ⟨vb0, vb1, vb2, vb3, vb4, vb5, vb6, vb7, vq0, vq1, vq2, vq3, vq4, vq5, vq6, vq7⟩, ⟨vo0, vo1, vo2, vo3, vo4, vo5⟩, ⟨vk0, vk1, vk2, vk3, vk4, vk5, vk6, vk7, vr0, vr1, vr2, vr3, vr4, vr5, vr6, vr7⟩⟩ := hbs2.facts; have HF2 := Lib.hid hF2; have HA2 := Lib.hid hA2; have HS2 := Lib.hid hS2; clear hF2 hA2 hS2 hbs2)
  all_goals
    go_wp2
    have hend := st11_end (cL := cL2) (D' := ⟨sec2, tp2, LL2, ⟨p2, s2, d2, off2⟩, calls2⟩) BL.out BZ.out HB1.out HCY.out HBY.out HSY.out T2.out L2.out Z2.out HN2.out HL2.out HP.out HS.out HF2.out HA2.out HS2.out
    exact bodyPost_ret (v := .tuple #[dskV sec2 a2 nt2 c2' aL2 nL2 cL2 ⟨p2, s2, d2, off2⟩ calls2, .bool true]) (by simp [results, Tryz.results58, go_sem, vk0, vk1, vk2, vk3, vk4, vk5, vk6, vk7]) rfl hend
set_option maxRecDepth 100000 in
set_option maxHeartbeats 3200000 in
theorem change11_5 {w : World} {S : List Nat} {f : Addr} {D : Dsk} {M : Nat} (h : IsDk w S f D) (hD : D.ok M) (hM : M ≤ 198) (a : Option Addr) (c : Nat) (aL : Option Addr) (cL : Nat) (P : Nat → Prop) (hP : ∀ b, P b → b < w.heap.size ∧ b ∉ S) (hT : Tps w P a D.tp) (hL : LLs w P aL D.L) (hz : a = none → c = 0) (n : Int) (s t : ByteArray) (fk fn : Int) (n0 : -9223372036854775808 ≤ n) (n1 : n ≤ 9223372036854775807) (hs : s.size ≤ maxLen) (ht : t.size ≤ maxLen) (f0 : -9223372036854775808 ≤ fk ∧ fk ≤ 9223372036854775807) (f1 : -9223372036854775808 ≤ fn ∧ fn ≤ 9223372036854775807) :
    Calls Tryz.prog 58 #[.pointer (some f), dskV D.sec a D.tp.length c aL D.L.length cL D.fu D.calls, .agg (opC 5 n s t fk fn)] w (StepK w S f P (D.remove s).1) := by
  have hD9 := D.ok_more hD (show M ≤ 199 by omega)
  have hSlt := h.lt
  have hP1 : ∀ b, P b → b < w.heap.size := fun b hb => (hP b hb).1
  have htf := fewD_size t
  have hft : (fewD t).size ≤ maxLen := by unfold maxLen; omega
  have c1 := fun (W : World) (hPW : ∀ b, P b → b < W.heap.size) (g1 : Tps W P a D.tp) (g2 : LLs W P aL D.L) => rdremove_any hD (by omega) a c aL cL s P W hPW g1 g2 hz
  have c2 := fun (W : World) (S : List Nat) (h : IsDk W S f D) => dkremove_any h hD9 s hs
  obtain ⟨⟨D2, v⟩, hr⟩ : ∃ r, D.remove s = r := ⟨_, rfl⟩
  rw [hr]
  simp only [hr] at c1 c2
  show Calls _ _ _ _ (StepK w S f P D2)
  obtain ⟨sec, tp, LL, ⟨p, s0, d0, off⟩, calls⟩ := D
  obtain ⟨sec2, tp2, LL2, ⟨p2, s2, d2, off2⟩, calls2⟩ := D2
  obtain ⟨nt, hnt⟩ : ∃ x, tp.length = x := ⟨_, rfl⟩
  obtain ⟨nL, hnL⟩ : ∃ x, LL.length = x := ⟨_, rfl⟩
  obtain ⟨nt2, hnt2⟩ : ∃ x, tp2.length = x := ⟨_, rfl⟩
  obtain ⟨nL2, hnL2⟩ : ∃ x, LL2.length = x := ⟨_, rfl⟩
  simp only [hnt, hnL] at c1 ⊢
  obtain ⟨bs, bl, bz⟩ := Bs11.mk w (dskC sec a nt c aL nL cL ⟨p, s0, d0, off⟩ calls) (opC 5 n s t fk fn)
  obtain ⟨X, hX⟩ : ∃ X, ((w.alloc (.cells (dskC sec a nt c aL nL cL ⟨p, s0, d0, off⟩ calls) 34)).alloc (.cells (opC 5 n s t fk fn) 40)).alloc (.cells dskZ 34) = X := ⟨_, rfl⟩
  rw [hX] at bs bl bz
  have HX := Lib.hid hX; have C1 := Lib.hid c1; have C2 := Lib.hid c2; have BS := Lib.hid bs; have BL := Lib.hid bl; have BZ := Lib.hid bz; have H := Lib.hid h; have T := Lib.hid hT; have L := Lib.hid hL; have HP := Lib.hid hP; have HP1 := Lib.hid hP1; have HS := Lib.hid hSlt; have HN2 := Lib.hid hnt2; have HL2 := Lib.hid hnL2
  clear c1 c2 bs bl bz h hT hL hP hP1 hSlt hnt hnL hX hnt2 hnL2 hr hD hD9 hM hs ht htf hft n0 n1 f0 f1 hz
  go_enter Tryz.func58, Tryz.ntmps58
  go_wp2_with fail
  rw [show ((w.alloc (.cells #[.int .i64 sec, .slice a nt c, .slice aL nL cL, .int .i64 p, .int .i64 s0, .int .i64 d0, .bool off, .int .i64 calls] 34)).alloc (.cells #[.int .i64 5, .int .i64 n, .string s, .string t, .int .i64 fk, .int .i64 fn] 40)).alloc (.cells #[.int .i64 0, .slice none 0 0, .slice none 0 0, .int .i64 0, .int .i64 0, .int .i64 0, .bool false, .int .i64 0] 34) = X from HX.out]
  refine (few11_any t _).mono ?_
  rintro e w' ⟨rfl, rfl⟩
  have bs0 := BS.out
  obtain ⟨⟨_, _, _⟩, ⟨xb0, xb1, xb2, xb3, xb4, xb5, xb6, xb7, xq0, xq1, xq2, xq3, xq4, xq5, xq6, xq7⟩, ⟨xo0, xo1, xo2, xo3, xo4, xo5⟩, ⟨xk0, xk1, xk2, xk3, xk4, xk5, xk6, xk7, xr0, xr1, xr2, xr3, xr4, xr5, xr6, xr7⟩⟩ := bs0.facts
  clear bs0
  go_wp2_with fail
  refine (C1.out _ (fun b hb => Nat.lt_of_lt_of_le (HP1.out b hb) BL.out.size) (T.out.below HP1.out BL.out) (L.out.below HP1.out BL.out)).mono ?_
  rintro e w1 ⟨qv, rfl, ⟨a2, c2', aL2, cL2, rfl, hT2, hL2, hz2⟩, hb1⟩
  have hbs1 := BS.out.on hb1
  have HB1 := Lib.hid hb1; have T2 := Lib.hid hT2; have L2 := Lib.hid hL2; have Z2 := Lib.hid hz2
  simp only [HN2.out, HL2.out]
  clear hb1 hT2 hL2 hz2
  clear xb0 xb1 xb2 xb3 xb4 xb5 xb6 xb7 xq0 xq1 xq2 xq3 xq4 xq5 xq6 xq7 xo0 xo1 xo2 xo3 xo4 xo5 xk0 xk1 xk2 xk3 xk4 xk5 xk6 xk7 xr0 xr1 xr2 xr3 xr4 xr5 xr6 xr7
  obtain ⟨⟨_, _, _⟩, ⟨yb0, yb1, yb2, yb3, yb4, yb5, yb6, yb7, yq0, yq1, yq2, yq3, yq4, yq5, yq6, yq7⟩, ⟨yo0, yo1, yo2, yo3, yo4, yo5⟩, ⟨yk0, yk1, yk2, yk3, yk4, yk5, yk6, yk7, yr0, yr1, yr2, yr3, yr4, yr5, yr6, yr7⟩⟩ := hbs1.facts
  go_wp2_with fail
  obtain ⟨Y, hY, hbsY, hbY, hcY, hsY⟩ := put8_world hbs1 (BL.out.trans (HB1.out.mono BL.out.size)) sec2 a2 nt2 c2' aL2 nL2 cL2 p2 s2 d2 off2 calls2
  rw [hY]
  clear hY
  have hFY := H.out.below hbY
  have BSY := Lib.hid hbsY; have HBY := Lib.hid hbY; have HCY := Lib.hid hcY; have HSY := Lib.hid hsY; have HFY := Lib.hid hFY
  clear hbs1 hbY hcY hsY hFY
  clear yb0 yb1 yb2 yb3 yb4 yb5 yb6 yb7 yq0 yq1 yq2 yq3 yq4 yq5 yq6 yq7 yo0 yo1 yo2 yo3 yo4 yo5 yk0 yk1 yk2 yk3 yk4 yk5 yk6 yk7 yr0 yr1 yr2 yr3 yr4 yr5 yr6 yr7
  have hbsZ : Bs11 w (dskC sec2 a2 nt2 c2' aL2 nL2 cL2 ⟨p2, s2, d2, off2⟩ calls2) (opC 5 n s t fk fn) Y := hbsY
  obtain ⟨⟨_, _, _⟩, ⟨zb0, zb1, zb2, zb3, zb4, zb5, zb6, zb7, zq0, zq1, zq2, zq3, zq4, zq5, zq6, zq7⟩, ⟨zo0, zo1, zo2, zo3, zo4, zo5⟩, ⟨zk0, zk1, zk2, zk3, zk4, zk5, zk6, zk7, zr0, zr1, zr2, zr3, zr4, zr5, zr6, zr7⟩⟩ := hbsZ.facts
  clear hbsY hbsZ
  go_region_with (go_at_call 22; refine (C2.out _ _ HFY.out).mono ?_; rintro e w2 ⟨rfl, S2, hF2, hA2, hS2⟩; have hbs2 := BSY.out.apart hA2 HS.out; obtain ⟨⟨_, _, _⟩, ⟨vb0, vb1, vb2, vb3, vb4, vb5, vb6, vb7, vq0, vq1, vq2, vq3, vq4, vq5, vq6, vq7⟩, ⟨vo0, vo1, vo2, vo3, vo4, vo5⟩, ⟨vk0, vk1, vk2, vk3, vk4, vk5, vk6, vk7, vr0, vr1, vr2, vr3, vr4, vr5, vr6, vr7⟩⟩ := hbs2.facts; have HF2 := Lib.hid hF2; have HA2 := Lib.hid hA2; have HS2 := Lib.hid hS2; clear hF2 hA2 hS2 hbs2)
  all_goals
    go_wp2
    have hend := st11_end (cL := cL2) (D' := ⟨sec2, tp2, LL2, ⟨p2, s2, d2, off2⟩, calls2⟩) BL.out BZ.out HB1.out HCY.out HBY.out HSY.out T2.out L2.out Z2.out HN2.out HL2.out HP.out HS.out HF2.out HA2.out HS2.out
    exact bodyPost_ret (v := .tuple #[dskV sec2 a2 nt2 c2' aL2 nL2 cL2 ⟨p2, s2, d2, off2⟩ calls2, .bool true]) (by simp [results, Tryz.results58, go_sem, vk0, vk1, vk2, vk3, vk4, vk5, vk6, vk7]) rfl hend
end Go.Proofs.YtfgecjlccngddaaGreat
