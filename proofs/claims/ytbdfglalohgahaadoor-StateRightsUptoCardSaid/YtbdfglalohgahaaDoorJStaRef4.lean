/-
  Joined: StaRef4, LawSta.
-/
import Derived.Test.YtbdfglalohgahaaDoorJStaRight
import Derived.Test.YtbdfglalohgahaaDoorStaShow
namespace Go.Proofs.YtbdfglalohgahaaDoor
open Go.RowKit
set_option linter.unusedVariables false
set_option linter.unusedSimpArgs false

theorem line2_eq (x y : ByteArray) : lineL [x, y] = x.data.toList ++ (32 :: (y.data.toList ++ [10])) := by simp [lineL, Lib.join, List.intercalate]
theorem line3_eq (x y z : ByteArray) : lineL [x, y, z] = x.data.toList ++ (32 :: (y.data.toList ++ (32 :: (z.data.toList ++ [10])))) := by simp [lineL, Lib.join, List.intercalate]
/-- The state's box and a mark of its row, while a round runs. -/
def RdM (w : World) (s : Sta) (ad : Addr) (nm : ByteArray) (p : Int) (w1 : World) : Prop :=
  Below w.heap.size w w1 ∧ w.heap.size + 1 ≤ w1.heap.size ∧ w1.cell? ⟨w.heap.size, 1, none⟩ = some (.slice s.m.a s.m.l.length s.m.c) ∧ w1.cell? ad = some (.string nm) ∧ w1.cell? ⟨ad.block, ad.off + 1, none⟩ = some (.int .i64 p)
theorem RdM.drew {w w1 : World} {s : Sta} {ad : Addr} {nm : ByteArray} {p : Int} (h : RdM w s ad nm p w1) : RdM w s ad nm p w1.drew := ⟨h.1.drew, h.2⟩
theorem RdM.on {w w1 w2 : World} {s : Sta} {ad : Addr} {nm : ByteArray} {p : Int} (h : RdM w s ad nm p w1) (hb : Below w1.heap.size w1 w2) : RdM w s ad nm p w2 :=
  ⟨h.1.trans (hb.mono h.1.size), Nat.le_trans h.2.1 hb.size, (hb.cell (p := ⟨w.heap.size, 1, none⟩) h.2.1).trans h.2.2.1, (hb.cell (World.block_lt_of_cell? _ _ h.2.2.2.1)).trans h.2.2.2.1, (hb.cell (p := ⟨ad.block, ad.off + 1, none⟩) (World.block_lt_of_cell? _ _ h.2.2.2.2)).trans h.2.2.2.2⟩

set_option maxRecDepth 100000 in
set_option maxHeartbeats 6400000 in
theorem rshow25_any (s : Sta) (w : World) (hin : StaIn w s) (hm : s.m.l.length ≤ 1000) (hmp : ∀ x ∈ s.m.l, -9223372036854775808 ≤ x.p ∧ x.p ≤ 9223372036854775807) (hu : s.u.l.length ≤ 1000000) (hr : s.r.l.length ≤ 1000000) (hg : s.g.l.length ≤ 1000000) (hS : s.t.size + nameN s.m.l ≤ 1000000000000) :
    Calls Tryd.prog 11 #[s.v] w fun e w' => e = .returned (.string ⟨(showL s).toArray⟩) ∧ Below w.heap.size w w' := by
  have hi := RdI.new w s
  obtain ⟨wX, hwX⟩ : ∃ wX, w.alloc (.cells #[.string s.t, .slice s.m.a s.m.l.length s.m.c, .slice s.u.a s.u.l.length s.u.c, .slice s.r.a s.r.l.length s.r.c, .bool s.o, .slice s.g.a s.g.l.length s.g.c] 26) = wX := ⟨_, rfl⟩
  rw [hwX] at hi
  have hln : (lineL [tText, s.t] ++ marksL s.m.l).length ≤ 2000000000000 := by
    rw [List.length_append, line2_len]
    have := marksL_len s.m.l hmp
    have h4 : tText.size = 4 := rfl
    omega
  have hlk : ∀ k, (lineL [tText, s.t] ++ marksL (s.m.l.take k)).length ≤ (lineL [tText, s.t] ++ marksL s.m.l).length := fun k => by
    have e : marksL s.m.l = marksL (s.m.l.take k) ++ marksL (s.m.l.drop k) := by unfold marksL; rw [← List.flatMap_append, List.take_append_drop]
    rw [e]
    simp only [List.length_append]
    omega
  obtain ⟨R, hR⟩ : ∃ R : ByteArray, ⟨(showL s).toArray⟩ = R := ⟨_, rfl⟩
  rw [hR]
  have htz : s.t.size ≤ 1000000000000 := by omega
  have F0 : ¬ (9223372036854775807 < ((⟨#[116, 101, 120, 116, 32]⟩ : ByteArray)).size + s.t.size) := by
    try simp only [ByteArray.size_append]
    show ¬ (_ < 5 + s.t.size)
    omega
  have G0 : ¬ (9223372036854775807 < 5 + s.t.size) := by omega
  have F1 : ¬ (9223372036854775807 < ((⟨#[116, 101, 120, 116, 32]⟩ : ByteArray) ++ s.t).size + (⟨#[10]⟩ : ByteArray).size) := by
    try simp only [ByteArray.size_append]
    show ¬ (_ < 5 + s.t.size + 1)
    omega
  have G1 : ¬ (9223372036854775807 < 5 + s.t.size + 1) := by omega
  have hO : ((⟨#[116, 101, 120, 116, 32]⟩ : ByteArray) ++ s.t ++ (⟨#[10]⟩ : ByteArray)).data.toList = lineL [tText, s.t] := by
    rw [line2_eq]
    simp only [app_list]
    rfl
  have HI := Lib.hid hi; have HIN := Lib.hid hin; have HMP := Lib.hid hmp; have HLN := Lib.hid hln; have HLK := Lib.hid hlk; have HR := Lib.hid hR; have HO := Lib.hid hO
  have y0 := hi.b0.x0
  have y1 := hi.b0.x1
  clear hi hin hmp hln hlk hR hO hS htz
  go_enter Tryd.func11, Tryd.ntmps11
  go_wp2
  clear F0 G0 F1 G1 y0 y1
  go_loopw [3, 4] (fun z i wr => ∃ (k : Nat) (O : ByteArray), k ≤ s.m.l.length ∧ i = .int .i64 k ∧ z = .string O ∧ O.data.toList = lineL [tText, s.t] ++ marksL (s.m.l.take k) ∧ RdI w s wr) (fun _ i _ => s.m.l.length - (intOf i).toNat)
  case atStart => exact ⟨0, _, Nat.zero_le _, rfl, rfl, by rw [List.take_zero]; show _ = lineL [tText, s.t] ++ []; rw [List.append_nil]; exact HO.out, HI.out⟩
  case round =>
    obtain ⟨k, O, hk, rfl, rfl, hO, hi⟩ := hrel
    have y1 := hi.b0.x1
    have hlk1 := HLK.out (k + 1)
    have hlk0 := HLK.out k
    have hlk2 := HLN.out
    have hOz : O.size ≤ 2000000000000 := by rw [← list_size, hO]; omega
    by_cases hlt : k < s.m.l.length
    · obtain ⟨ad, had, hab, q0, q1⟩ := (HIN.out.later hi.bel).m.row.at k hlt
      have hmm := marksL_more s.m.l k hlt
      have hpp := HMP.out (s.m.l[k]!) (by rw [kget hlt]; exact List.getElem_mem hlt)
      obtain ⟨x, hx⟩ : ∃ x, s.m.l[k]! = x := ⟨_, rfl⟩
      rw [hx] at q0 q1 hmm hpp
      obtain ⟨nm, p⟩ := x
      simp only at q0 q1 hmm hpp
      have ct := rplain64_any p hpp.1 hpp.2
      have hdz := decS_20 hpp.1 hpp.2
      have hnz : nm.size ≤ 2000000000000 := by
        rw [hmm] at hlk1
        have : (markL ⟨nm, p⟩).length = tMark.size + nm.size + (decS p).size + 3 := line3_len _ _ _
        simp only [List.length_append] at hlk1 hlk2
        omega
      obtain ⟨Dg, hDg⟩ : ∃ D, decS p = D := ⟨_, rfl⟩
      rw [hDg] at ct hdz
      have F0 : ¬ (9223372036854775807 < O.size + (⟨#[109, 97, 114, 107, 32]⟩ : ByteArray).size) := by
        try simp only [ByteArray.size_append]
        show ¬ (_ < O.size + 5)
        omega
      have G0 : ¬ (9223372036854775807 < O.size + 5) := by omega
      have F1 : ¬ (9223372036854775807 < (O ++ (⟨#[109, 97, 114, 107, 32]⟩ : ByteArray)).size + nm.size) := by
        try simp only [ByteArray.size_append]
        show ¬ (_ < O.size + 5 + nm.size)
        omega
      have G1 : ¬ (9223372036854775807 < O.size + 5 + nm.size) := by omega
      have F2 : ¬ (9223372036854775807 < (O ++ (⟨#[109, 97, 114, 107, 32]⟩ : ByteArray) ++ nm).size + (⟨#[32]⟩ : ByteArray).size) := by
        try simp only [ByteArray.size_append]
        show ¬ (_ < O.size + 5 + nm.size + 1)
        omega
      have G2 : ¬ (9223372036854775807 < O.size + 5 + nm.size + 1) := by omega
      have F3 : ¬ (9223372036854775807 < (O ++ (⟨#[109, 97, 114, 107, 32]⟩ : ByteArray) ++ nm ++ (⟨#[32]⟩ : ByteArray)).size + Dg.size) := by
        try simp only [ByteArray.size_append]
        show ¬ (_ < O.size + 5 + nm.size + 1 + Dg.size)
        omega
      have G3 : ¬ (9223372036854775807 < O.size + 5 + nm.size + 1 + Dg.size) := by omega
      have F4 : ¬ (9223372036854775807 < (O ++ (⟨#[109, 97, 114, 107, 32]⟩ : ByteArray) ++ nm ++ (⟨#[32]⟩ : ByteArray) ++ Dg).size + (⟨#[10]⟩ : ByteArray).size) := by
        try simp only [ByteArray.size_append]
        show ¬ (_ < O.size + 5 + nm.size + 1 + Dg.size + 1)
        omega
      have G4 : ¬ (9223372036854775807 < O.size + 5 + nm.size + 1 + Dg.size + 1) := by omega
      have hcat : (O ++ (⟨#[109, 97, 114, 107, 32]⟩ : ByteArray) ++ nm ++ (⟨#[32]⟩ : ByteArray) ++ Dg ++ (⟨#[10]⟩ : ByteArray)).data.toList = lineL [tText, s.t] ++ marksL (s.m.l.take (k + 1)) := by
        rw [hmm, ← List.append_assoc, ← hO]
        show _ = _ ++ lineL [tMark, nm, decS p]
        rw [line3_eq, hDg]
        simp only [app_list, List.append_assoc]
        rfl
      have hst : RdM w s (ad.add (k * 2)) nm p wr := ⟨hi.bel, hi.b0.lt, y1, q0, q1⟩
      have b0 : (0 : Int) ≤ (k : Int) := by omega
      have b1 : (k : Int) < (s.m.l.length : Int) := by omega
      have HST := Lib.hid hst; have HCAT := Lib.hid hcat; have CT := Lib.hid ct; have HI2 := Lib.hid hi
      clear hst hcat ct hi hab hmm hpp hlk0 hlk1 hlk2 hx hO hOz hdz hnz hDg
      go_wp2_with fail
      go_region_held3 (fun w1 => Below w.heap.size w w1 ∧ w.heap.size + 1 ≤ w1.heap.size ∧ w1.cell? ⟨w.heap.size, 1, none⟩ = some (.slice s.m.a s.m.l.length s.m.c) ∧ w1.cell? (ad.add (k * 2)) = some (.string nm) ∧ w1.cell? ⟨(ad.add (k * 2)).block, (ad.add (k * 2)).off + 1, none⟩ = some (.int .i64 p))
        (first | exact HST.out.drew | exact RdM.on (by assumption) hb1)
        (first | (go_at_call 39; refine (CT.out _).mono ?_; rintro e w1 ⟨rfl, hb1⟩; have HB1 := Lib.hid hb1))
      have HS := Lib.hid (show RdM w s (ad.add (k * 2)) nm p _ by assumption)
      have HI3 := Lib.hid (HI2.out.on ((Below.refl _ _).drew.trans HB1.out))
      go_wp2
      go_roundw
      case rel => exact ⟨k + 1, _, by omega, by go_num, rfl, HCAT.out, HI3.out⟩
      case measure => simp [intOf]; omega
    · obtain rfl : k = s.m.l.length := by omega
      rw [List.take_length] at hO
      have b1 : ¬ (s.m.l.length : Int) < (s.m.l.length : Int) := by omega
      have b2 : ¬ s.m.l.length < s.m.l.length := by omega
      have cu := rplain64_any ((s.u.l.length : Nat) : Int) (by omega) (by omega)
      have cr := rplain64_any ((s.r.l.length : Nat) : Int) (by omega) (by omega)
      have cg := rplain64_any ((s.g.l.length : Nat) : Int) (by omega) (by omega)
      have zu := decS_20 (n := ((s.u.l.length : Nat) : Int)) (by omega) (by omega)
      have zr := decS_20 (n := ((s.r.l.length : Nat) : Int)) (by omega) (by omega)
      have zg := decS_20 (n := ((s.g.l.length : Nat) : Int)) (by omega) (by omega)
      have hA : showA s = O.data.toList ++ lineL [tUndo, decS s.u.l.length] ++ lineL [tRedo, decS s.r.l.length] := by unfold showA; rw [hO]
      obtain ⟨Du, hDu⟩ : ∃ D, decS ((s.u.l.length : Nat) : Int) = D := ⟨_, rfl⟩
      obtain ⟨Dr, hDr⟩ : ∃ D, decS ((s.r.l.length : Nat) : Int) = D := ⟨_, rfl⟩
      obtain ⟨Dg, hDg⟩ : ∃ D, decS ((s.g.l.length : Nat) : Int) = D := ⟨_, rfl⟩
      have hRR := HR.out
      unfold showL at hRR
      rw [hA, hDg] at hRR
      rw [hDu, hDr] at hRR
      rw [hDu] at cu zu
      rw [hDr] at cr zr
      rw [hDg] at cg zg
      have F0 : ¬ (9223372036854775807 < O.size + (⟨#[117, 110, 100, 111, 32]⟩ : ByteArray).size) := by
        try simp only [ByteArray.size_append]
        show ¬ (_ < O.size + 5)
        omega
      have G0 : ¬ (9223372036854775807 < O.size + 5) := by omega
      have F1 : ¬ (9223372036854775807 < (O ++ (⟨#[117, 110, 100, 111, 32]⟩ : ByteArray)).size + Du.size) := by
        try simp only [ByteArray.size_append]
        show ¬ (_ < O.size + 5 + Du.size)
        omega
      have G1 : ¬ (9223372036854775807 < O.size + 5 + Du.size) := by omega
      have F2 : ¬ (9223372036854775807 < (O ++ (⟨#[117, 110, 100, 111, 32]⟩ : ByteArray) ++ Du).size + (⟨#[10, 114, 101, 100, 111, 32]⟩ : ByteArray).size) := by
        try simp only [ByteArray.size_append]
        show ¬ (_ < O.size + 5 + Du.size + 6)
        omega
      have G2 : ¬ (9223372036854775807 < O.size + 5 + Du.size + 6) := by omega
      have F3 : ¬ (9223372036854775807 < (O ++ (⟨#[117, 110, 100, 111, 32]⟩ : ByteArray) ++ Du ++ (⟨#[10, 114, 101, 100, 111, 32]⟩ : ByteArray)).size + Dr.size) := by
        try simp only [ByteArray.size_append]
        show ¬ (_ < O.size + 5 + Du.size + 6 + Dr.size)
        omega
      have G3 : ¬ (9223372036854775807 < O.size + 5 + Du.size + 6 + Dr.size) := by omega
      have F4 : ¬ (9223372036854775807 < (O ++ (⟨#[117, 110, 100, 111, 32]⟩ : ByteArray) ++ Du ++ (⟨#[10, 114, 101, 100, 111, 32]⟩ : ByteArray) ++ Dr).size + (⟨#[10]⟩ : ByteArray).size) := by
        try simp only [ByteArray.size_append]
        show ¬ (_ < O.size + 5 + Du.size + 6 + Dr.size + 1)
        omega
      have G4 : ¬ (9223372036854775807 < O.size + 5 + Du.size + 6 + Dr.size + 1) := by omega
      obtain ⟨V, hV⟩ : ∃ V, O ++ (⟨#[117, 110, 100, 111, 32]⟩ : ByteArray) ++ Du ++ (⟨#[10, 114, 101, 100, 111, 32]⟩ : ByteArray) ++ Dr ++ (⟨#[10]⟩ : ByteArray) = V := ⟨_, rfl⟩
      have hVz : V.size ≤ 3000000000000 := by
        rw [← hV]
        simp only [ByteArray.size_append]
        show O.size + 5 + Du.size + 6 + Dr.size + 1 ≤ _
        omega
      have hVl : V.data.toList = O.data.toList ++ lineL [tUndo, Du] ++ lineL [tRedo, Dr] := by
        rw [← hV, line2_eq, line2_eq]
        simp [app_list, tUndo, tRedo]
      rw [← hVl] at hRR
      have K0 : ¬ (9223372036854775807 < V.size + (⟨#[111, 112, 101, 110, 32]⟩ : ByteArray).size) := by
        try simp only [ByteArray.size_append]
        show ¬ (_ < V.size + 5)
        omega
      have L0 : ¬ (9223372036854775807 < V.size + 5) := by omega
      have K1 : ¬ (9223372036854775807 < (V ++ (⟨#[111, 112, 101, 110, 32]⟩ : ByteArray)).size + Dg.size) := by
        try simp only [ByteArray.size_append]
        show ¬ (_ < V.size + 5 + Dg.size)
        omega
      have L1 : ¬ (9223372036854775807 < V.size + 5 + Dg.size) := by omega
      have K2 : ¬ (9223372036854775807 < (V ++ (⟨#[111, 112, 101, 110, 32]⟩ : ByteArray) ++ Dg).size + (⟨#[10]⟩ : ByteArray).size) := by
        try simp only [ByteArray.size_append]
        show ¬ (_ < V.size + 5 + Dg.size + 1)
        omega
      have L2 : ¬ (9223372036854775807 < V.size + 5 + Dg.size + 1) := by omega
      have hor : s.o = true ∨ s.o = false := by cases s.o <;> simp
      have HRR := Lib.hid hRR; have HV := Lib.hid hV; have HVL := Lib.hid hVl; have CU := Lib.hid cu; have CR := Lib.hid cr; have CG := Lib.hid cg; have HST := Lib.hid hi.rds; have HOR := Lib.hid hor
      have y2 := hi.b0.x2
      have y3 := hi.b0.x3
      clear hi hlk0 hlk1 hlk2 hlt hO hOz cu cr cg zu zr zg hA hDu hDr hDg hRR hV hVz hVl hor
      go_wp2_with fail
      go_region_held3 (fun w1 => Below w.heap.size w w1 ∧ w.heap.size + 1 ≤ w1.heap.size ∧ w1.cell? ⟨w.heap.size, 0, none⟩ = some (.string s.t) ∧ w1.cell? ⟨w.heap.size, 1, none⟩ = some (.slice s.m.a s.m.l.length s.m.c) ∧ w1.cell? ⟨w.heap.size, 2, none⟩ = some (.slice s.u.a s.u.l.length s.u.c) ∧ w1.cell? ⟨w.heap.size, 3, none⟩ = some (.slice s.r.a s.r.l.length s.r.c) ∧ w1.cell? ⟨w.heap.size, 4, none⟩ = some (.bool s.o) ∧ w1.cell? ⟨w.heap.size, 5, none⟩ = some (.slice s.g.a s.g.l.length s.g.c))
        (first | exact HST.out.drew | exact RdS.on (by assumption) hb1)
        (first
          | (go_at_call 39; (with_reducible refine (CU.out _).mono ?_); rintro e w1 ⟨rfl, hb1⟩)
          | (go_at_call 39; (with_reducible refine (CR.out _).mono ?_); rintro e w1 ⟨rfl, hb1⟩))
      all_goals
        have HE := Lib.hid (show RdS w s _ by assumption)
        have y4 := HE.out.2.2.2.2.2.2.1
        have y5 := HE.out.2.2.2.2.2.2.2
        rw [HV.out]
        rcases HOR.out with ho | ho
        · have hRR := HRR.out
          rw [if_pos ho] at hRR
          rw [ho] at y4
          have hv : V ++ (⟨#[111, 112, 101, 110, 32]⟩ : ByteArray) ++ Dg ++ (⟨#[10]⟩ : ByteArray) = R := by
            rw [← hRR]
            refine str_ext ?_
            rw [line2_eq]
            simp only [app_list, List.append_assoc]
            rfl
          have HVV := Lib.hid hv
          clear hRR hv
          go_wp2_with fail
          refine (CG.out _).mono ?_; rintro e w9 ⟨rfl, hb9⟩
          have HE9 := Lib.hid (HE.out.on hb9)
          clear hb9 y4 y5
          go_wp2
          rw [HVV.out]
          go_ret
          exact ⟨rfl, HE9.out.1⟩
        · have hRR := HRR.out
          rw [if_neg (by rw [ho]; simp)] at hRR
          rw [ho] at y4
          have hv : V = R := by
            rw [← hRR]
          subst hv
          clear hRR
          go_wp2
          go_ret
          exact ⟨rfl, HE.out.1⟩
end Go.Proofs.YtbdfglalohgahaaDoor
namespace Go.Proofs.YtbdfglalohgahaaDoor
open Go.RowKit
set_option linter.unusedVariables false
set_option linter.unusedSimpArgs false

def noK : KPc := ⟨none, [], 0⟩
def noS : SPc := ⟨none, [], 0⟩
def noE : EPc := ⟨none, [], 0⟩
theorem noK_in (w : World) : KPcs w noK := KPcs.empty w
theorem noS_in (w : World) : SPcs w noS := SPcs.empty w
theorem noE_in (w : World) : EPcs w noE := ⟨fun k hk => absurd hk (by simp [noE]), fun _ => rfl⟩
def st0 : Sta := ⟨⟨#[]⟩, noK, noS, noS, false, noE⟩
def st2 : Sta := ⟨⟨#[255]⟩, noK, noS, noS, false, noE⟩
def ed1 : Edt := ⟨0, ⟨#[]⟩, ⟨#[97]⟩⟩
def st1 (a b : Nat) : Sta := ⟨⟨#[97]⟩, noK, ⟨some ⟨b, 0, none⟩, [⟨some ⟨a, 0, none⟩, [ed1], 1⟩], 1⟩, noS, false, noE⟩
theorem bare_in (w : World) (t : ByteArray) : StaIn w ⟨t, noK, noS, noS, false, noE⟩ := ⟨noK_in w, noS_in w, noS_in w, noE_in w⟩
theorem decS_zero : decS ((0 : Nat) : Int) = ⟨#[48]⟩ := by
  unfold decS
  rw [Lib.itoa_nonneg, dec_short 0 (by decide)]
  rfl
theorem show_st0 : (⟨(showL st0).toArray⟩ : ByteArray) = ⟨#[116, 101, 120, 116, 32, 10, 117, 110, 100, 111, 32, 48, 10, 114, 101, 100, 111, 32, 48, 10]⟩ := by
  unfold showL showA
  rw [if_neg (by decide)]
  show (⟨(lineL [tText, ⟨#[]⟩] ++ marksL [] ++ lineL [tUndo, decS ((0 : Nat) : Int)] ++ lineL [tRedo, decS ((0 : Nat) : Int)]).toArray⟩ : ByteArray) = _
  rw [decS_zero]
  decide +kernel
theorem bare_z (t : ByteArray) (h : t.size ≤ 1000000000) : StaZ ⟨t, noK, noS, noS, false, noE⟩ :=
  ⟨h, by simp [noK], fun x hx => absurd hx (by simp [noK]), by simp [noS], by simp [noS], fun x hx => by
    have : x = noE := by simpa [Sta.rows, noS] using hx
    subst this
    exact ⟨by simp [noE], fun y hy => absurd hy (by simp [noE])⟩⟩
theorem st1_z (a b : Nat) : StaZ (st1 a b) :=
  ⟨by show (⟨#[97]⟩ : ByteArray).size ≤ _; decide, by simp [st1, noK], fun x hx => absurd hx (by simp [st1, noK]), by simp [st1], by simp [st1, noS], fun x hx => by
    have : x = ⟨some ⟨a, 0, none⟩, [ed1], 1⟩ ∨ x = noE := by simpa [Sta.rows, st1, noS] using hx
    rcases this with rfl | rfl
    · exact ⟨by simp, fun y hy => by obtain rfl := List.mem_singleton.1 hy; decide⟩
    · exact ⟨by simp [noE], fun y hy => absurd hy (by simp [noE])⟩⟩
theorem right_st1 (a b : Nat) : rightP (st1 a b) = true := by
  show (mayT ⟨#[97]⟩ && (rightM [] ⟨#[97]⟩ && (goes16 id ⟨#[97]⟩ [] && (if ([] : List Edt).length = 0 then (goes16 invL ⟨#[97]⟩ [[ed1]] && (flatE (st1 a b).rows).all okE5) else _)))) = true
  have e : flatE (st1 a b).rows = [ed1] := rfl
  rw [e, if_pos (show ([] : List Edt).length = 0 from rfl)]
  decide +kernel
theorem right_st2 : rightP st2 = false := by
  show (mayT ⟨#[255]⟩ && _) = false
  rw [show mayT ⟨#[255]⟩ = false by decide +kernel, Bool.false_and]
theorem st1_in (w : World) : StaIn ((w.alloc (.cells #[.int .i64 0, .string ⟨#[]⟩, .string ⟨#[97]⟩] 36)).alloc (.cells #[.slice (some ⟨w.heap.size, 0, none⟩) 1 1] 38)) (st1 w.heap.size (w.heap.size + 1)) := by
  have he : EPcs (w.alloc (.cells #[.int .i64 0, .string ⟨#[]⟩, .string ⟨#[97]⟩] 36)) ⟨some ⟨w.heap.size, 0, none⟩, [ed1], 1⟩ := ⟨fun k hk => by
      have : k = 0 := by have h : k < 1 := hk; omega
      subst this
      refine ⟨_, rfl, by show w.heap.size < _; simp, ?_, ?_, ?_⟩
      · show World.cell? _ (Addr.add ⟨w.heap.size, 0, none⟩ (0 * 3)) = _; simp [Addr.add, World.cell?_alloc_new, ed1]
      · show World.cell? _ ⟨(Addr.add ⟨w.heap.size, 0, none⟩ (0 * 3)).block, (Addr.add ⟨w.heap.size, 0, none⟩ (0 * 3)).off + 1, none⟩ = _; simp [Addr.add, World.cell?_alloc_new, ed1]
      · show World.cell? _ ⟨(Addr.add ⟨w.heap.size, 0, none⟩ (0 * 3)).block, (Addr.add ⟨w.heap.size, 0, none⟩ (0 * 3)).off + 2, none⟩ = _; simp [Addr.add, World.cell?_alloc_new, ed1], fun e => by cases e⟩
  have hs := one_stk he 38
  rw [World.size_alloc] at hs
  exact ⟨noK_in _, hs, noS_in _, noE_in _⟩

set_option maxRecDepth 100000 in
set_option maxHeartbeats 1600000 in
theorem lives25_any (w : World) (hp : Pw w.heap.size w) : Calls Tryd.prog 7 #[] w fun e w' => e = .returned (.bool true) ∧ Below w.heap.size w w' := by
  have c1 := stshow_any st0 w (bare_in w _) hp (by simp [st0, noK]) (fun x hx => absurd hx (by simp [st0, noK])) (by simp [st0, noS]) (by simp [st0, noS]) (by simp [st0, noE]) (by decide)
  rw [show_st0] at c1
  have c1 : Calls Tryd.prog 10 #[.agg #[.string ⟨#[]⟩, .slice none 0 0, .slice none 0 0, .slice none 0 0, .bool false, .slice none 0 0]] w fun e w' => e = .returned (.string ⟨#[116, 101, 120, 116, 32, 10, 117, 110, 100, 111, 32, 48, 10, 114, 101, 100, 111, 32, 48, 10]⟩) ∧ Below w.heap.size w w' := c1
  have c2 := fun W : World => stright_any (st1 W.heap.size (W.heap.size + 1)) _ (st1_in W) (st1_z _ _)
  have c2 : ∀ W : World, Calls Tryd.prog 8 #[.agg #[.string ⟨#[97]⟩, .slice none 0 0, .slice (some ⟨W.heap.size + 1, 0, none⟩) 1 1, .slice none 0 0, .bool false, .slice none 0 0]] ((W.alloc (.cells #[.int .i64 0, .string ⟨#[]⟩, .string ⟨#[97]⟩] 36)).alloc (.cells #[.slice (some ⟨W.heap.size, 0, none⟩) 1 1] 38)) (RetB true ((W.alloc (.cells #[.int .i64 0, .string ⟨#[]⟩, .string ⟨#[97]⟩] 36)).alloc (.cells #[.slice (some ⟨W.heap.size, 0, none⟩) 1 1] 38))) := fun W => by
    have h := c2 W
    rw [right_st1] at h
    exact h
  have c3 := fun W : World => stright_any st2 W (bare_in W _) (bare_z _ (by decide))
  rw [right_st2] at c3
  have c3 : ∀ W : World, Calls Tryd.prog 8 #[.agg #[.string ⟨#[255]⟩, .slice none 0 0, .slice none 0 0, .slice none 0 0, .bool false, .slice none 0 0]] W (RetB false W) := c3
  have C1 := Lib.hid c1; have C2 := Lib.hid c2; have C3 := Lib.hid c3
  clear c1 c2 c3 hp
  go_enter Tryd.func7, Tryd.ntmps7
  go_wp2_with fail
  refine C1.out.mono ?_; rintro e w1 ⟨rfl, hb1⟩
  have HB1 := Lib.hid hb1
  clear hb1
  go_wp2_with fail
  refine (C2.out w1).mono ?_; rintro e w2 ⟨rfl, hb2⟩
  have HB2 := Lib.hid (HB1.out.trans ((below_after2 hb2).mono HB1.out.size))
  clear hb2
  go_wp2_with fail
  refine (C3.out w2).mono ?_; rintro e w3 ⟨rfl, hb3⟩
  have HB3 := Lib.hid (HB2.out.trans (hb3.mono HB2.out.size))
  clear hb3
  go_wp2
  go_ret
  exact ⟨rfl, HB3.out⟩
end Go.Proofs.YtbdfglalohgahaaDoor
