/-
  Joined: DiskRef9.
-/
import Derived.Test.YtfgecjlccngddaaGreatJDiskRefB
import Derived.Test.YtfgecjlccngddaaGreatJEnt
import Derived.BigRegion
import Derived.Deep.RegionLaw
import Derived.Deep.AppendLies
namespace Go.Proofs.YtfgecjlccngddaaGreat
set_option linter.unusedSimpArgs false
set_option linter.unusedVariables false
open Go.RowKit
set_option linter.unusedVariables false

/-- A slice that reads as these texts. -/
def Strs (w : World) (B : Nat → Prop) (a : Option Addr) (l : List ByteArray) : Prop :=
  ∀ (k : Nat) (h : k < l.length), ∃ ad, a = some ad ∧ B ad.block ∧ w.cell? (ad.add k) = some (.string l[k])
theorem Strs.keep {w w' : World} {B : Nat → Prop} {a : Option Addr} {l : List ByteArray} (h : Strs w B a l) (hk : ∀ p : Addr, B p.block → w'.cell? p = w.cell? p) : Strs w' B a l := fun k hl => by
  obtain ⟨ad, e, hb, q⟩ := h k hl
  exact ⟨ad, e, hb, (hk _ (by rw [add_block]; exact hb)).trans q⟩
theorem Strs.below {w w' : World} {B : Nat → Prop} {N : Nat} {a : Option Addr} {l : List ByteArray} (h : Strs w B a l) (hN : ∀ b, B b → b < N) (hb : Below N w w') : Strs w' B a l := h.keep fun _ hp => hb.cell (hN _ hp)
def strVs (l : List ByteArray) : List Value := l.map Value.string
theorem own_strs {w : World} {base : Nat} {t : TypeId} {v : Value} {l : List ByteArray} (h : w.ownsRow base t 1 v l.length (strVs l)) : ∃ a c, v = .slice a l.length c ∧ Strs w (fun b => base ≤ b ∧ b < w.heap.size) a l := by
  rcases h.2 with ⟨rfl, h0⟩ | ⟨g, cap, cur, rfl, hgb, hg, _⟩
  · exact ⟨none, 0, by rw [h0], fun k hk => absurd hk (by omega)⟩
  · exact ⟨_, _, rfl, fun k hk => ⟨_, rfl, ⟨hgb, (h.lt g rfl).2⟩, h.cells (g := g) rfl k _ (by unfold strVs; simp [hk])⟩⟩
def RetStrs (w : World) (l : List ByteArray) (e : Ending) (w' : World) : Prop := ∃ a c, e = .returned (.slice a l.length c) ∧ Strs w' (fun b => w.heap.size ≤ b ∧ b < w'.heap.size) a l ∧ Below w.heap.size w w'
theorem string_info : (Tryz.prog.info? 9).map (fun i => (i.zero, i.size, i.bytes)) = some (some (.string ByteArray.empty), 1, 16) := by kernel_rfl
theorem names_take (L : List Ent) (k : Nat) (h : k < L.length) : (L.take (k + 1)).map (·.name) = (L.take k).map (·.name) ++ [(L[k]).name] := by
  rw [take_get L k h, List.map_append]; rfl

set_option maxRecDepth 100000 in
set_option maxHeartbeats 1600000 in
theorem rdnames_any {M : Nat} {D : Dsk} (hD : D.ok M) (hM : M ≤ 199) (a : Option Addr) (n c : Nat) (aL : Option Addr) (cL : Nat) (P : Nat → Prop) (w : World) (hP : ∀ b, P b → b < w.heap.size) (hL : LLs w P aL D.L) :
    Calls Tryz.prog 59 #[dskV D.sec a n c aL D.L.length cL D.fu D.calls] w (RetStrs w D.names) := by
  obtain ⟨i0, hi, hz0, hz1, hz2⟩ := info_parts string_info
  have hb : Below w.heap.size w (w.alloc (.cells (dskC D.sec a n c aL D.L.length cL D.fu D.calls) 34)) := (Below.refl _ _).alloc (Nat.le_refl _) _
  have c1 := rnow9_any aL D.L cL P _ (hL.below hP hb) (fun b h => Nat.lt_of_lt_of_le (hP b h) hb.size) hD.2.2.1.1 (by have := hD.2.2.1.2.1; omega)
  have hlen : (nowL D.L).length ≤ 200 := Nat.le_trans (hD.2.2.1.2.2 _ (nowL_mem hD.2.2.1.1)) (Nat.le_succ_of_le hM)
  have hnm : D.names = (nowL D.L).map (·.name) := rfl
  rw [hnm]
  obtain ⟨l, hl⟩ : ∃ l, nowL D.L = l := ⟨_, rfl⟩
  rw [hl] at c1 hlen ⊢
  obtain ⟨N, hN⟩ : ∃ N, l.length = N := ⟨_, rfl⟩
  rw [hN] at hlen
  have HN := Lib.hid hN
  have C1 := Lib.hid c1; have HB := Lib.hid hb
  clear c1 hb hnm hl hN hL hD
  go_enter Tryz.func59, Tryz.ntmps59
  go_wp2_with fail
  refine C1.out.mono ?_
  rintro e w1 ⟨a1, k1, rfl, h1, hb1⟩
  have hb2 := HB.out.trans (hb1.mono HB.out.size)
  rw [HN.out]
  have H1 := Lib.hid h1; have HB2 := Lib.hid hb2
  clear h1 hb1 hb2
  go_wp2
  go_loopw [3, 5] (fun v i wr => ∃ k : Nat, k ≤ N ∧ i = .int .i64 k ∧ wr.ownsRow w.heap.size 9 1 v k (strVs ((l.take k).map (·.name))) ∧ Below w.heap.size w1 wr) (fun _ i _ => N - (intOf i).toNat)
  case atStart => exact ⟨0, Nat.zero_le _, rfl, World.ownsRow_nil _ _ _ _, Below.refl _ _⟩
  case round =>
    obtain ⟨k, hk, rfl, hown, hbel⟩ := hrel
    by_cases hlt : k < N
    · have hkl : k < l.length := by rw [HN.out]; exact hlt
      obtain ⟨ad, rfl, hab, q0, q1⟩ := (H1.out.below hP hbel) k hkl
      have hs := names_take l k hkl
      obtain ⟨x, hx⟩ : ∃ x, l[k]'hkl = x := ⟨_, rfl⟩
      rw [hx] at q0 q1 hs
      obtain ⟨nm, id⟩ := x
      simp only at q0 q1 hs
      have b0 : (0 : Int) ≤ (k : Int) := by omega
      have b1 : (k : Int) < (N : Int) := by omega
      have hsz : w.heap.size ≤ wr.heap.size := Nat.le_trans HB2.out.size hbel.size
      have HS := Lib.hid hs; have HBEL := Lib.hid hbel
      clear hx hs hbel
      go_wp2_with (at_builtin; refine wpList_append_own _ rfl _ _ 57 rfl w.heap.size 9 i0 _ 1 16 Tryz.underlying57 hi hz0 hz1 hz2 rfl (by decide) _ _ _ rfl (hown.alloc _) ⟨wr.heap.size, 0, none⟩ 1 1 [.string nm] rfl rfl (news_one _ _ _) (by intro u hu; simp at hu; subst hu; rfl) (by unfold maxLen; omega) (by omega) (Nat.le_trans hsz (by simp)) ?_; intro v' w2 hown' hgrow _)
      have hb3 : Below w.heap.size w1 w2 := (HBEL.out.alloc hsz _).grown hgrow (Nat.le_trans hsz (by simp)) (own_block hown)
      have ho3 : w2.ownsRow w.heap.size 9 1 v' (k + 1) (strVs ((l.take (k + 1)).map (·.name))) := by
        rw [HS.out]
        show w2.ownsRow _ _ _ _ _ (strVs (_ ++ [nm]))
        unfold strVs
        rw [List.map_append]
        exact hown'
      have HO3 := Lib.hid ho3; have HB3 := Lib.hid hb3
      clear hown' hgrow hown ho3 hb3
      go_wp2
      go_roundw
      case rel => exact ⟨k + 1, by omega, by go_num, HO3.out, HB3.out⟩
      case measure => simp [intOf]; omega
    · obtain rfl : k = N := by omega
      rw [List.take_of_length_le (by rw [HN.out]; exact Nat.le_refl _)] at hown
      have hlm : (l.map (·.name)).length = k := by rw [List.length_map, HN.out]
      rw [← hlm] at hown
      obtain ⟨ad, cp, rfl, hn⟩ := own_strs hown
      have HNN := Lib.hid hn; have HBEL := Lib.hid hbel; clear hn hown hlm hbel
      go_wp2
      go_ret
      exact ⟨ad, cp, rfl, HNN.out, HB2.out.trans HBEL.out⟩

def Dsk.fils (D : Dsk) : List Fil := (nowL D.L).map fun e => ⟨e.name, (D.t e.id).n⟩
theorem fils_take (D : Dsk) (L : List Ent) (k : Nat) (h : k < L.length) : (L.take (k + 1)).map (fun e => (⟨e.name, (D.t e.id).n⟩ : Fil)) = (L.take k).map (fun e => (⟨e.name, (D.t e.id).n⟩ : Fil)) ++ [⟨(L[k]).name, (D.t (L[k]).id).n⟩] := by
  rw [take_get L k h, List.map_append]; rfl
set_option maxRecDepth 100000 in
set_option maxHeartbeats 1600000 in
theorem rdfiles_any {M : Nat} {D : Dsk} (hD : D.ok M) (hM : M ≤ 199) (a : Option Addr) (c : Nat) (aL : Option Addr) (cL : Nat) (P : Nat → Prop) (w : World) (hP : ∀ b, P b → b < w.heap.size) (hT : Tps w P a D.tp) (hL : LLs w P aL D.L) :
    Calls Tryz.prog 61 #[dskV D.sec a D.tp.length c aL D.L.length cL D.fu D.calls] w fun e w' => ∃ a c, e = .returned (.slice a D.fils.length c) ∧ Fils w' (fun b => w.heap.size ≤ b ∧ b < w'.heap.size) a D.fils ∧ Below w.heap.size w w' := by
  obtain ⟨i0, hi, hz0, hz1, hz2⟩ := info_parts fil_info
  have hb : Below w.heap.size w (w.alloc (.cells (dskC D.sec a D.tp.length c aL D.L.length cL D.fu D.calls) 34)) := (Below.refl _ _).alloc (Nat.le_refl _) _
  have c1 := rnow9_any aL D.L cL P _ (hL.below hP hb) (fun b h => Nat.lt_of_lt_of_le (hP b h) hb.size) hD.2.2.1.1 (by have := hD.2.2.1.2.1; omega)
  have hlen : (nowL D.L).length ≤ 200 := Nat.le_trans (hD.2.2.1.2.2 _ (nowL_mem hD.2.2.1.1)) (Nat.le_succ_of_le hM)
  have hnT : D.tp.length ≤ 200 := Nat.le_trans hD.2.1 (Nat.le_succ_of_le hM)
  have hin := hD.2.2.2.2.1 _ (nowL_mem hD.2.2.1.1)
  have hnm : D.fils = (nowL D.L).map fun e => (⟨e.name, (D.t e.id).n⟩ : Fil) := rfl
  have hbl := Blk.new w (dskC D.sec a D.tp.length c aL D.L.length cL D.fu D.calls) 34
  rw [hnm]
  obtain ⟨l, hl⟩ : ∃ l, nowL D.L = l := ⟨_, rfl⟩
  rw [hl] at c1 hlen hin ⊢
  obtain ⟨N, hN⟩ : ∃ N, l.length = N := ⟨_, rfl⟩
  rw [hN] at hlen
  have HN := Lib.hid hN; have T := Lib.hid hT; have HIN := Lib.hid hin; have HBL := Lib.hid hbl
  have C1 := Lib.hid c1; have HB := Lib.hid hb
  clear c1 hb hnm hl hN hL hD hT hin hbl
  go_enter Tryz.func61, Tryz.ntmps61
  go_wp2_with fail
  refine C1.out.mono ?_
  rintro e w1 ⟨a1, k1, rfl, h1, hb1⟩
  have hb2 := HB.out.trans (hb1.mono HB.out.size)
  have hbl1 := (HBL.out.onto hb1).cell 1 _ rfl
  have hbl2 := (HBL.out.onto hb1).lt
  rw [HN.out]
  have H1 := Lib.hid h1; have HB2 := Lib.hid hb2; have HBX := Lib.hid hbl1
  clear h1 hb1 hb2 hbl1
  go_wp2
  go_loopw [3, 5] (fun v i wr => ∃ k : Nat, k ≤ N ∧ i = .int .i64 k ∧ wr.ownsRow w1.heap.size 52 2 v k (Fil.flat ((l.take k).map fun e => (⟨e.name, (D.t e.id).n⟩ : Fil))) ∧ Below w1.heap.size w1 wr) (fun _ i _ => N - (intOf i).toNat)
  case atStart => exact ⟨0, Nat.zero_le _, rfl, World.ownsRow_nil _ _ _ _, Below.refl _ _⟩
  case round =>
    obtain ⟨k, hk, rfl, hown, hbel⟩ := hrel
    by_cases hlt : k < N
    · have hkl : k < l.length := by rw [HN.out]; exact hlt
      have hP1 : ∀ b, P b → b < w1.heap.size := fun b hb => Nat.lt_of_lt_of_le (hP b hb) HB2.out.size
      obtain ⟨adE, rfl, hab, q0, q1⟩ := (H1.out.below hP1 hbel) k hkl
      have hs := fils_take D l k hkl
      obtain ⟨i1, i2⟩ := HIN.out _ (List.getElem_mem hkl)
      obtain ⟨x, hx⟩ : ∃ x, l[k]'hkl = x := ⟨_, rfl⟩
      rw [hx] at q0 q1 hs i1 i2
      obtain ⟨nm, id⟩ := x
      simp only at q0 q1 hs i1 i2
      obtain ⟨ad, m, rfl, rfl, hm, hadb, z0, z1⟩ := ((T.out.below hP HB2.out).below hP1 hbel).get id i1 i2
      have htd : D.tp.getD ((m : Int) + 1 - 1).toNat Tp.none = D.t ((m : Int) + 1) := rfl
      rw [htd] at z0 z1
      obtain ⟨ti, hti⟩ : ∃ t, D.t ((m : Int) + 1) = t := ⟨_, rfl⟩
      rw [hti] at z0 z1 hs
      obtain ⟨tk, tn⟩ := ti
      simp only at z0 z1 hs
      have bx := (hbel.cell (p := ⟨w.heap.size, 1, none⟩) hbl2).trans HBX.out
      obtain ⟨nt, hnt⟩ : ∃ nt, D.tp.length = nt := ⟨_, rfl⟩
      rw [hnt] at bx hm hnT
      have b0 : (0 : Int) ≤ (k : Int) := by omega
      have b1 : (k : Int) < (N : Int) := by omega
      have d0 : (0 : Int) ≤ (m : Int) := by omega
      have d1 : (m : Int) < (nt : Int) := by omega
      have y1 : IntKind.i64.wrap ((m : Int) + 1 - 1) = (m : Int) := by rw [show (m : Int) + 1 - 1 = (m : Int) by omega]; exact IntWalk.i64_in _ (by omega)
      have y2 : IntKind.i64.wrap (m : Int) = (m : Int) := IntWalk.i64_in _ (by omega)
      have hsz : w1.heap.size ≤ wr.heap.size := hbel.size
      have HS := Lib.hid hs; have HBEL := Lib.hid hbel; have HO := Lib.hid hown
      clear hx hs hbel htd hti hown hP1 hadb hab hnt
      have ho2 : ((wr.alloc (.cells #[.string nm, .string tn] 52)).drew).ownsRow w1.heap.size 52 2 u3 k (Fil.flat ((l.take k).map fun e => (⟨e.name, (D.t e.id).n⟩ : Fil))) := HO.out.alloc _
      have hnw : ∀ j u, ([.string nm, .string tn] : List Value)[j]? = some u → ((wr.alloc (.cells #[.string nm, .string tn] 52)).drew).cell? ((⟨wr.heap.size, 0, none⟩ : Addr).add j) = some u := news_fil wr nm tn _
      have HO2 := Lib.hid ho2; have NW := Lib.hid hnw
      clear ho2 hnw
      go_wp2
      go_region_law (refine step_append_lies _ rfl (.tmp 15) (.tmp 33) 50 rfl w1.heap.size 52 i0 _ 2 32 Tryz.underlying50 hi hz0 hz1 hz2 rfl (by decide) u3 k _ (by simp [Act.eval]) HO2.out ⟨wr.heap.size, 0, none⟩ 1 1 [.string nm, .string tn] (by simp [Act.eval]) rfl NW.out (one_fil _ _) (by omega) (by unfold maxLen; omega) (by omega) (Nat.le_trans hsz (by simp)) _ rfl ?_; intro g cap w2 hown' hgrow _ _)
      all_goals
        have hb3 : Below w1.heap.size w1 w2 := ((HBEL.out.alloc hsz _).drew).grown hgrow (Nat.le_trans hsz (by simp)) (own_block HO.out)
        have ho3 : w2.ownsRow w1.heap.size 52 2 (.slice (some ⟨g, 0, none⟩) (k + 1) cap) (k + 1) (Fil.flat ((l.take (k + 1)).map fun e => (⟨e.name, (D.t e.id).n⟩ : Fil))) := by
          rw [HS.out, Fil.flat_app]
          exact hown'
        have HO3 := Lib.hid ho3; have HB3 := Lib.hid hb3
        clear hown' hgrow ho3 hb3
        go_simp
        go_wp2
        go_roundw
        case rel => exact ⟨k + 1, by omega, by go_num, HO3.out, HB3.out⟩
        case measure => simp [intOf]; omega
    · obtain rfl : k = N := by omega
      rw [List.take_of_length_le (by rw [HN.out]; exact Nat.le_refl _)] at hown
      have hlm : (l.map fun e => (⟨e.name, (D.t e.id).n⟩ : Fil)).length = k := by rw [List.length_map, HN.out]
      rw [← hlm] at hown
      obtain ⟨ad, cp, rfl, hn⟩ := own_fils hown
      have HNN := Lib.hid (hn.more (B' := fun b => w.heap.size ≤ b ∧ b < _) (fun b hb => ⟨Nat.le_trans HB2.out.size hb.1, hb.2⟩)); have HBEL := Lib.hid hbel; clear hn hown hlm hbel
      go_wp2
      go_ret
      exact ⟨ad, cp, rfl, HNN.out, HB2.out.trans (HBEL.out.mono HB2.out.size)⟩
end Go.Proofs.YtfgecjlccngddaaGreat
