/-
  Contracts of asMade, sound, Right: whatever a call makes is right.
-/
import Derived.Test.YtephlcdanokolaaKnotDev5
import Derived.Test.YtephlcdanokolaaKnotMap
import Derived.Carry
import Derived.Laws.StructEq
import Derived.ChangeKeysEq
namespace Go.Proofs.Ytephlcdanokolaa
open Go.RowKit
set_option linter.unusedVariables false
set_option linter.unusedSimpArgs false

theorem cnt_same (a b c : Int) (w : World) (d : Nat) : (Op.equalIn (d + 2) 50 (cntV a b c) (cntV a b c)).run Try.prog w = .ok true w := by
  have u3 := Try.underlying3
  have a3 := Try.isAgg3
  have z3 := Try.sizeOf3
  have hS : Try.prog.underlying 50 = some (.struct (Try.prog.fieldsOf 50)) := by kernel_rfl
  have hp : Try.prog.stoodInHeld 50 = false := by kernel_rfl
  rw [show d + 2 = (d + 1) + 1 from rfl, run_equalIn_agg w (d + 1) 50 _ _ hS hp]
  simp only [Program.fieldsOf, Try.underlying50]
  go_simp
theorem kn_same (lv a b c : Int) (f s : ByteArray) (w : World) : (binOp .eql 67 (knV lv a b c f s) (knV lv a b c f s)).run Try.prog w = .ok (.bool true) w := by
  have u3 := Try.underlying3
  have a3 := Try.isAgg3
  have z3 := Try.sizeOf3
  have u9 := Try.underlying9
  have a9 := Try.isAgg9
  have z9 := Try.sizeOf9
  have a33 := Try.isAgg50
  have z33 := Try.sizeOf50
  have hS : Try.prog.underlying 67 = some (.struct (Try.prog.fieldsOf 67)) := by kernel_rfl
  have hp : Try.prog.stoodInHeld 67 = false := by kernel_rfl
  have hc := fun w => cnt_same a b c w 9997
  rw [run_eql_struct, show (10000 : Nat) = 9999 + 1 from rfl, run_equalIn_agg w 9999 67 _ _ hS hp]
  simp only [Program.fieldsOf, Try.underlying67]
  go_simp
/-- A knot whose chunks are few enough. -/
structure Fine (w : World) (B : Nat → Prop) (h b : Nat) (L : List ByteArray) : Prop where
  k : KnotW w B h b L
  hh : h ≤ 900
  size : (wholeL L).size ≤ 1000000

set_option maxRecDepth 100000 in
set_option maxHeartbeats 800000 in
theorem asm_leaf {w : World} {b : Nat} {s : ByteArray} (hf : fitsP s) (hb : Blk w b (kcs 1 s s s (.slice none 0 0)) 89) :
    Calls Try.prog 70 #[pv b] w fun e w' => e = .returned (.bool true) ∧ Below w.heap.size w w' := by
  have cl := leaf_yes s (by have := hf.2.1; unfold maxLen; omega) ((fitsB_iff s).2 hf) w
  unfold kcs at cl hb
  obtain ⟨R, hR⟩ : ∃ R, runes s.data.toList = R := ⟨_, rfl⟩
  obtain ⟨Y, hY⟩ : ∃ Y, lines s.data.toList = Y := ⟨_, rfl⟩
  rw [hR, hY] at cl hb
  obtain ⟨c0, c1, c2, c3, c4, c5, c6⟩ := Blk.seven hb
  have hq := kn_same 1 s.size R Y s s
  have CL := Lib.hid cl; have HB := Lib.hid hb
  clear cl hb hf hR hY
  go_enter Try.func70, Try.ntmps70
  go_wp2_with fail
  refine CL.out.mono ?_; rintro e w1 ⟨a, rfl, ha, hB, hb1⟩
  obtain ⟨d0, d1, d2, d3, d4, d5, d6⟩ := Blk.seven (HB.out.onto hb1)
  obtain ⟨e0, e1, e2, e3, e4, e5, e6⟩ := Blk.seven hB
  have HB1 := Lib.hid hb1
  clear hB hb1 ha
  go_wp2
  go_quiet (fail)
  go_wp2
  go_ret
  exact ⟨rfl, drewN_below HB1.out _⟩
set_option maxRecDepth 100000 in
set_option maxHeartbeats 1600000 in
theorem asm_node {w : World} {B : Nat → Prop} {h b g c : Nat} {K : List Kid} (hn : KnotN w B h b K g c) (hB : ∀ i, B i → i < w.heap.size) (hh : h ≤ 900) (hz : (wholeL (flat K)).size ≤ 1000000) :
    Calls Try.prog 70 #[pv b] w fun e w' => e = .returned (.bool true) ∧ Below w.heap.size w w' := by
  have hall := flat_many (P := fitsP) (m := 1) fun k hk => ⟨(hn.kids k hk).chunks.1, (hn.kids k hk).many⟩
  have h2 := hn.two
  have hf1 : fitsP (fstL (flat K)) := by
    have hl : 0 < (flat K).length := by omega
    rw [fstL_get hl]
    exact hall.1 _ (List.getElem_mem hl)
  have cl := leaf_yes (fstL (flat K)) (by have := hf1.2.1; unfold maxLen; omega) ((fitsB_iff _).2 hf1) w
  have hp : JoinP w B g 0 K.length h K := ⟨rfl, hn.row, hn.kids, hB, hh, hz⟩
  have cj := fun W (hW : Below w.heap.size w W) => kjoin_yes (c := c) (hp.on hW) h2 hn.eight
  have hblk := hn.blk
  obtain ⟨n, hkn⟩ : ∃ n, K.length = n := ⟨_, rfl⟩
  rw [hkn] at cj hblk h2
  have HNK := Lib.hid hkn
  unfold kcs at hblk
  obtain ⟨S, hS⟩ : ∃ S, wholeL (flat K) = S := ⟨_, rfl⟩
  obtain ⟨F, hF⟩ : ∃ F, fstL (flat K) = F := ⟨_, rfl⟩
  obtain ⟨Z, hZ⟩ : ∃ Z, lstL (flat K) = Z := ⟨_, rfl⟩
  have HS := Lib.hid hS; have HF := Lib.hid hF; have HZ := Lib.hid hZ
  rw [hS, hF, hZ] at hblk
  rw [hF] at cl
  obtain ⟨R, hR⟩ : ∃ R, runes S.data.toList = R := ⟨_, rfl⟩
  obtain ⟨Y, hY⟩ : ∃ Y, lines S.data.toList = Y := ⟨_, rfl⟩
  have HR := Lib.hid hR; have HY := Lib.hid hY
  rw [hR, hY] at hblk
  obtain ⟨c0, c1, c2, c3, c4, c5, c6⟩ := Blk.seven hblk
  have hq := kn_same ((h : Int) + 2) S.size R Y F Z
  have CL := Lib.hid cl; have CJ := Lib.hid cj; have HBK := Lib.hid hblk
  have b1 : (0 : Int) < (n : Int) := by omega
  have b2 : 0 < n := by omega
  clear cl cj hblk hp hn hB hall hf1 hkn hS hF hZ hR hY h2 hz hh
  go_enter Try.func70, Try.ntmps70
  go_wp2_with fail
  refine CL.out.mono ?_; rintro e w1 ⟨a, rfl, ha, hB0, hb1⟩
  obtain ⟨-, -, -, -, -, -, d6⟩ := Blk.seven (HBK.out.onto hb1)
  have HB1 := Lib.hid hb1
  clear hB0 hb1 ha
  go_wp2_with fail
  refine (CJ.out _ HB1.out).mono ?_; rintro e w2 ⟨a2, g2, k2, rfl, ha2, hg2, hkn, hb2⟩
  have HB2 := Lib.hid (HB1.out.trans (hb2.mono HB1.out.size))
  have hblk2 := hkn.blk
  rw [HS.out, HF.out, HZ.out] at hblk2
  unfold kcs at hblk2
  rw [HR.out, HY.out] at hblk2
  obtain ⟨e0, e1, e2, e3, e4, e5, e6⟩ := Blk.seven hblk2
  obtain ⟨f0, f1, f2, f3, f4, f5, f6⟩ := Blk.seven (HBK.out.onto HB2.out)
  clear hblk2 hkn hb2 ha2 hg2 d6 c0 c1 c2 c3 c4 c5 c6
  go_wp2
  go_quiet (fail)
  go_wp2
  go_ret
  exact ⟨rfl, drewN_below HB2.out _⟩
theorem asm_any {w : World} {B : Nat → Prop} {h b : Nat} {L : List ByteArray} (k : KnotW w B h b L) (hB : ∀ i, B i → i < w.heap.size) (hh : h ≤ 900) (hz : (wholeL L).size ≤ 1000000) :
    Calls Try.prog 70 #[pv b] w fun e w' => e = .returned (.bool true) ∧ Below w.heap.size w w' := by
  cases h with
  | zero =>
    obtain ⟨_, s, rfl, hf, hb⟩ := k
    exact asm_leaf hf hb
  | succ h =>
    obtain ⟨K, g, c, hn, rfl, _⟩ := k.node
    exact asm_node hn hB (by omega) hz
/-- The knots under one are right: what was seen is told. -/
def RetSound (w : World) (N m : Nat) (e : Ending) (w' : World) : Prop := e = .returned (.bool true) ∧ (∃ ks, Seen w' N m ks) ∧ Apart [m] w w'
def SoundC (h : Nat) : Prop := ∀ (b : Nat) (L : List ByteArray) (w : World) (B : Nat → Prop) (N m : Nat) (ks : List Nat), KnotW w B h b L → (∀ i, B i → i < N) → Seen w N m ks → (wholeL L).size ≤ 1000000 →
  Calls Try.prog 48 #[pv b, .map (some m)] w (RetSound w N m)
theorem KnotW.apart {w w' : World} {B : Nat → Prop} {N m h b : Nat} {L : List ByteArray} (k : KnotW w B h b L) (hB : ∀ i, B i → i < N) (hN : N ≤ m) (hm : m < w.heap.size) (ha : Apart [m] w w') : KnotW w' B h b L :=
  k.keep ha.size fun i hi => ha.block i (by have := hB i hi; omega) (by have := hB i hi; simp; omega)

set_option maxRecDepth 100000 in
set_option maxHeartbeats 800000 in
theorem sound_seen {w : World} {b N m : Nat} {ks : List Nat} {cb : Array Value} {tb : TypeId} (hb : Blk w b cb tb) (hs : Seen w N m ks) (hm : b ∈ ks) :
    Calls Try.prog 48 #[pv b, .map (some m)] w (RetSound w N m) := by
  have hlook := hs.look hb
  rw [decide_eq_true hm] at hlook
  have HS := Lib.hid hs
  clear hs hb hm
  go_enter Try.func48, Try.ntmps48
  go_wp2
  go_ret
  exact ⟨rfl, ⟨_, HS.out.on ((Below.refl _ _).alloc (Nat.le_refl _) _)⟩, (Apart.refl _ _).alloc _⟩
set_option maxRecDepth 100000 in
set_option maxHeartbeats 800000 in
theorem sound_zero : SoundC 0 := by
  intro b L w B N m ks hk hB hs hz
  obtain ⟨kv, -, hblk⟩ := hk.cells
  by_cases hm : b ∈ ks
  · exact sound_seen hblk hs hm
  · have hlook := hs.look hblk
    rw [decide_eq_false hm] at hlook
    have hbel : Below w.heap.size w (w.alloc (.cells #[] 73)) := (Below.refl _ _).alloc (Nat.le_refl _) _
    obtain ⟨w1, hput, hs1, ha1⟩ := (hs.on hbel).put (hblk.onto hbel) (hB _ hk.lt) hm
    have hlt := hs.lt
    have hNm := hs.2.1
    have ha : Apart [m] w w1 := (Apart.of_below hbel).trans ha1 (by simp)
    have hk1 := hk.apart hB hNm hlt ha
    have kas := asm_any hk1 (fun i hi => by have := hB i hi; have := ha.size; omega) (by omega) hz
    obtain ⟨_, s, _, _, hb1⟩ := hk1
    have KAS := Lib.hid kas; have HS1 := Lib.hid hs1; have HA := Lib.hid ha; have HB1 := Lib.hid hb1
    clear hs hblk hm hbel hs1 ha1 hk ha kas hb1 hB hNm hz
    go_enter Try.func48, Try.ntmps48
    go_wp2_with fail
    refine KAS.out.mono ?_; rintro e w2 ⟨rfl, hb2⟩
    have c6 : w2.cell? ⟨b, 6, none⟩ = some (.slice none 0 0) := (HB1.out.onto hb2).cell 6 _ rfl
    have HB2 := Lib.hid hb2
    clear hb2
    go_wp2
    go_loopw [27] (fun i wr => i = .int .i64 0 ∧ wr = w2) (fun i _ => 0)
    case atStart => exact ⟨rfl, rfl⟩
    case round =>
      obtain ⟨rfl, rfl⟩ := hrel
      go_wp2
      go_ret
      exact ⟨rfl, ⟨_, HS1.out.on HB2.out⟩, HA.out.trans (S' := []) (.of_below HB2.out) (by simp)⟩
set_option maxRecDepth 100000 in
set_option maxHeartbeats 1600000 in
theorem sound_succ {h : Nat} (hh : h ≤ 899) (ih : SoundC h) : SoundC (h + 1) := by
  intro b L w B N m ks hk hB hs hz
  obtain ⟨kv, -, hblk⟩ := hk.cells
  by_cases hm : b ∈ ks
  · exact sound_seen hblk hs hm
  · have hlook := hs.look hblk
    rw [decide_eq_false hm] at hlook
    have hbel : Below w.heap.size w (w.alloc (.cells #[] 73)) := (Below.refl _ _).alloc (Nat.le_refl _) _
    obtain ⟨w1, hput, hs1, ha1⟩ := (hs.on hbel).put (hblk.onto hbel) (hB _ hk.lt) hm
    have hlt := hs.lt
    have hNm := hs.2.1
    have ha : Apart [m] w w1 := (Apart.of_below hbel).trans ha1 (by simp)
    have hk1 := hk.apart hB hNm hlt ha
    have kas := asm_any hk1 (fun i hi => by have := hB i hi; have := ha.size; omega) (by omega) hz
    obtain ⟨K, g, c, hn, rfl, hg⟩ := hk1.node
    obtain ⟨n, hkn⟩ : ∃ n, K.length = n := ⟨_, rfl⟩
    have hblk1 := hn.blk
    have h8 := hn.eight
    rw [hkn] at hblk1 h8
    have KAS := Lib.hid kas; have HS1 := Lib.hid hs1; have HA := Lib.hid ha; have HB1 := Lib.hid hblk1; have HN := Lib.hid hn; have HK := Lib.hid hkn; have HIH := Lib.hid ih
    have HBB := Lib.hid hB; have HZ := Lib.hid hz; have HNM := Lib.hid hNm; have HG := Lib.hid hg; have HLT := Lib.hid hlt
    clear hs hblk hm hbel hs1 ha1 hk ha kas hblk1 hB hNm hz hn hk1 hkn ih hg hlt
    go_enter Try.func48, Try.ntmps48
    go_wp2_with fail
    refine KAS.out.mono ?_; rintro e w2 ⟨rfl, hb2⟩
    have c6 : w2.cell? ⟨b, 6, none⟩ = some (.slice (some ⟨g, 0, none⟩) n c) := (HB1.out.onto hb2).cell 6 _ rfl
    have HB2 := Lib.hid hb2
    clear hb2
    go_wp2
    go_loopw [27] (fun i wr => ∃ k : Nat, k ≤ n ∧ i = .int .i64 k ∧ (∃ ks, Seen wr N m ks) ∧ Apart [m] w1 wr) (fun i _ => n - (intOf i).toNat)
    case atStart => exact ⟨0, Nat.zero_le _, rfl, ⟨_, HS1.out.on HB2.out⟩, .of_below HB2.out⟩
    case round =>
      obtain ⟨k, hk, rfl, ⟨ks2, hs2⟩, ha2⟩ := hrel
      by_cases hlt : k < n
      · have hkl : k < K.length := by rw [HK.out]; exact hlt
        have hm1 := HS1.out.lt
        have hgN := HBB.out g HG.out
        have q0 := (ha2.cell (p := ⟨g, 0 + k, none⟩) (by show g < _; have := HNM.out; omega) (by show g ∉ _; have := HNM.out; simp; omega)).trans (HN.out.row.2 k (by rw [ptrs_len]; exact hkl))
        rw [show (ptrs K)[k]'(by rw [ptrs_len]; exact hkl) = pv K[k].b by simp [ptrs], Nat.zero_add] at q0
        have hkid := (HN.out.kids K[k] (List.getElem_mem hkl)).apart HBB.out HNM.out hm1 ha2
        have hsz : (wholeL K[k].L).size ≤ 1000000 := by
          have e : flat K = flat (K.take k) ++ (K[k].L ++ flat (K.drop (k + 1))) := by
            rw [← flat_one, ← flat_app, ← flat_app, List.singleton_append, ← List.drop_eq_getElem_cons, List.take_append_drop]
          have := HZ.out
          rw [e, whole_app, whole_app, ByteArray.size_append, ByteArray.size_append] at this
          omega
        have hih := HIH.out K[k].b K[k].L wr B N m ks2 hkid HBB.out hs2 hsz
        obtain ⟨bk, hbk⟩ : ∃ bk, K[k].b = bk := ⟨_, rfl⟩
        rw [hbk] at q0 hih
        have HI := Lib.hid hih; have HA2 := Lib.hid ha2
        have HM1 := Lib.hid hm1
        clear hih ha2 hs2 hkid hsz hbk hkl hm1 hgN
        go_wp2_with fail
        refine HI.out.mono ?_; rintro e w3 ⟨rfl, hs3, ha3⟩
        have HS3 := Lib.hid hs3; have HA3 := Lib.hid (HA2.out.trans ha3 (by simp))
        clear hs3 ha3
        go_wp2
        go_roundw
        case rel => exact ⟨k + 1, by omega, by go_num, HS3.out, HA3.out⟩
        case measure => simp [intOf]; omega
      · have HS2 := Lib.hid hs2; have HA2 := Lib.hid ha2
        clear hs2 ha2
        go_wp2
        go_ret
        exact ⟨rfl, ⟨_, HS2.out⟩, HA.out.trans HA2.out (by simp)⟩
theorem sound_any (h : Nat) (hh : h ≤ 900) : SoundC h := by
  induction h with
  | zero => exact sound_zero
  | succ h ih => exact sound_succ (by omega) (ih (by omega))
set_option maxRecDepth 100000 in
set_option maxHeartbeats 800000 in
theorem right_any {h b : Nat} {L : List ByteArray} {w : World} (k : KnotH w h b L) (hh : h ≤ 900) (hz : (wholeL L).size ≤ 1000000) :
    Calls Try.prog 35 #[pv b] w fun e w' => e = .returned (.bool true) ∧ Below w.heap.size w w' := by
  have hbel : Below w.heap.size w (w.alloc (.map #[] 0)) := (Below.refl _ _).alloc (Nat.le_refl _) _
  have ks := sound_any h hh b L (w.alloc (.map #[] 0)) (· < w.heap.size) w.heap.size w.heap.size [] (k.below hbel fun i hi => hi) (fun i hi => hi) (Seen.made w) hz
  have KS := Lib.hid ks; have HB := Lib.hid hbel
  have hmk := run_makeMap (P := Try.prog) 72 w
  clear k ks hbel
  go_enter Try.func35, Try.ntmps35
  go_wp2_with fail
  refine KS.out.mono ?_; rintro e w1 ⟨rfl, -, ha⟩
  have HR := Lib.hid (HB.out.trans (ha.to_below (B := w.heap.size) (by simp) (by simp)))
  clear ha
  go_wp2
  go_ret
  exact ⟨rfl, HR.out⟩
set_option maxRecDepth 100000 in
theorem right_nil (w : World) : Calls Try.prog 35 #[.pointer none] w fun e w' => e = .returned (.bool true) ∧ Below w.heap.size w w' := by
  go_enter Try.func35, Try.ntmps35
  go_wp2
  go_ret
  exact ⟨rfl, Below.refl _ _⟩
end Go.Proofs.Ytephlcdanokolaa
