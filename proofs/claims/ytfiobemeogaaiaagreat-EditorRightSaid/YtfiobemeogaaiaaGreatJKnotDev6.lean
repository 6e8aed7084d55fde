/-
  Joined: KnotDev6, WeldLay.
-/
import Derived.Test.YtfiobemeogaaiaaGreatJKnotDev4
import Derived.Test.YtfiobemeogaaiaaGreatJKnotMap
import Derived.Carry
import Derived.Laws.StructEq
import Derived.ChangeKeysEq
import Derived.Test.YtfiobemeogaaiaaGreatSq
import Derived.Test.YtfiobemeogaaiaaGreatJKnotMath
import Derived.Deep.RegionHeld3
import Derived.Deep.AppendLies
namespace Go.Proofs.YtfiobemeogaaiaaGreat
open Lib (hid)
open Go.RowKit
set_option linter.unusedVariables false
set_option linter.unusedSimpArgs false
theorem cnt_same (a b c : Int) (w : World) (d : Nat) : (Op.equalIn (d + 2) 94 (cntV a b c) (cntV a b c)).run Tryz.prog w = .ok true w := by
  have u3 := Tryz.underlying3
  have a3 := Tryz.isAgg3
  have z3 := Tryz.sizeOf3
  have hS : Tryz.prog.underlying 94 = some (.struct (Tryz.prog.fieldsOf 94)) := by kernel_rfl
  have hp : Tryz.prog.stoodInHeld 94 = false := by kernel_rfl
  rw [show d + 2 = (d + 1) + 1 from rfl, run_equalIn_agg w (d + 1) 94 _ _ hS hp]
  simp only [Program.fieldsOf, Tryz.underlying94]
  go_simp
theorem kn_same (lv a b c : Int) (f s : ByteArray) (w : World) : (binOp .eql 139 (knV lv a b c f s) (knV lv a b c f s)).run Tryz.prog w = .ok (.bool true) w := by
  have u3 := Tryz.underlying3
  have a3 := Tryz.isAgg3
  have z3 := Tryz.sizeOf3
  have u9 := Tryz.underlying9
  have a9 := Tryz.isAgg9
  have z9 := Tryz.sizeOf9
  have a33 := Tryz.isAgg94
  have z33 := Tryz.sizeOf94
  have hS : Tryz.prog.underlying 139 = some (.struct (Tryz.prog.fieldsOf 139)) := by kernel_rfl
  have hp : Tryz.prog.stoodInHeld 139 = false := by kernel_rfl
  have hc := fun w => cnt_same a b c w 9997
  rw [run_eql_struct, show (10000 : Nat) = 9999 + 1 from rfl, run_equalIn_agg w 9999 139 _ _ hS hp]
  simp only [Program.fieldsOf, Tryz.underlying139]
  go_simp
set_option maxRecDepth 100000 in
set_option maxHeartbeats 800000 in
theorem asm_leaf {w : World} {b : Nat} {s : ByteArray} (hf : fitsP s) (hb : Blk w b (kcs 1 s s s (.slice none 0 0)) 141) :
    Calls Tryz.prog 116 #[pv b] w fun e w' => e = .returned (.bool true) ∧ Below w.heap.size w w' := by
  have cl := leaf_yes s (by have := hf.2.1; unfold maxLen; omega) ((fitsB_iff s).2 hf) w
  unfold kcs at cl hb
  obtain ⟨R, hR⟩ : ∃ R, runes s.data.toList = R := ⟨_, rfl⟩
  obtain ⟨Y, hY⟩ : ∃ Y, lines s.data.toList = Y := ⟨_, rfl⟩
  rw [hR, hY] at cl hb
  obtain ⟨c0, c1, c2, c3, c4, c5, c6⟩ := Blk.seven hb
  have hq := kn_same 1 s.size R Y s s
  have CL := hid cl; have HB := hid hb
  clear cl hb hf hR hY
  go_enter Tryz.func116, Tryz.ntmps116
  go_wp2_with fail
  refine CL.out.mono ?_; rintro e w1 ⟨a, rfl, ha, hB, hb1⟩
  obtain ⟨d0, d1, d2, d3, d4, d5, d6⟩ := Blk.seven (HB.out.onto hb1)
  obtain ⟨e0, e1, e2, e3, e4, e5, e6⟩ := Blk.seven hB
  have HB1 := hid hb1
  clear hB hb1 ha
  go_wp2
  go_quiet (fail)
  go_wp2
  go_ret
  exact ⟨rfl, drewN_below HB1.out _⟩
set_option maxRecDepth 100000 in
set_option maxHeartbeats 1600000 in
theorem asm_node {w : World} {B : Nat → Prop} {h b g c : Nat} {K : List Kid} (hn : KnotN w B h b K g c) (hB : ∀ i, B i → i < w.heap.size) (hh : h ≤ 900) (hz : (wholeL (flat K)).size ≤ 1000000) :
    Calls Tryz.prog 116 #[pv b] w fun e w' => e = .returned (.bool true) ∧ Below w.heap.size w w' := by
  have hall := flat_many (P := fitsP) (m := 1) fun k hk => ⟨(hn.kids k hk).chunks.1, (hn.kids k hk).many⟩
  have h2 := hn.two
  have hf1 : fitsP (fstL (flat K)) := by
    have hl : 0 < (flat K).length := by omega
    rw [fstL_get hl]
    exact hall.1 _ (List.getElem_mem hl)
  have cl := leaf_yes (fstL (flat K)) (by have := hf1.2.1; unfold maxLen; omega) ((fitsB_iff _).2 hf1) w
  have hp : JoinP w B g 0 K.length h K := ⟨rfl, hn.row, hn.kids, hB, hh, hz⟩
  have cj := fun W (hW : Below w.heap.size w W) => kjoin_yes (c := c) (hp.on hW) h2 hn.eight
  have hblk := hn.blk
  obtain ⟨n, hkn⟩ : ∃ n, K.length = n := ⟨_, rfl⟩
  rw [hkn] at cj hblk h2
  have HNK := hid hkn
  unfold kcs at hblk
  obtain ⟨S, hS⟩ : ∃ S, wholeL (flat K) = S := ⟨_, rfl⟩
  obtain ⟨F, hF⟩ : ∃ F, fstL (flat K) = F := ⟨_, rfl⟩
  obtain ⟨Z, hZ⟩ : ∃ Z, lstL (flat K) = Z := ⟨_, rfl⟩
  have HS := hid hS; have HF := hid hF; have HZ := hid hZ
  rw [hS, hF, hZ] at hblk
  rw [hF] at cl
  obtain ⟨R, hR⟩ : ∃ R, runes S.data.toList = R := ⟨_, rfl⟩
  obtain ⟨Y, hY⟩ : ∃ Y, lines S.data.toList = Y := ⟨_, rfl⟩
  have HR := hid hR; have HY := hid hY
  rw [hR, hY] at hblk
  obtain ⟨c0, c1, c2, c3, c4, c5, c6⟩ := Blk.seven hblk
  have hq := kn_same ((h : Int) + 2) S.size R Y F Z
  have CL := hid cl; have CJ := hid cj; have HBK := hid hblk
  have b1 : (0 : Int) < (n : Int) := by omega
  have b2 : 0 < n := by omega
  clear cl cj hblk hp hn hB hall hf1 hkn hS hF hZ hR hY h2 hz hh
  go_enter Tryz.func116, Tryz.ntmps116
  go_wp2_with fail
  refine CL.out.mono ?_; rintro e w1 ⟨a, rfl, ha, hB0, hb1⟩
  obtain ⟨-, -, -, -, -, -, d6⟩ := Blk.seven (HBK.out.onto hb1)
  have HB1 := hid hb1
  clear hB0 hb1 ha
  go_wp2_with fail
  refine (CJ.out _ HB1.out).mono ?_; rintro e w2 ⟨a2, g2, k2, rfl, ha2, hg2, hkn, hb2⟩
  have HB2 := hid (HB1.out.trans (hb2.mono HB1.out.size))
  have hblk2 := hkn.blk
  rw [HS.out, HF.out, HZ.out] at hblk2
  unfold kcs at hblk2
  rw [HR.out, HY.out] at hblk2
  obtain ⟨e0, e1, e2, e3, e4, e5, e6⟩ := Blk.seven hblk2
  obtain ⟨f0, f1, f2, f3, f4, f5, f6⟩ := Blk.seven (HBK.out.onto HB2.out)
  clear hblk2 hkn hb2 ha2 hg2 d6 c0 c1 c2 c3 c4 c5 c6
  go_wp2
  go_quiet (fail)
  go_wp2
  go_ret
  exact ⟨rfl, drewN_below HB2.out _⟩
theorem asm_any {w : World} {B : Nat → Prop} {h b : Nat} {L : List ByteArray} (k : KnotW w B h b L) (hB : ∀ i, B i → i < w.heap.size) (hh : h ≤ 900) (hz : (wholeL L).size ≤ 1000000) :
    Calls Tryz.prog 116 #[pv b] w fun e w' => e = .returned (.bool true) ∧ Below w.heap.size w w' := by
  cases h with
  | zero =>
    obtain ⟨_, s, rfl, hf, hb⟩ := k
    exact asm_leaf hf hb
  | succ h =>
    obtain ⟨K, g, c, hn, rfl, _⟩ := k.node
    exact asm_node hn hB (by omega) hz
def RetSound (w : World) (N m : Nat) (e : Ending) (w' : World) : Prop := e = .returned (.bool true) ∧ (∃ ks, Seen w' N m ks) ∧ Apart [m] w w'
def SoundC (h : Nat) : Prop := ∀ (b : Nat) (L : List ByteArray) (w : World) (B : Nat → Prop) (N m : Nat) (ks : List Nat), KnotW w B h b L → (∀ i, B i → i < N) → Seen w N m ks → (wholeL L).size ≤ 1000000 →
  Calls Tryz.prog 76 #[pv b, .map (some m)] w (RetSound w N m)
theorem KnotW.apart {w w' : World} {B : Nat → Prop} {N m h b : Nat} {L : List ByteArray} (k : KnotW w B h b L) (hB : ∀ i, B i → i < N) (hN : N ≤ m) (hm : m < w.heap.size) (ha : Apart [m] w w') : KnotW w' B h b L :=
  k.keep ha.size fun i hi => ha.block i (by have := hB i hi; omega) (by have := hB i hi; simp; omega)
set_option maxRecDepth 100000 in
set_option maxHeartbeats 800000 in
theorem sound_seen {w : World} {b N m : Nat} {ks : List Nat} {cb : Array Value} {tb : TypeId} (hb : Blk w b cb tb) (hs : Seen w N m ks) (hm : b ∈ ks) :
    Calls Tryz.prog 76 #[pv b, .map (some m)] w (RetSound w N m) := by
  have hlook := hs.look hb
  rw [decide_eq_true hm] at hlook
  have HS := hid hs
  clear hs hb hm
  go_enter Tryz.func76, Tryz.ntmps76
  go_wp2
  go_ret
  exact ⟨rfl, ⟨_, HS.out.on ((Below.refl _ _).alloc (Nat.le_refl _) _)⟩, (Apart.refl _ _).alloc _⟩
set_option maxRecDepth 100000 in
set_option maxHeartbeats 800000 in
theorem sound_zero : SoundC 0 := by
  intro b L w B N m ks hk hB hs hz
  obtain ⟨kv, -, hblk⟩ := hk.cells
  by_cases hm : b ∈ ks
  · exact sound_seen hblk hs hm
  · have hlook := hs.look hblk
    rw [decide_eq_false hm] at hlook
    have hbel : Below w.heap.size w (w.alloc (.cells #[] 108)) := (Below.refl _ _).alloc (Nat.le_refl _) _
    obtain ⟨w1, hput, hs1, ha1⟩ := (hs.on hbel).put (hblk.onto hbel) (hB _ hk.lt) hm
    have hlt := hs.lt
    have hNm := hs.2.1
    have ha : Apart [m] w w1 := (Apart.of_below hbel).trans ha1 (by simp)
    have hk1 := hk.apart hB hNm hlt ha
    have kas := asm_any hk1 (fun i hi => by have := hB i hi; have := ha.size; omega) (by omega) hz
    obtain ⟨_, s, _, _, hb1⟩ := hk1
    have KAS := hid kas; have HS1 := hid hs1; have HA := hid ha; have HB1 := hid hb1
    clear hs hblk hm hbel hs1 ha1 hk ha kas hb1 hB hNm hz
    go_enter Tryz.func76, Tryz.ntmps76
    go_wp2_with fail
    refine KAS.out.mono ?_; rintro e w2 ⟨rfl, hb2⟩
    have c6 : w2.cell? ⟨b, 6, none⟩ = some (.slice none 0 0) := (HB1.out.onto hb2).cell 6 _ rfl
    have HB2 := hid hb2
    clear hb2
    go_wp2
    go_loopw [27] (fun i wr => i = .int .i64 0 ∧ wr = w2) (fun i _ => 0)
    case atStart => exact ⟨rfl, rfl⟩
    case round =>
      obtain ⟨rfl, rfl⟩ := hrel
      go_wp2
      go_ret
      exact ⟨rfl, ⟨_, HS1.out.on HB2.out⟩, HA.out.trans (S' := []) (.of_below HB2.out) (by simp)⟩
set_option maxRecDepth 100000 in
set_option maxHeartbeats 1600000 in
theorem sound_succ {h : Nat} (hh : h ≤ 899) (ih : SoundC h) : SoundC (h + 1) := by
  intro b L w B N m ks hk hB hs hz
  obtain ⟨kv, -, hblk⟩ := hk.cells
  by_cases hm : b ∈ ks
  · exact sound_seen hblk hs hm
  · have hlook := hs.look hblk
    rw [decide_eq_false hm] at hlook
    have hbel : Below w.heap.size w (w.alloc (.cells #[] 108)) := (Below.refl _ _).alloc (Nat.le_refl _) _
    obtain ⟨w1, hput, hs1, ha1⟩ := (hs.on hbel).put (hblk.onto hbel) (hB _ hk.lt) hm
    have hlt := hs.lt
    have hNm := hs.2.1
    have ha : Apart [m] w w1 := (Apart.of_below hbel).trans ha1 (by simp)
    have hk1 := hk.apart hB hNm hlt ha
    have kas := asm_any hk1 (fun i hi => by have := hB i hi; have := ha.size; omega) (by omega) hz
    obtain ⟨K, g, c, hn, rfl, hg⟩ := hk1.node
    obtain ⟨n, hkn⟩ : ∃ n, K.length = n := ⟨_, rfl⟩
    have hblk1 := hn.blk
    have h8 := hn.eight
    rw [hkn] at hblk1 h8
    have KAS := hid kas; have HS1 := hid hs1; have HA := hid ha; have HB1 := hid hblk1; have HN := hid hn; have HK := hid hkn; have HIH := hid ih
    have HBB := hid hB; have HZ := hid hz; have HNM := hid hNm; have HG := hid hg; have HLT := hid hlt
    clear hs hblk hm hbel hs1 ha1 hk ha kas hblk1 hB hNm hz hn hk1 hkn ih hg hlt
    go_enter Tryz.func76, Tryz.ntmps76
    go_wp2_with fail
    refine KAS.out.mono ?_; rintro e w2 ⟨rfl, hb2⟩
    have c6 : w2.cell? ⟨b, 6, none⟩ = some (.slice (some ⟨g, 0, none⟩) n c) := (HB1.out.onto hb2).cell 6 _ rfl
    have HB2 := hid hb2
    clear hb2
    go_wp2
    go_loopw [27] (fun i wr => ∃ k : Nat, k ≤ n ∧ i = .int .i64 k ∧ (∃ ks, Seen wr N m ks) ∧ Apart [m] w1 wr) (fun i _ => n - (intOf i).toNat)
    case atStart => exact ⟨0, Nat.zero_le _, rfl, ⟨_, HS1.out.on HB2.out⟩, .of_below HB2.out⟩
    case round =>
      obtain ⟨k, hk, rfl, ⟨ks2, hs2⟩, ha2⟩ := hrel
      by_cases hlt : k < n
      · have hkl : k < K.length := by rw [HK.out]; exact hlt
        have hm1 := HS1.out.lt
        have hgN := HBB.out g HG.out
        have q0 := (ha2.cell (p := ⟨g, 0 + k, none⟩) (by show g < _; have := HNM.out; omega) (by show g ∉ _; have := HNM.out; simp; omega)).trans (HN.out.row.2 k (by rw [ptrs_len]; exact hkl))
        rw [show (ptrs K)[k]'(by rw [ptrs_len]; exact hkl) = pv K[k].b by simp [ptrs], Nat.zero_add] at q0
        have hkid := (HN.out.kids K[k] (List.getElem_mem hkl)).apart HBB.out HNM.out hm1 ha2
        have hsz : (wholeL K[k].L).size ≤ 1000000 := by
          have e : flat K = flat (K.take k) ++ (K[k].L ++ flat (K.drop (k + 1))) := by
            rw [← flat_one, ← flat_app, ← flat_app, List.singleton_append, ← List.drop_eq_getElem_cons, List.take_append_drop]
          have := HZ.out
          rw [e, whole_app, whole_app, ByteArray.size_append, ByteArray.size_append] at this
          omega
        have hih := HIH.out K[k].b K[k].L wr B N m ks2 hkid HBB.out hs2 hsz
        obtain ⟨bk, hbk⟩ : ∃ bk, K[k].b = bk := ⟨_, rfl⟩
        rw [hbk] at q0 hih
        have HI := hid hih; have HA2 := hid ha2
        have HM1 := hid hm1
        clear hih ha2 hs2 hkid hsz hbk hkl hm1 hgN
        go_wp2_with fail
        refine HI.out.mono ?_; rintro e w3 ⟨rfl, hs3, ha3⟩
        have HS3 := hid hs3; have HA3 := hid (HA2.out.trans ha3 (by simp))
        clear hs3 ha3
        go_wp2
        go_roundw
        case rel => exact ⟨k + 1, by omega, by go_num, HS3.out, HA3.out⟩
        case measure => simp [intOf]; omega
      · have HS2 := hid hs2; have HA2 := hid ha2
        clear hs2 ha2
        go_wp2
        go_ret
        exact ⟨rfl, ⟨_, HS2.out⟩, HA.out.trans HA2.out (by simp)⟩
theorem sound_any (h : Nat) (hh : h ≤ 900) : SoundC h := by
  induction h with
  | zero => exact sound_zero
  | succ h ih => exact sound_succ (by omega) (ih (by omega))
set_option maxRecDepth 100000 in
set_option maxHeartbeats 800000 in
theorem right_any {h b : Nat} {L : List ByteArray} {w : World} (k : KnotH w h b L) (hh : h ≤ 900) (hz : (wholeL L).size ≤ 1000000) :
    Calls Tryz.prog 40 #[pv b] w fun e w' => e = .returned (.bool true) ∧ Below w.heap.size w w' := by
  have hbel : Below w.heap.size w (w.alloc (.map #[] 0)) := (Below.refl _ _).alloc (Nat.le_refl _) _
  have ks := sound_any h hh b L (w.alloc (.map #[] 0)) (· < w.heap.size) w.heap.size w.heap.size [] (k.below hbel fun i hi => hi) (fun i hi => hi) (Seen.made w) hz
  have KS := hid ks; have HB := hid hbel
  have hmk := run_makeMap (P := Tryz.prog) 107 w
  clear k ks hbel
  go_enter Tryz.func40, Tryz.ntmps40
  go_wp2_with fail
  refine KS.out.mono ?_; rintro e w1 ⟨rfl, -, ha⟩
  have HR := hid (HB.out.trans (ha.to_below (B := w.heap.size) (by simp) (by simp)))
  clear ha
  go_wp2
  go_ret
  exact ⟨rfl, HR.out⟩
set_option maxRecDepth 100000 in
theorem right_nil (w : World) : Calls Tryz.prog 40 #[.pointer none] w fun e w' => e = .returned (.bool true) ∧ Below w.heap.size w w' := by
  go_enter Tryz.func40, Tryz.ntmps40
  go_wp2
  go_ret
  exact ⟨rfl, Below.refl _ _⟩
end Go.Proofs.YtfiobemeogaaiaaGreat
namespace Go.Proofs.YtfiobemeogaaiaaGreat
open Lib (hid)
open Go.RowKit
set_option linter.unusedVariables false
set_option linter.unusedSimpArgs false
def Off (S : List Nat) (w : World) (i : Nat) : Prop := i < w.heap.size ∧ i ∉ S
def InS (S : List Nat) (w : World) : Prop := ∀ m ∈ S, m < w.heap.size
theorem InS.on {S : List Nat} {w w' : World} (h : InS S w) (hs : w.heap.size ≤ w'.heap.size) : InS S w' := fun m hm => Nat.lt_of_lt_of_le (h m hm) hs
theorem Off.on {S : List Nat} {w w' : World} {i : Nat} (h : Off S w i) (hs : w.heap.size ≤ w'.heap.size) : Off S w' i := ⟨Nat.lt_of_lt_of_le h.1 hs, h.2⟩
theorem off_new {S : List Nat} {w w' : World} {i : Nat} (hS : InS S w) (h1 : w.heap.size ≤ i) (h2 : i < w'.heap.size) : Off S w' i := ⟨h2, fun g => by have := hS i g; omega⟩
theorem KnotW.later {S : List Nat} {w w' : World} {h b : Nat} {L : List ByteArray} (k : KnotW w (Off S w) h b L) (hb : Below w.heap.size w w') : KnotW w' (Off S w') h b L :=
  (k.below hb fun _ h => h.1).weak fun i hi => hi.on hb.size
theorem KnotW.apartS {S : List Nat} {w w' : World} {h b : Nat} {L : List ByteArray} (k : KnotW w (Off S w) h b L) (ha : Apart S w w') : KnotW w' (Off S w') h b L :=
  (k.keep ha.size fun i hi => ha.block i hi.1 hi.2).weak fun i hi => hi.on ha.size
theorem KnotN.made {S : List Nat} {w w' : World} {h b g c : Nat} {K : List Kid} (n : KnotN w' (Off S w) h b K g c) (hS : InS S w) (hb : w.heap.size ≤ b) (hg : w.heap.size ≤ g) (hs : w.heap.size ≤ w'.heap.size) : KnotW w' (Off S w') (h + 1) b (flat K) :=
  n.knot (fun i hi => hi.on hs) (off_new hS hb n.blk.lt) (off_new hS hg n.row.1)
def RetOwn (w : World) (K : List Kid) (e : Ending) (w' : World) : Prop := ∃ v, e = .returned v ∧ w'.ownsRow w.heap.size 71 1 v K.length (ptrs K) ∧ Below w.heap.size w w'
theorem kclone_own {g o n c : Nat} {l : List Value} {w : World} (hl : l.length = n) (hn : n ≤ 1000000) (hr : PRow w g o l) (h1 : ∀ u ∈ l, u.oneCell' = true) :
    Calls Tryz.prog 117 #[.slice (some ⟨g, o, none⟩) n c] w fun e w' => ∃ v', e = .returned v' ∧ w'.ownsRow w.heap.size 71 1 v' n l ∧ Below w.heap.size w w' := by
  obtain ⟨i0, hi, hz0, hz1, hz2⟩ := info_parts ptr_info16
  refine (AnyE.slices_Clone Tryz.knClone i0 (.pointer none) 1 8 hi hz0 hz1 hz2 rfl (by decide) (fun w => by exact Tryz.sizeOf71 w) g o n c l w (by omega) (by unfold maxLen; omega) (by omega) (fun j u hj => ?_) h1).mono ?_
  · obtain ⟨hj1, rfl⟩ := List.getElem?_eq_some_iff.1 hj
    exact hr.2 j hj1
  · rintro e w' ⟨v', rfl, hown, hne, hb⟩
    exact ⟨v', rfl, hown, hb⟩
set_option maxRecDepth 100000 in
theorem kids_own {B : Nat → Prop} {w : World} {h b g c : Nat} {K : List Kid} (hk : KnotN w B h b K g c) :
    Calls Tryz.prog 78 #[pv b] w (RetOwn w K) := by
  obtain ⟨-, -, -, -, -, -, c6⟩ := Blk.seven hk.blk
  have h8 := hk.eight
  have ck := kclone_own (c := c) (ptrs_len K) (by omega) hk.row (one_ptrs K)
  have CK := hid ck
  obtain ⟨n, hn⟩ : ∃ n, K.length = n := ⟨_, rfl⟩
  have HN := hid hn
  rw [hn] at c6 CK
  clear ck hk hn h8
  go_enter Tryz.func78, Tryz.ntmps78
  go_wp2_with fail
  refine CK.out.mono ?_; rintro e w1 ⟨v', rfl, ho, hb⟩
  have HQ := hid (And.intro ho hb)
  clear ho hb
  go_wp2
  go_ret
  exact ⟨v', rfl, by rw [HN.out]; exact HQ.out.1, HQ.out.2⟩
set_option maxRecDepth 100000 in
set_option maxHeartbeats 800000 in
theorem below_node {S : List Nat} {w : World} {h b g c : Nat} {K : List Kid} (hk : KnotN w (Off S w) h b K g c) (hh : h ≤ 900) :
    Calls Tryz.prog 189 #[pv b] w (RetOwn w K) := by
  have ck := kids_own hk
  have h2 := hk.two
  have h8 := hk.eight
  obtain ⟨n, hn⟩ : ∃ n, K.length = n := ⟨_, rfl⟩
  rw [hn] at h2 h8
  have CK := hid ck; have HK := hid hk; have HN := hid hn
  clear ck hk hn
  go_enter Tryz.func189, Tryz.ntmps189
  go_wp2_with fail
  refine CK.out.mono ?_; rintro e w1 ⟨v', rfl, ho, hb1⟩
  obtain ⟨g', c', rfl, hc', hg', hr⟩ := own_row ho (by rw [HN.out]; omega)
  rw [HN.out] at hc' ho ⊢
  have HO := hid ho; have HB1 := hid hb1; have HR := hid hr
  clear ho hb1 hr hg'
  go_wp2
  go_loopw [10] (fun i wr => ∃ k : Nat, k ≤ n ∧ i = .int .i64 k ∧ Below w1.heap.size w1 wr) (fun i _ => n - (intOf i).toNat)
  case atStart => exact ⟨0, Nat.zero_le _, rfl, Below.refl _ _⟩
  case round =>
    obtain ⟨k, hkn, rfl, hbel⟩ := hrel
    by_cases hlt : k < n
    · have hkl : k < K.length := by rw [HN.out]; exact hlt
      have hbw := HB1.out.trans (hbel.mono HB1.out.size)
      have q0 := (HR.out.on hbel).2 k (by rw [ptrs_len]; exact hkl)
      rw [show (ptrs K)[k]'(by rw [ptrs_len]; exact hkl) = pv K[k].b by simp [ptrs], Nat.zero_add] at q0
      have kk := (((HK.out.kids K[k] (List.getElem_mem hkl)).later hbw).hgt (by omega)).later
      have kb := (Hgt.on (.inr ⟨b, _, _, _, _, _, _, _, _, rfl, by omega, by omega, by omega, HK.out.blk⟩ : Hgt w (some ⟨b, 0, none⟩) ((h : Int) + 1)) hbw).later
      obtain ⟨bk, hbk⟩ : ∃ bk, K[k].b = bk := ⟨_, rfl⟩
      rw [hbk] at q0 kk
      have HB := hid hbel
      have KK := hid kk; have KB := hid kb
      clear hbel kk kb hbk hkl hbw
      go_wp2_with fail
      refine (KK.out _ (Below.refl _ _)).mono ?_; rintro e w2 ⟨rfl, hb2⟩
      have HB2 := hid hb2
      clear hb2
      go_wp2_with fail
      refine (KB.out _ HB2.out).mono ?_; rintro e w3 ⟨rfl, hb3⟩
      have HB3 := hid hb3
      clear hb3
      go_wp2
      go_roundw
      case rel => exact ⟨k + 1, by omega, by go_num, HB.out.trans (HB3.out.mono HB.out.size)⟩
      case measure => simp [intOf]; omega
    · obtain rfl : k = n := by omega
      have HB := hid hbel
      clear hbel
      go_wp2
      go_ret
      exact ⟨_, rfl, by rw [HN.out]; exact own_on HO.out HB.out, HB1.out.trans (HB.out.mono HB1.out.size)⟩
set_option maxRecDepth 100000 in
set_option maxHeartbeats 800000 in
theorem below_nil (w : World) : Calls Tryz.prog 189 #[.pointer none] w fun e w' => e = .returned (.slice none 0 0) ∧ Below w.heap.size w w' := by
  have ck := kids_nil w
  have CK := hid ck
  clear ck
  go_enter Tryz.func189, Tryz.ntmps189
  go_wp2_with fail
  refine CK.out.mono ?_; rintro e w1 ⟨rfl, hb1⟩
  have HB1 := hid hb1
  clear hb1
  go_wp2
  go_loopw [10] (fun i wr => i = .int .i64 0 ∧ wr = w1) (fun i _ => 0)
  case atStart => exact ⟨rfl, rfl⟩
  case round =>
    obtain ⟨rfl, rfl⟩ := hrel
    go_wp2
    go_ret
    exact ⟨rfl, HB1.out⟩
set_option maxRecDepth 100000 in
set_option maxHeartbeats 800000 in
theorem below_leaf {S : List Nat} {w : World} {b : Nat} {L : List ByteArray} (hk : KnotW w (Off S w) 0 b L) :
    Calls Tryz.prog 189 #[pv b] w fun e w' => e = .returned (.slice none 0 0) ∧ Below w.heap.size w w' := by
  obtain ⟨-, s, -, -, hB⟩ := hk
  have ck := kids_leaf hB
  have CK := hid ck
  clear ck hB
  go_enter Tryz.func189, Tryz.ntmps189
  go_wp2_with fail
  refine CK.out.mono ?_; rintro e w1 ⟨rfl, hb1⟩
  have HB1 := hid hb1
  clear hb1
  go_wp2
  go_loopw [10] (fun i wr => i = .int .i64 0 ∧ wr = w1) (fun i _ => 0)
  case atStart => exact ⟨rfl, rfl⟩
  case round =>
    obtain ⟨rfl, rfl⟩ := hrel
    go_wp2
    go_ret
    exact ⟨rfl, HB1.out⟩
def RetKids (S : List Nat) (w : World) (h : Nat) (L : List ByteArray) (e : Ending) (w' : World) : Prop :=
  ∃ (r c : Nat) (K : List Kid), e = .returned (.slice (some ⟨r, 0, none⟩) K.length c) ∧ w'.ownsRow w.heap.size 71 1 (.slice (some ⟨r, 0, none⟩) K.length c) K.length (ptrs K) ∧ 1 ≤ K.length ∧ K.length ≤ 2 ∧ flat K = L ∧ (∀ k ∈ K, KnotW w' (Off (r :: S) w') h k.b k.L) ∧ Below w.heap.size w w'
theorem KnotW.beside {S : List Nat} {w w' : World} {h b r : Nat} {L : List ByteArray} (k : KnotW w (Off S w) h b L) (hb : Below w.heap.size w w') (hr : w.heap.size ≤ r) : KnotW w' (Off (r :: S) w') h b L :=
  (k.below hb fun _ h => h.1).weak fun i hi => ⟨Nat.lt_of_lt_of_le hi.1 hb.size, fun g => by
    rcases List.mem_cons.1 g with rfl | g
    · have := hi.1; omega
    · exact hi.2 g⟩
theorem ret_kid {S : List Nat} {w w1 : World} {h b : Nat} {L : List ByteArray} (hb : Below w.heap.size w w1) (k : KnotW w1 (Off S w1) h b L) :
    RetKids S w h L (.returned (.slice (some ⟨w1.heap.size, 0, none⟩) 1 1)) (w1.alloc (.cells #[pv b] 71)) :=
  ⟨w1.heap.size, 1, [⟨b, L⟩], rfl, World.ownsRow_lit w1 #[pv b] 1 hb.size (by decide) rfl, Nat.le_refl _, by simp, by simp [flat], fun x hx => by
    rw [List.mem_singleton.1 hx]
    exact k.beside ((Below.refl _ _).alloc (Nat.le_refl _) _) (Nat.le_refl _), hb.alloc hb.size _⟩
theorem ret_kids {S : List Nat} {w w1 : World} {h b b' : Nat} {L L' : List ByteArray} (hb : Below w.heap.size w w1) (k : KnotW w1 (Off S w1) h b L) (k' : KnotW w1 (Off S w1) h b' L') :
    RetKids S w h (L ++ L') (.returned (.slice (some ⟨w1.heap.size, 0, none⟩) 2 2)) (w1.alloc (.cells #[pv b, pv b'] 71)) :=
  ⟨w1.heap.size, 2, [⟨b, L⟩, ⟨b', L'⟩], rfl, World.ownsRow_lit w1 #[pv b, pv b'] 2 hb.size (by decide) rfl, by simp, by simp, by simp [flat], fun x hx => by
    simp at hx
    rcases hx with rfl | rfl
    · exact k.beside ((Below.refl _ _).alloc (Nat.le_refl _) _) (Nat.le_refl _)
    · exact k'.beside ((Below.refl _ _).alloc (Nat.le_refl _) _) (Nat.le_refl _), hb.alloc hb.size _⟩
theorem own_base {w : World} {base base' n size : Nat} {t : TypeId} {v : Value} {xs : List Value} (h : w.ownsRow base t size v n xs) (hb : base' ≤ base) : w.ownsRow base' t size v n xs := by
  refine ⟨h.1, ?_⟩
  rcases h.2 with h2 | ⟨g, cap, cur, hv, hg0, hr⟩
  · exact .inl h2
  · exact .inr ⟨g, cap, cur, hv, Nat.le_trans hb hg0, hr⟩
theorem own_take {w : World} {base n c g k : Nat} {t : TypeId} {xs : List Value} (h : w.ownsRow base t 1 (.slice (some ⟨g, 0, none⟩) n c) n xs) (hk : k ≤ n) : w.ownsRow base t 1 (.slice (some ⟨g, 0, none⟩) k c) k (xs.take k) := by
  have h1 := h.1
  refine ⟨by rw [List.length_take]; omega, ?_⟩
  rcases h.2 with ⟨h2, -⟩ | ⟨g', cap, cur, hv, hg0, hg, hc, hm, hs, ht⟩
  · simp at h2
  · simp only [Value.slice.injEq, Option.some.injEq, Addr.mk.injEq, and_true, true_and] at hv
    obtain ⟨rfl, rfl⟩ := hv
    refine .inr ⟨g, c, cur, rfl, hg0, hg, by omega, hm, hs, ?_⟩
    rw [← ht, List.take_take, Nat.min_eq_left (by omega), Nat.mul_one]
theorem RetKids.from {S : List Nat} {w w1 w' : World} {h : Nat} {L : List ByteArray} {e : Ending} (r : RetKids S w1 h L e w') (hb : Below w.heap.size w w1) : RetKids S w h L e w' := by
  obtain ⟨r, c, K, h1, h2, h3, h4, h5, h6, h7⟩ := r
  exact ⟨r, c, K, h1, own_base h2 hb.size, h3, h4, h5, h6, hb.trans (h7.mono hb.size)⟩
theorem app_join {S : List Nat} {w w' : World} {base g' g n cap h : Nat} {K1 K2 : List Kid} (h1 : ∀ k ∈ K1, KnotW w (Off (g' :: S) w) h k.b k.L) (h2 : ∀ k ∈ K2, KnotW w (Off (g' :: S) w) h k.b k.L)
    (hg : w.grownBy w' (some g')) (ho : w'.ownsRow base 71 1 (.slice (some ⟨g, 0, none⟩) n cap) n (ptrs K1 ++ ptrs K2)) (hn : K1.length + K2.length = n) (h0 : 0 < n) (hh : h ≤ 900) (hz : (wholeL (flat (K1 ++ K2))).size ≤ 1000000) :
    JoinP w' (Off S w') g 0 n h (K1 ++ K2) := by
  obtain ⟨g1, c1, e, -, -, hr⟩ := own_row ho h0
  simp only [Value.slice.injEq, Option.some.injEq, Addr.mk.injEq, and_true, true_and] at e
  obtain ⟨rfl, rfl⟩ := e
  have step : ∀ {b : Nat} {L : List ByteArray}, KnotW w (Off (g' :: S) w) h b L → KnotW w' (Off S w') h b L := fun k =>
    (k.keep hg.size fun i hi => hg.block i hi.1 fun e => hi.2 (by injection e with e; rw [e]; exact List.mem_cons_self)).weak fun i hi => ⟨Nat.lt_of_lt_of_le hi.1 hg.size, fun g => hi.2 (List.mem_cons_of_mem _ g)⟩
  refine ⟨by rw [List.length_append]; exact hn, by rw [show ptrs (K1 ++ K2) = ptrs K1 ++ ptrs K2 by simp [ptrs]]; exact hr, fun k hk => ?_, fun i hi => hi.1, hh, hz⟩
  rcases List.mem_append.1 hk with q | q
  · exact step (h1 k q)
  · exact step (h2 k q)
set_option maxRecDepth 100000 in
set_option maxHeartbeats 800000 in
theorem over_few {S : List Nat} {w : World} {g n c h : Nat} {K : List Kid} (hS : InS S w) (p : JoinP w (Off S w) g 0 n h K) (h2 : 2 ≤ n) (h8 : n ≤ 8) :
    Calls Tryz.prog 190 #[.slice (some ⟨g, 0, none⟩) n c] w (RetKids S w (h + 1) (flat K)) := by
  have cj := kjoin_yes (c := c) p h2 h8
  have CJ := hid cj; have HS := hid hS
  clear cj p hS
  go_enter Tryz.func190, Tryz.ntmps190
  go_wp2_with fail
  refine CJ.out.mono ?_; rintro e w1 ⟨b, g', c', rfl, hb, hg, hkn, hb1⟩
  have hr := ret_kid hb1 (hkn.made HS.out hb hg hb1.size)
  have HR := hid hr
  clear hr hb hg hkn hb1
  go_wp2
  go_ret
  exact HR.out
set_option maxRecDepth 100000 in
set_option maxHeartbeats 1600000 in
theorem over_many {S : List Nat} {w : World} {g n c h : Nat} {M : List Kid} (hS : InS S w) (p : JoinP w (Off S w) g 0 n h M) (h9 : 9 ≤ n) (h16 : n ≤ 16) (hc : n ≤ c) :
    Calls Tryz.prog 190 #[.slice (some ⟨g, 0, none⟩) n c] w (RetKids S w (h + 1) (flat M)) := by
  have cn := fun W => kjoin_few (a := some ⟨g, 0, none⟩) (n := n) (c := c) (w := W) (.inr (by omega))
  obtain ⟨m, hm⟩ : ∃ m, n / 2 = m := ⟨_, rfl⟩
  have e1 : (n : Int) / 2 = (m : Int) := by omega
  have hm4 : 4 ≤ m := by omega
  have hm8 : m ≤ 8 := by omega
  have hk4 : 2 ≤ n - m := by omega
  have hk8 : n - m ≤ 8 := by omega
  have hml : m < n := by omega
  have cj1 : ∀ W, Below w.heap.size w W → Calls Tryz.prog 144 #[.slice (some ⟨g, 0, none⟩) m c] W (RetJoin W (Off S w) h (M.take m)) := fun W hb => kjoin_yes ((p.on hb).head (by omega)) (by omega) (by omega)
  have cj2 : ∀ W, Below w.heap.size w W → Calls Tryz.prog 144 #[.slice (some ⟨g, m, none⟩) (n - m : Nat) (c - m : Nat)] W (RetJoin W (Off S w) h (M.drop m)) := fun W hb => by
    have := kjoin_yes (c := c - m) ((p.on hb).tail m) hk4 hk8
    rwa [Nat.zero_add] at this
  have hf : flat (M.take m) ++ flat (M.drop m) = flat M := by rw [← flat_app, List.take_append_drop]
  have CN := hid cn; have C1 := hid cj1; have C2 := hid cj2; have HS := hid hS; have HF := hid hf
  have b1 : (m : Int) ≤ (c : Int) := by omega
  have b2 : (m : Int) ≤ (n : Int) := by omega
  have b3 : ¬ c = m := by omega
  have b4 : m ≤ c := by omega
  have b5 : m ≤ n := by omega
  have b6 : n ≤ c := hc
  clear cn cj1 cj2 hS p hf hm h9 hm4 hk4 hk8
  go_enter Tryz.func190, Tryz.ntmps190
  go_wp2_with fail
  refine (CN.out _).mono ?_; rintro e w1 ⟨rfl, hb1⟩
  have HB1 := hid hb1
  clear hb1
  go_wp2_with fail
  refine wp_region_held_drew (S := (fun w' : World => Below w1.heap.size w1 w')) (by kernel_rfl) (Below.refl _ _).drew (fun hHeld => ?_)
  refine sqt 0 ?_
  try simp only [Act.put, sqp]
  refine sqt 1 ?_
  try simp only [Act.put, sqp]
  refine sqt 2 ?_
  try simp only [Act.put, sqp]
  refine sqt 4 ?_
  try simp only [Act.put, sqp]
  refine sqt 5 ?_
  try simp only [Act.put, sqp]
  refine sqt 6 ?_
  try simp only [Act.put, sqp]
  refine wpAnyH_ready (rs := [3]) (by kernel_rfl) (by simp) ?_
  refine AllReadyH.cons (by simp only [sqg]; rfl) (fun K hK => ?_) AllReadyH.nil
  go_simp
  (go_at_call 144; refine (C1.out _ (HB1.out.trans (hHeld.mono HB1.out.size))).mono ?_; rintro e w2 ⟨k1, g1, x1, rfl, q1, q2, q3, hb2⟩; have HB2 := hid (hHeld.trans (hb2.mono hHeld.size)); have HW1 := hid hHeld; have HR1 := hid (show w.heap.size ≤ k1 ∧ w.heap.size ≤ g1 ∧ KnotN w2 (Off S w) h k1 (M.take m) g1 x1 ∧ Below w.heap.size w w2 from ⟨by have := HB1.out.size; have := hHeld.size; omega, by have := HB1.out.size; have := hHeld.size; omega, q3, HB1.out.trans (HB2.out.mono HB1.out.size)⟩); clear q1 q2 q3 hb2)
  try go_wp2_with fail
  refine hK.out _ _ ?_ (fun hHeld => ?_)
  · exact HB2.out
  clear hK K
  try simp only [Act.put, sqp]
  refine wpAnyH_ready (rs := [7]) (by kernel_rfl) (by simp) ?_
  refine AllReadyH.cons (by simp only [sqg]; rfl) (fun K hK => ?_) AllReadyH.nil
  go_simp
  (go_at_call 144; refine (C2.out _ HR1.out.2.2.2).mono ?_; rintro e w3 ⟨k2, g2, x2, rfl, q1, q2, q3, hb3⟩; have HB3 := hid (HB2.out.trans (hb3.mono HB2.out.size)); have HR2 := hid (show w2.heap.size ≤ k2 ∧ w2.heap.size ≤ g2 ∧ KnotN w3 (Off S w) h k2 (M.drop m) g2 x2 ∧ Below w2.heap.size w2 w3 from ⟨q1, q2, q3, hb3⟩); clear q1 q2 q3 hb3)
  try go_wp2_with fail
  refine hK.out _ _ ?_ (fun hHeld => ?_)
  · exact HB3.out
  clear hK K
  try simp only [Act.put, sqp]
  refine wpAnyH_ready (rs := [8]) (by kernel_rfl) (by simp) ?_
  refine AllReadyH.cons (by simp only [sqg]; rfl) (fun K hK => ?_) AllReadyH.nil
  go_simp
  have HB4 := hid (HB3.out.alloc HB3.out.size (.cells #[pv k1, pv k2] 71))
  try go_wp2_with fail
  refine hK.out _ _ ?_ (fun hHeld => ?_)
  · exact HB4.out
  clear hK K
  try simp only [Act.put, sqp]
  refine sqt 9 ?_
  try simp only [Act.put, sqp]
  refine wpAnyH_done (by kernel_rfl) ?_ _
  go_wp2_with fail
  go_ret
  have kk1 := ((HR1.out.2.2.1.made HS.out HR1.out.1 HR1.out.2.1 HR1.out.2.2.2.size).later HR2.out.2.2.2)
  have hbw := HR1.out.2.2.2.trans (HR2.out.2.2.2.mono HR1.out.2.2.2.size)
  have kk2 := HR2.out.2.2.1.made HS.out (Nat.le_trans HR1.out.2.2.2.size HR2.out.1) (Nat.le_trans HR1.out.2.2.2.size HR2.out.2.1) hbw.size
  have hr := ret_kids hbw kk1 kk2
  rw [HF.out] at hr
  exact hr
abbrev layV (bl : Nat) : Value := .func (.func 188) #[] #[.pointer (some ⟨bl, 0, none⟩)]
def LayC (n : Nat) : Prop := ∀ (S : List Nat) (w : World) (a b ha hb bl : Nat) (L R : List ByteArray), ha + hb ≤ n → InS S w → w.cell? ⟨bl, 0, none⟩ = some (layV bl) → KnotW w (Off S w) ha a L → KnotW w (Off S w) hb b R → ha ≤ 800 → hb ≤ 800 →
  (wholeL (L ++ R)).size ≤ 1000000 → Calls Tryz.prog 188 #[pv a, pv b, .pointer (some ⟨bl, 0, none⟩)] w (RetKids S w (max ha hb) (L ++ R))
theorem below_any {S : List Nat} {w : World} {h b : Nat} {L : List ByteArray} (k : KnotW w (Off S w) h b L) (hh : h ≤ 900) :
    Calls Tryz.prog 189 #[pv b] w fun e w' => ∃ a n c, e = .returned (.slice a n c) ∧ (h = 0 → a = none ∧ n = 0 ∧ c = 0) ∧ Below w.heap.size w w' := by
  cases h with
  | zero => exact (below_leaf k).mono fun e w' ⟨he, hb⟩ => ⟨none, 0, 0, he, fun _ => ⟨rfl, rfl, rfl⟩, hb⟩
  | succ h =>
    obtain ⟨K, g, c, hn, rfl, -⟩ := k.node
    refine (below_node hn (by omega)).mono ?_
    rintro e w' ⟨v, rfl, ho, hb⟩
    have := hn.two
    obtain ⟨g', c', rfl, -⟩ := own_row ho (by omega)
    exact ⟨_, _, _, rfl, fun h => by omega, hb⟩
set_option maxRecDepth 100000 in
set_option maxHeartbeats 1600000 in
theorem lay_zero : LayC 0 := by
  intro S w a b ha hb bl L R hn hS hbox ka kb ha8 hb8 hz
  obtain rfl : ha = 0 := by omega
  obtain rfl : hb = 0 := by omega
  have c1 := below_leaf ka
  have c2 := fun W (hW : Below w.heap.size w W) => below_leaf (kb.later hW)
  have k1 := (ka.hgt (by decide)).later
  have k2 := (kb.hgt (by decide)).later
  have HR := hid (fun (W : World) (hW : Below w.heap.size w W) => ret_kids hW (ka.later hW) (kb.later hW))
  rw [show ((0 : Nat) : Int) = 0 from rfl] at k1 k2
  have C1 := hid c1; have C2 := hid c2; have K1 := hid k1; have K2 := hid k2
  clear c1 c2 k1 k2 ka kb hS hz hbox
  go_enter Tryz.func188, Tryz.ntmps188
  go_wp2_with fail
  refine C1.out.mono ?_; rintro e w1 ⟨rfl, hb1⟩
  have HB1 := hid hb1
  clear hb1
  go_wp2_with fail
  refine (onward HB1.out (C2.out _ HB1.out)).mono ?_; rintro e w2 ⟨rfl, hb2⟩
  have HB2 := hid hb2
  clear hb2
  go_wp2_with fail
  refine (K1.out _ HB2.out).mono ?_; rintro e w3 ⟨rfl, hb3⟩
  have HB3 := hid hb3
  clear hb3
  go_wp2_with fail
  refine (K2.out _ HB3.out).mono ?_; rintro e w4 ⟨rfl, hb4⟩
  have HB4 := hid hb4
  clear hb4
  go_wp2_with fail
  refine (K1.out _ HB4.out).mono ?_; rintro e w5 ⟨rfl, hb5⟩
  have HB5 := hid hb5
  clear hb5
  go_wp2_with fail
  refine (K2.out _ HB5.out).mono ?_; rintro e w6 ⟨rfl, hb6⟩
  have HB6 := hid hb6
  clear hb6
  go_wp2
  go_ret
  exact HR.out w6 HB6.out
theorem over_any {S : List Nat} {w : World} {g n c h : Nat} {K : List Kid} (hS : InS S w) (p : JoinP w (Off S w) g 0 n h K) (h2 : 2 ≤ n) (h16 : n ≤ 16) (hc : n ≤ c) :
    Calls Tryz.prog 190 #[.slice (some ⟨g, 0, none⟩) n c] w (RetKids S w (h + 1) (flat K)) := by
  rcases Nat.lt_or_ge n 9 with h9 | h9
  · exact over_few hS p h2 (by omega)
  · exact over_many hS p h9 h16 hc
theorem Hgt.at' {w : World} {p : Option Addr} {h : Int} (k : Hgt w p h) : ∀ W, Below w.heap.size w W → Calls Tryz.prog 142 #[.pointer p] W fun e w' => e = .returned (.int .i64 h) ∧ Below W.heap.size W w' :=
  fun W hb => (k.on hb).call
theorem prow_news {w : World} {g o : Nat} {l : List Value} (h : PRow w g o l) : ∀ j u, l[j]? = some u → w.cell? ((⟨g, o, none⟩ : Addr).add j) = some u := fun j u hj => by
  obtain ⟨hj1, rfl⟩ := List.getElem?_eq_some_iff.1 hj
  rw [show (⟨g, o, none⟩ : Addr).add j = ⟨g, o + j, none⟩ by unfold Addr.add; split <;> simp_all]
  exact h.2 j hj1
theorem own_prow {w : World} {base g n c : Nat} {t : TypeId} {l : List Value} (ho : w.ownsRow base t 1 (.slice (some ⟨g, 0, none⟩) n c) n l) (h0 : 0 < n) : n ≤ c ∧ base ≤ g ∧ PRow w g 0 l := by
  obtain ⟨g1, c1, e, hc, hb, hr⟩ := own_row ho h0
  simp only [Value.slice.injEq, Option.some.injEq, Addr.mk.injEq, and_true, true_and] at e
  obtain ⟨rfl, rfl⟩ := e
  exact ⟨hc, hb, hr⟩
theorem KnotW.lessS {S : List Nat} {w : World} {h b r : Nat} {L : List ByteArray} (k : KnotW w (Off (r :: S) w) h b L) : KnotW w (Off S w) h b L := k.weak fun i hi => ⟨hi.1, fun g => hi.2 (List.mem_cons_of_mem _ g)⟩
theorem lay_left_end {S : List Nat} {w w5 w6 : World} {h g' m c5 r g5 cap N : Nat} {K0 K2 : List Kid} {L R xL : List ByteArray} (hk0 : ∀ k ∈ K0, KnotW w (Off S w) h k.b k.L) (hl : K0.length = m) (hL : L = flat K0 ++ xL) (hb : Below w.heap.size w w5) (hg' : w.heap.size ≤ g')
    (hk2 : ∀ k ∈ K2, KnotW w5 (Off (r :: g' :: S) w5) h k.b k.L) (hf : flat K2 = xL ++ R) (hN : m + K2.length = N) (h0 : 0 < N) (hh : h ≤ 900) (hz : (wholeL (L ++ R)).size ≤ 1000000)
    (ho : w6.ownsRow w.heap.size 71 1 (.slice (some ⟨g5, 0, none⟩) N cap) N (ptrs K0 ++ ptrs K2)) (hg : w5.grownBy w6 (some g')) :
    JoinP w6 (Off S w6) g5 0 N h (K0 ++ K2) ∧ flat (K0 ++ K2) = L ++ R := by
  have e : flat (K0 ++ K2) = L ++ R := by rw [flat_app, hf, hL, List.append_assoc]
  exact ⟨app_join (fun k hk => (hk0 k hk).beside hb hg') (fun k hk => (hk2 k hk).lessS) hg ho (by omega) h0 hh (by rw [e]; exact hz), e⟩
theorem lay_right_end {S : List Nat} {w w5 w6 : World} {h m r g5 cap N : Nat} {K0 K2 : List Kid} {L R xL : List ByteArray} (hk0 : ∀ k ∈ K0, KnotW w (Off S w) h k.b k.L) (hl : K0.length = m) (hR : R = xL ++ flat K0) (hb : Below w.heap.size w w5) (hr : w.heap.size ≤ r)
    (hk2 : ∀ k ∈ K2, KnotW w5 (Off (r :: S) w5) h k.b k.L) (hf : flat K2 = L ++ xL) (hN : K2.length + m = N) (h0 : 0 < N) (hh : h ≤ 900) (hz : (wholeL (L ++ R)).size ≤ 1000000)
    (ho : w6.ownsRow w.heap.size 71 1 (.slice (some ⟨g5, 0, none⟩) N cap) N (ptrs K2 ++ ptrs K0)) (hg : w5.grownBy w6 (some r)) :
    JoinP w6 (Off S w6) g5 0 N h (K2 ++ K0) ∧ flat (K2 ++ K0) = L ++ R := by
  have e : flat (K2 ++ K0) = L ++ R := by rw [flat_app, hf, hR, List.append_assoc]
  exact ⟨app_join hk2 (fun k hk => (hk0 k hk).beside hb hr) hg ho (by omega) h0 hh (by rw [e]; exact hz), e⟩
set_option maxRecDepth 100000 in
set_option maxHeartbeats 1600000 in
theorem lay_left {z : Nat} (ih : LayC z) {S : List Nat} {w : World} {a b h hb bl : Nat} {L R : List ByteArray} (hn : h + hb ≤ z) (hS : InS S w) (hbox : w.cell? ⟨bl, 0, none⟩ = some (layV bl)) (ka : KnotW w (Off S w) (h + 1) a L) (kb : KnotW w (Off S w) hb b R) (hlt : hb < h + 1) (ha8 : h + 1 ≤ 800)
    (hz : (wholeL (L ++ R)).size ≤ 1000000) : Calls Tryz.prog 188 #[pv a, pv b, .pointer (some ⟨bl, 0, none⟩)] w (RetKids S w (h + 1) (L ++ R)) := by
  obtain ⟨i0, hi, hz0, hz1, hz2⟩ := info_parts ptr_info16
  have k1 := (ka.hgt (by omega)).at'
  have k2 := (kb.hgt (by omega)).at'
  have c2 := fun W (hW : Below w.heap.size w W) => below_any (kb.later hW) (by omega)
  obtain ⟨M, g, c, hM, rfl, -⟩ := ka.node
  have c1 := below_node hM (by omega)
  obtain ⟨m, hm⟩ : ∃ m, M.length = m + 1 := ⟨M.length - 1, by have := hM.two; omega⟩
  have hm1 : 1 ≤ m := by have := hM.two; omega
  have hm7 : m ≤ 7 := by have := hM.eight; omega
  obtain ⟨x, hx⟩ : ∃ x, M[m]'(by omega) = x := ⟨_, rfl⟩
  have hMs : M = M.take m ++ [x] := by
    have := List.take_succ_eq_append_getElem (l := M) (i := m) (by omega)
    rw [List.take_of_length_le (by omega), hx] at this
    exact this
  have hML : flat M = flat (M.take m) ++ x.L := by
    conv => lhs; rw [hMs]
    rw [flat_app, flat_one]
  have hk0 : ∀ k ∈ M.take m, KnotW w (Off S w) h k.b k.L := fun k hk => hM.kids k (List.mem_of_mem_take hk)
  have hl0 : (M.take m).length = m := by rw [List.length_take]; omega
  have hp0 : (ptrs M).take m = ptrs (M.take m) := by unfold ptrs; rw [List.map_take]
  have hpx : ∀ (W : World) (g' : Nat), PRow W g' 0 (ptrs M) → W.cell? ⟨g', m, none⟩ = some (pv x.b) := fun W g' hp => by
    have := hp.2 m (by rw [ptrs_len]; omega)
    rw [show (ptrs M)[m]'(by rw [ptrs_len]; omega) = pv x.b by rw [← hx]; simp [ptrs], Nat.zero_add] at this
    exact this
  have kx : KnotW w (Off S w) h x.b x.L := by rw [← hx]; exact hM.kids _ (List.getElem_mem _)
  have hxz : (wholeL (x.L ++ R)).size ≤ 1000000 := by
    rw [hML, List.append_assoc, whole_app, ByteArray.size_append] at hz
    omega
  have hbl := World.block_lt_of_cell? w _ hbox
  have hih : ∀ (W : World) (g' : Nat), Below w.heap.size w W → w.heap.size ≤ g' → g' < W.heap.size → Calls Tryz.prog 188 #[pv x.b, pv b, .pointer (some ⟨bl, 0, none⟩)] W (RetKids (g' :: S) W h (x.L ++ R)) := fun W g' hW h1 h2 => by
    have := ih (g' :: S) W x.b b h hb bl x.L R hn (fun q hq => by
      rcases List.mem_cons.1 hq with rfl | hq
      · exact h2
      · exact Nat.lt_of_lt_of_le (hS q hq) hW.size) ((hW.cell hbl).trans hbox) (kx.beside hW h1) (kb.beside hW h1) (by omega) (by omega) hxz
    rwa [Nat.max_eq_left (by omega)] at this
  have hend := fun (w5 w6 : World) (g' r g5 cap N : Nat) (K2 : List Kid) => @lay_left_end S w w5 w6 h g' m 0 r g5 cap N (M.take m) K2 (flat M) R x.L hk0 hl0 hML
  obtain ⟨xb, hxb⟩ : ∃ xb, x.b = xb := ⟨_, rfl⟩
  rw [hxb] at hpx hih
  obtain ⟨u, hu⟩ : ∃ u : Int, ((h + 1 : Nat) : Int) = u := ⟨_, rfl⟩
  obtain ⟨v, hv⟩ : ∃ v : Int, (hb : Int) = v := ⟨_, rfl⟩
  have huv : v < u := by omega
  rw [hu] at k1
  rw [hv] at k2
  have K1 := hid k1; have K2 := hid k2; have C1 := hid c1; have C2 := hid c2; have HI := hid hih; have HE := hid hend; have HM := hid hm; have HP0 := hid hp0; have HPX := hid hpx; have HS := hid hS
  have HZ := hid hz; have HBX := hid hbox; have HBL := hid hbl; have HL0 := hid hl0
  have hh : h ≤ 900 := by omega
  clear k1 k2 c1 c2 hih hend hm hp0 hpx hx hMs hML hk0 hl0 kx hxz hbl hbox hxb hu hv hS hM ka kb hz ih hn hlt ha8
  go_enter Tryz.func188, Tryz.ntmps188
  go_wp2_with fail
  refine C1.out.mono ?_; rintro e w1 ⟨v1, rfl, ho1, hb1⟩
  obtain ⟨g', c', rfl, hc', hg', hr1⟩ := own_row ho1 (by rw [HM.out]; omega)
  rw [HM.out] at ho1 hc' ⊢
  have HO1 := hid ho1; have HB1 := hid hb1; have HG := hid hg'; have HPR := hid hr1
  clear ho1 hb1 hg' hr1
  go_wp2_with fail
  refine (C2.out _ HB1.out).mono ?_; rintro e w2 ⟨a2, n2, c2, rfl, -, hb2⟩
  have HB2 := hid (HB1.out.trans (hb2.mono HB1.out.size)); have HD2 := hid hb2
  clear hb2
  go_wp2_with fail
  refine (K1.out _ HB2.out).mono ?_; rintro e w3 ⟨rfl, hb3⟩
  have HB3 := hid (HB2.out.trans (hb3.mono HB2.out.size)); have HD3 := hid (HD2.out.trans (hb3.mono HD2.out.size))
  clear hb3
  go_wp2_with fail
  refine (K2.out _ HB3.out).mono ?_; rintro e w4 ⟨rfl, hb4⟩
  have HB4 := hid (HB3.out.trans (hb4.mono HB3.out.size)); have HD4 := hid (HD3.out.trans (hb4.mono HD3.out.size))
  clear hb4
  go_wp2_with fail
  have q1 : w4.cell? ⟨g', m, none⟩ = some (pv xb) := HPX.out w4 g' (HPR.out.on HD4.out)
  have q2 : w4.drew.cell? ⟨g', m, none⟩ = some (pv xb) := q1
  have b1 : m ≤ c' := by omega
  have b2 : (m : Int) < (m : Int) + 1 := by omega
  refine wp_region_held_drew (S := (fun w' : World => Below w.heap.size w w' ∧ w'.cell? ⟨bl, 0, none⟩ = some (layV bl))) (by kernel_rfl) ⟨HB4.out.drew, (HB4.out.cell (p := ⟨bl, 0, none⟩) HBL.out).trans HBX.out⟩ (fun hHeld => ?_)
  refine sqt 0 ?_
  try simp only [Act.put, sqp]
  refine sqt 1 ?_
  try simp only [Act.put, sqp]
  refine sqt 2 ?_
  try simp only [Act.put, sqp]
  refine sqt 4 ?_
  try simp only [Act.put, sqp]
  refine sqt 5 ?_
  try simp only [Act.put, sqp]
  refine sqt 6 ?_
  try simp only [Act.put, sqp]
  refine sqt 8 ?_
  try simp only [Act.put, sqp]
  refine sqt 3 ?_
  try simp only [Act.put, sqp]
  refine wpAnyH_ready (rs := [7]) (by kernel_rfl) (by simp) ?_
  refine AllReadyH.cons (by simp only [sqg]; rfl) (fun K hK => ?_) AllReadyH.nil
  go_simp
  refine hK.out _ _ ?_ (fun hHeld => ?_)
  · exact hHeld
  clear hK K
  try simp only [Act.put, sqp]
  refine wpAnyH_ready (rs := [9]) (by kernel_rfl) (by simp) ?_
  refine AllReadyH.cons (by simp only [sqg]; rfl) (fun K hK => ?_) AllReadyH.nil
  go_simp
  (go_at_call 188; refine (HI.out _ g' hHeld.1 HG.out (Nat.lt_of_lt_of_le HPR.out.1 HD4.out.size)).mono ?_; rintro e w5 ⟨r, c5, X2, rfl, ho5, x1, x2, hf, hk5, hb5⟩; have HB5 := hid (hHeld.1.trans (hb5.mono hHeld.1.size)); have HX5 := hid (show w5.ownsRow w.heap.size 71 1 (.slice (some ⟨g', 0, none⟩) m c') m (ptrs (M.take m)) from by rw [← HP0.out]; exact own_take (own_on (own_on HO1.out HD4.out.drew) hb5) (by omega)); have HY5 := hid (prow_news (own_prow ho5 (by omega)).2.2); have HF5 := hid hf; have HK5 := hid hk5; clear ho5 hf hk5 hb5)
  try go_wp2_with fail
  refine hK.out _ _ ?_ (fun hHeld => ?_)
  · exact ⟨HB5.out, (HB5.out.cell (p := ⟨bl, 0, none⟩) HBL.out).trans HBX.out⟩
  clear hK K
  try simp only [Act.put, sqp]
  have hsz5 : w.heap.size ≤ w5.heap.size := HB5.out.size
  refine wpAnyH_ready (rs := [10]) (by kernel_rfl) (by simp) ?_
  refine AllReadyH.cons (by simp only [sqg]; rfl) (fun K hK => ?_) AllReadyH.nil
  refine step_append_lies _ rfl (.tmp 29) (.tmp 36) 110 rfl w.heap.size 71 i0 (.pointer none) 1 8 Tryz.underlying110 hi hz0 hz1 hz2 rfl (by decide) (.slice (some ⟨g', 0, none⟩) m c') m (ptrs (M.take m)) rfl HX5.out ⟨r, 0, none⟩ X2.length c5 (ptrs X2) rfl (by rw [ptrs_len]; omega) HY5.out (one_ptrs _) (by omega) (by unfold maxLen; omega) (by omega) hsz5 _ rfl ?_
  intro g5 cap w6 hown' hgrow _ _
  have HB6 := hid (HB5.out.grown hgrow hsz5 (own_block HX5.out))
  have hJ := HE.out w5 w6 g' r g5 cap (m + X2.length) X2 HB5.out HG.out HK5.out HF5.out rfl (by omega) hh HZ.out hown' hgrow
  have ho := over_any (c := cap) (HS.out.on HB6.out.size) hJ.1 (by omega) (by omega) (own_prow hown' (by omega)).1
  rw [hJ.2] at ho
  have HO := hid ho
  clear hown' hgrow hJ ho
  refine hK.out _ _ ?_ (fun hHeld => ?_)
  · exact ⟨HB6.out, (HB6.out.cell (p := ⟨bl, 0, none⟩) HBL.out).trans HBX.out⟩
  clear hK K
  try simp only [Act.put, sqp]
  refine wpAnyH_ready (rs := [11]) (by kernel_rfl) (by simp) ?_
  refine AllReadyH.cons (by simp only [sqg]; rfl) (fun K hK => ?_) AllReadyH.nil
  go_simp
  (go_at_call 190; refine HO.out.mono ?_; intro e w7 hr; have HR := hid (hr.from HB6.out); obtain ⟨r7, c7, X7, rfl, -, -, -, -, -, hb7⟩ := hr; have HB7 := hid (HB6.out.trans (hb7.mono HB6.out.size)); clear hb7)
  try go_wp2_with fail
  refine hK.out _ _ ?_ (fun hHeld => ?_)
  · exact ⟨HB7.out, (HB7.out.cell (p := ⟨bl, 0, none⟩) HBL.out).trans HBX.out⟩
  clear hK K
  try simp only [Act.put, sqp]
  refine sqt 12 ?_
  try simp only [Act.put, sqp]
  refine wpAnyH_done (by kernel_rfl) ?_ _
  go_wp2_with fail
  go_ret
  exact HR.out
set_option maxRecDepth 100000 in
set_option maxHeartbeats 1600000 in
theorem lay_right {z : Nat} (ih : LayC z) {S : List Nat} {w : World} {a b h ha bl : Nat} {L R : List ByteArray} (hn : ha + h ≤ z) (hS : InS S w) (hbox : w.cell? ⟨bl, 0, none⟩ = some (layV bl)) (ka : KnotW w (Off S w) ha a L) (kb : KnotW w (Off S w) (h + 1) b R) (hlt : ha < h + 1) (hb8 : h + 1 ≤ 800)
    (hz : (wholeL (L ++ R)).size ≤ 1000000) : Calls Tryz.prog 188 #[pv a, pv b, .pointer (some ⟨bl, 0, none⟩)] w (RetKids S w (h + 1) (L ++ R)) := by
  obtain ⟨i0, hi, hz0, hz1, hz2⟩ := info_parts ptr_info16
  have k1 := (ka.hgt (by omega)).at'
  have k2 := (kb.hgt (by omega)).at'
  have c1 := below_any ka (by omega)
  obtain ⟨M, g, c, hM, rfl, -⟩ := kb.node
  have c2 : ∀ W, Below w.heap.size w W → Calls Tryz.prog 189 #[pv b] W (RetOwn W M) := fun W hW => below_node (S := S) ⟨hM.two, hM.eight, hM.cap, fun k hk => (hM.kids k hk).later hW, hM.row.on hW, hM.blk.onto hW⟩ (by omega)
  have h2 := hM.two
  have h8 := hM.eight
  cases M with
  | nil => exact absurd h2 (by simp)
  | cons x M =>
  obtain ⟨m, hm⟩ : ∃ m, M.length = m := ⟨_, rfl⟩
  have hm1 : 1 ≤ m := by rw [List.length_cons] at h2; omega
  have hm7 : m ≤ 7 := by rw [List.length_cons] at h8; omega
  have hML : flat (x :: M) = x.L ++ flat M := by simp [flat]
  have hk0 : ∀ k ∈ M, KnotW w (Off S w) h k.b k.L := fun k hk => hM.kids k (List.mem_cons_of_mem _ hk)
  have hpx : ∀ (W : World) (g' : Nat), PRow W g' 0 (ptrs (x :: M)) → W.cell? ⟨g', 0, none⟩ = some (pv x.b) ∧ PRow W g' 1 (ptrs M) := fun W g' hp => ⟨hp.2 0 (by rw [ptrs_len]; simp), hp.sub 1⟩
  have kx : KnotW w (Off S w) h x.b x.L := hM.kids _ List.mem_cons_self
  have hxz : (wholeL (L ++ x.L)).size ≤ 1000000 := by
    rw [hML, ← List.append_assoc, whole_app, ByteArray.size_append] at hz
    omega
  have hbl := World.block_lt_of_cell? w _ hbox
  have hih : ∀ (W : World), Below w.heap.size w W → Calls Tryz.prog 188 #[pv a, pv x.b, .pointer (some ⟨bl, 0, none⟩)] W (RetKids S W h (L ++ x.L)) := fun W hW => by
    have := ih S W a x.b ha h bl L x.L hn (hS.on hW.size) ((hW.cell hbl).trans hbox) (ka.later hW) (kx.later hW) (by omega) (by omega) hxz
    rwa [Nat.max_eq_right (by omega)] at this
  have hend := fun (w5 w6 : World) (r g5 cap N : Nat) (K2 : List Kid) => @lay_right_end S w w5 w6 h m r g5 cap N M K2 L (flat (x :: M)) x.L hk0 hm hML
  have hpl : (ptrs M).length = m := by rw [ptrs_len]; exact hm
  have hpl2 : (x :: M).length = m + 1 := by rw [List.length_cons, hm]
  obtain ⟨xb, hxb⟩ : ∃ xb, x.b = xb := ⟨_, rfl⟩
  rw [hxb] at hpx hih
  obtain ⟨u, hu⟩ : ∃ u : Int, ((h + 1 : Nat) : Int) = u := ⟨_, rfl⟩
  obtain ⟨v, hv⟩ : ∃ v : Int, (ha : Int) = v := ⟨_, rfl⟩
  have huv : v < u := by omega
  have huv2 : ¬ u < v := by omega
  rw [hv] at k1
  rw [hu] at k2
  have K1 := hid k1; have K2 := hid k2; have C1 := hid c1; have C2 := hid c2; have HI := hid hih; have HE := hid hend; have HM := hid hpl2; have HPL := hid hpl; have HPX := hid hpx; have HS := hid hS
  have HZ := hid hz; have HBX := hid hbox; have HBL := hid hbl
  have hh : h ≤ 900 := by omega
  clear k1 k2 c1 c2 hih hend hpl2 hpl hm hpx hML hk0 kx hxz hbl hbox hxb hu hv hS hM ka kb hz ih hn hlt hb8 h2 h8
  go_enter Tryz.func188, Tryz.ntmps188
  go_wp2_with fail
  refine C1.out.mono ?_; rintro e w1 ⟨a2, n2, c2, rfl, -, hb1⟩
  have HB1 := hid hb1
  clear hb1
  go_wp2_with fail
  refine (C2.out _ HB1.out).mono ?_; rintro e w2 ⟨v1, rfl, ho2, hb2⟩
  obtain ⟨g', c', rfl, hc', hg', hr1⟩ := own_row ho2 (by rw [HM.out]; omega)
  rw [HM.out] at hc' ⊢
  have HB2 := hid (HB1.out.trans (hb2.mono HB1.out.size)); have HD2 := hid (Below.refl w2.heap.size w2)
  have HG := hid (Nat.le_trans HB1.out.size hg'); have HPR := hid hr1
  clear ho2 hb2 hg' hr1
  go_wp2_with fail
  refine (K1.out _ HB2.out).mono ?_; rintro e w3 ⟨rfl, hb3⟩
  have HB3 := hid (HB2.out.trans (hb3.mono HB2.out.size)); have HD3 := hid (HD2.out.trans (hb3.mono HD2.out.size))
  clear hb3
  go_wp2_with fail
  refine (K2.out _ HB3.out).mono ?_; rintro e w4 ⟨rfl, hb4⟩
  have HB4 := hid (HB3.out.trans (hb4.mono HB3.out.size)); have HD4 := hid (HD3.out.trans (hb4.mono HD3.out.size))
  clear hb4
  go_wp2_with fail
  refine (K1.out _ HB4.out).mono ?_; rintro e w5 ⟨rfl, hb5⟩
  have HB5 := hid (HB4.out.trans (hb5.mono HB4.out.size)); have HD5 := hid (HD4.out.trans (hb5.mono HD4.out.size))
  clear hb5
  go_wp2_with fail
  refine (K2.out _ HB5.out).mono ?_; rintro e w6 ⟨rfl, hb6⟩
  have HB6 := hid (HB5.out.trans (hb6.mono HB5.out.size)); have HD6 := hid (HD5.out.trans (hb6.mono HD5.out.size))
  clear hb6
  go_wp2_with fail
  have q1 : w6.cell? ⟨g', 0, none⟩ = some (pv xb) := (HPX.out w6 g' (HPR.out.on HD6.out)).1
  have q2 : w6.drew.cell? ⟨g', 0, none⟩ = some (pv xb) := q1
  have b1 : m + 1 ≤ c' := by omega
  have b2 : ¬ c' = 1 := by omega
  have b3 : (0 : Int) < (m : Int) + 1 := by omega
  have b4 : (1 : Int) ≤ (m : Int) + 1 := by omega
  refine wp_region_held_drew (S := (fun w' : World => Below w.heap.size w w' ∧ w'.cell? ⟨bl, 0, none⟩ = some (layV bl))) (by kernel_rfl) ⟨HB6.out.drew, (HB6.out.cell (p := ⟨bl, 0, none⟩) HBL.out).trans HBX.out⟩ (fun hHeld => ?_)
  refine sqt 1 ?_
  try simp only [Act.put, sqp]
  refine sqt 2 ?_
  try simp only [Act.put, sqp]
  refine sqt 3 ?_
  try simp only [Act.put, sqp]
  refine sqt 6 ?_
  try simp only [Act.put, sqp]
  refine sqt 7 ?_
  try simp only [Act.put, sqp]
  refine sqt 0 ?_
  try simp only [Act.put, sqp]
  refine wpAnyH_ready (rs := [4]) (by kernel_rfl) (by simp) ?_
  refine AllReadyH.cons (by simp only [sqg]; rfl) (fun K hK => ?_) AllReadyH.nil
  go_simp
  refine hK.out _ _ ?_ (fun hHeld => ?_)
  · exact hHeld
  clear hK K
  try simp only [Act.put, sqp]
  refine wpAnyH_ready (rs := [5]) (by kernel_rfl) (by simp) ?_
  refine AllReadyH.cons (by simp only [sqg]; rfl) (fun K hK => ?_) AllReadyH.nil
  go_simp
  (go_at_call 188; refine (HI.out _ hHeld.1).mono ?_; rintro e w7 ⟨r, c5, X2, rfl, ho5, x1, x2, hf, hk5, hb5⟩; have HB7 := hid (hHeld.1.trans (hb5.mono hHeld.1.size)); have HRB := hid (Nat.le_trans hHeld.1.size (own_prow ho5 (by omega)).2.1); have HX5 := hid (own_base ho5 hHeld.1.size); have HY5 := hid (prow_news ((HPX.out w7 g' ((HPR.out.on HD6.out.drew).on hb5)).2)); have HF5 := hid hf; have HK5 := hid hk5; clear ho5 hf hk5 hb5)
  try go_wp2_with fail
  refine hK.out _ _ ?_ (fun hHeld => ?_)
  · exact ⟨HB7.out, (HB7.out.cell (p := ⟨bl, 0, none⟩) HBL.out).trans HBX.out⟩
  clear hK K
  try simp only [Act.put, sqp]
  have hsz5 : w.heap.size ≤ w7.heap.size := HB7.out.size
  refine wpAnyH_ready (rs := [8]) (by kernel_rfl) (by simp) ?_
  refine AllReadyH.cons (by simp only [sqg]; rfl) (fun K hK => ?_) AllReadyH.nil
  refine step_append_lies _ rfl (.tmp 55) (.tmp 57) 110 rfl w.heap.size 71 i0 (.pointer none) 1 8 Tryz.underlying110 hi hz0 hz1 hz2 rfl (by decide) (.slice (some ⟨r, 0, none⟩) X2.length c5) X2.length (ptrs X2) rfl HX5.out ⟨g', 1, none⟩ m (c' - 1) (ptrs M) rfl (by rw [HPL.out]; omega) HY5.out (one_ptrs _) (by omega) (by unfold maxLen; omega) (by omega) hsz5 _ rfl ?_
  intro g5 cap w6' hown' hgrow _ _
  have HB8 := hid (HB7.out.grown hgrow hsz5 (own_block HX5.out))
  have hJ := HE.out w7 w6' r g5 cap (X2.length + m) X2 HB7.out HRB.out HK5.out HF5.out rfl (by omega) hh HZ.out hown' hgrow
  have ho := over_any (c := cap) (HS.out.on HB8.out.size) hJ.1 (by omega) (by omega) (own_prow hown' (by omega)).1
  rw [hJ.2] at ho
  have HO := hid ho
  clear hown' hgrow hJ ho
  refine hK.out _ _ ?_ (fun hHeld => ?_)
  · exact ⟨HB8.out, (HB8.out.cell (p := ⟨bl, 0, none⟩) HBL.out).trans HBX.out⟩
  clear hK K
  try simp only [Act.put, sqp]
  refine wpAnyH_ready (rs := [9]) (by kernel_rfl) (by simp) ?_
  refine AllReadyH.cons (by simp only [sqg]; rfl) (fun K hK => ?_) AllReadyH.nil
  go_simp
  (go_at_call 190; refine HO.out.mono ?_; intro e w9 hr; have HR := hid (hr.from HB8.out); obtain ⟨r7, c7, X7, rfl, -, -, -, -, -, hb7⟩ := hr; have HB9 := hid (HB8.out.trans (hb7.mono HB8.out.size)); clear hb7)
  try go_wp2_with fail
  refine hK.out _ _ ?_ (fun hHeld => ?_)
  · exact ⟨HB9.out, (HB9.out.cell (p := ⟨bl, 0, none⟩) HBL.out).trans HBX.out⟩
  clear hK K
  try simp only [Act.put, sqp]
  refine sqt 10 ?_
  try simp only [Act.put, sqp]
  refine wpAnyH_done (by kernel_rfl) ?_ _
  go_wp2_with fail
  go_ret
  exact HR.out
set_option maxRecDepth 100000 in
set_option maxHeartbeats 1600000 in
theorem lay_even {S : List Nat} {w : World} {a b h bl : Nat} {L R : List ByteArray} (hS : InS S w) (ka : KnotW w (Off S w) (h + 1) a L) (kb : KnotW w (Off S w) (h + 1) b R) (hh8 : h + 1 ≤ 800)
    (hz : (wholeL (L ++ R)).size ≤ 1000000) : Calls Tryz.prog 188 #[pv a, pv b, .pointer (some ⟨bl, 0, none⟩)] w (RetKids S w (h + 1) (L ++ R)) := by
  obtain ⟨i0, hi, hz0, hz1, hz2⟩ := info_parts ptr_info16
  have k1 := (ka.hgt (by omega)).at'
  have k2 := (kb.hgt (by omega)).at'
  obtain ⟨M1, g1, x1, hM1, rfl, -⟩ := ka.node
  obtain ⟨M2, g2, x2, hM2, rfl, -⟩ := kb.node
  have c1 := below_node hM1 (by omega)
  have c2 : ∀ W, Below w.heap.size w W → Calls Tryz.prog 189 #[pv b] W (RetOwn W M2) := fun W hW => below_node (S := S) ⟨hM2.two, hM2.eight, hM2.cap, fun k hk => (hM2.kids k hk).later hW, hM2.row.on hW, hM2.blk.onto hW⟩ (by omega)
  have hend : ∀ (w5 w6 : World) (g' g5 cap N : Nat), Below w.heap.size w w5 → w.heap.size ≤ g' → M1.length + M2.length = N → 0 < N → w6.ownsRow w.heap.size 71 1 (.slice (some ⟨g5, 0, none⟩) N cap) N (ptrs M1 ++ ptrs M2) → w5.grownBy w6 (some g') → JoinP w6 (Off S w6) g5 0 N h (M1 ++ M2) := fun w5 w6 g' g5 cap N hb hg hN h0 ho hgr =>
    app_join (fun k hk => (hM1.kids k hk).beside hb hg) (fun k hk => (hM2.kids k hk).beside hb hg) hgr ho hN h0 (by omega) (by rw [flat_app]; exact hz)
  have hf : flat (M1 ++ M2) = flat M1 ++ flat M2 := flat_app M1 M2
  have p2 := hM1.two
  have p8 := hM1.eight
  have q2 := hM2.two
  have q8 := hM2.eight
  obtain ⟨n, hn⟩ : ∃ n, M1.length = n := ⟨_, rfl⟩
  obtain ⟨m, hm⟩ : ∃ m, M2.length = m := ⟨_, rfl⟩
  rw [hn] at p2 p8
  rw [hm] at q2 q8
  rw [hn, hm] at hend
  obtain ⟨u, hu⟩ : ∃ u : Int, ((h + 1 : Nat) : Int) = u := ⟨_, rfl⟩
  rw [hu] at k1 k2
  have K1 := hid k1; have K2 := hid k2; have C1 := hid c1; have C2 := hid c2; have HE := hid hend; have HN := hid hn; have HM := hid hm; have HS := hid hS; have HF := hid hf
  have hh : h ≤ 900 := by omega
  clear k1 k2 c1 c2 hend hf hn hm hu hS hM1 hM2 ka kb hz hh8
  go_enter Tryz.func188, Tryz.ntmps188
  go_wp2_with fail
  refine C1.out.mono ?_; rintro e w1 ⟨v1, rfl, ho1, hb1⟩
  obtain ⟨ga, ca, rfl, hca, hga, -⟩ := own_row ho1 (by rw [HN.out]; omega)
  rw [HN.out] at ho1 hca ⊢
  have HO1 := hid ho1; have HB1 := hid hb1; have HG := hid hga
  clear ho1 hb1 hga
  go_wp2_with fail
  refine (C2.out _ HB1.out).mono ?_; rintro e w2 ⟨v2, rfl, ho2, hb2⟩
  obtain ⟨gb, cb, rfl, hcb, hgb, hr2⟩ := own_row ho2 (by rw [HM.out]; omega)
  rw [HM.out] at hcb ⊢
  have HB2 := hid (HB1.out.trans (hb2.mono HB1.out.size)); have HD2 := hid hb2; have HPR := hid hr2
  have HXX := hid (Below.refl w2.heap.size w2)
  clear ho2 hb2 hgb hr2
  go_wp2_with fail
  refine (K1.out _ HB2.out).mono ?_; rintro e w3 ⟨rfl, hb3⟩
  have HB3 := hid (HB2.out.trans (hb3.mono HB2.out.size)); have HD3 := hid (HD2.out.trans (hb3.mono HD2.out.size)); have HX3 := hid (HXX.out.trans (hb3.mono HXX.out.size))
  clear hb3
  go_wp2_with fail
  refine (K2.out _ HB3.out).mono ?_; rintro e w4 ⟨rfl, hb4⟩
  have HB4 := hid (HB3.out.trans (hb4.mono HB3.out.size)); have HD4 := hid (HD3.out.trans (hb4.mono HD3.out.size)); have HX4 := hid (HX3.out.trans (hb4.mono HX3.out.size))
  clear hb4
  go_wp2_with fail
  refine (K1.out _ HB4.out).mono ?_; rintro e w5 ⟨rfl, hb5⟩
  have HB5 := hid (HB4.out.trans (hb5.mono HB4.out.size)); have HD5 := hid (HD4.out.trans (hb5.mono HD4.out.size)); have HX5 := hid (HX4.out.trans (hb5.mono HX4.out.size))
  clear hb5
  go_wp2_with fail
  refine (K2.out _ HB5.out).mono ?_; rintro e w6 ⟨rfl, hb6⟩
  have HB6 := hid (HB5.out.trans (hb6.mono HB5.out.size)); have HD6 := hid (HD5.out.trans (hb6.mono HD5.out.size)); have HX6 := hid (HX5.out.trans (hb6.mono HX5.out.size))
  clear hb6
  have hown := own_on HO1.out HD6.out
  have hsz : w.heap.size ≤ w6.heap.size := HB6.out.size
  have HW := hid (prow_news (HPR.out.on HX6.out))
  go_wp2_with (at_builtin; refine wpList_append_own _ rfl _ _ 110 rfl w.heap.size 71 i0 (.pointer none) 1 8 Tryz.underlying110 hi hz0 hz1 hz2 rfl (by decide) _ _ _ rfl hown ⟨gb, 0, none⟩ m cb (ptrs M2) rfl (by rw [ptrs_len, HM.out]; omega) HW.out (one_ptrs M2) (by unfold maxLen; omega) (by omega) hsz ?_; intro v' w7 hown' hgrow _)
  obtain ⟨g5, cap, rfl, hcap, -, -⟩ := own_row hown' (by omega)
  have HB7 := hid (HB6.out.grown hgrow hsz (own_block hown))
  have hJ := HE.out w6 w7 ga g5 cap (n + m) HB6.out HG.out rfl (by omega) hown' hgrow
  have ho := over_any (c := cap) (HS.out.on HB7.out.size) hJ (by omega) (by omega) hcap
  rw [HF.out] at ho
  have HO := hid ho
  clear hown' hgrow hJ ho hown
  go_wp2_with fail
  refine HO.out.mono ?_; intro e w9 hr
  have HR := hid (hr.from HB7.out)
  obtain ⟨r7, c7, X7, rfl, -, -, -, -, -, hb7⟩ := hr
  clear hb7
  go_wp2
  go_ret
  exact HR.out
theorem lay_any (n : Nat) : LayC n := by
  induction n with
  | zero => exact lay_zero
  | succ n ih =>
    intro S w a b ha hb bl L R hn hS hbox ka kb ha8 hb8 hz
    rcases Nat.lt_trichotomy ha hb with h | h | h
    · obtain ⟨h', rfl⟩ : ∃ h', hb = h' + 1 := ⟨hb - 1, by omega⟩
      rw [Nat.max_eq_right (by omega)]
      exact lay_right ih (by omega) hS hbox ka kb h hb8 hz
    · subst h
      cases ha with
      | zero => exact lay_zero S w a b 0 0 bl L R (by omega) hS hbox ka kb ha8 hb8 hz
      | succ h' => rw [Nat.max_self]; exact lay_even hS ka kb ha8 hz
    · obtain ⟨h', rfl⟩ : ∃ h', ha = h' + 1 := ⟨ha - 1, by omega⟩
      rw [Nat.max_eq_left (by omega)]
      exact lay_left ih (by omega) hS hbox ka kb h ha8 hz
end Go.Proofs.YtfiobemeogaaiaaGreat
