/-
  Contracts of Cut (layer 15): what holds between two pieces; the document's loop.
-/
import Derived.Test.YtkicnpomamhlbaaChunkJoin
import Derived.Laws.MakeOwn
namespace Go.Proofs.Ytkicnpomamhlbaa
open Go.RowKit
set_option linter.unusedVariables false

/-- Between two pieces: those that are cut lie in a row of the call's own; what is left is cut behind them. -/
structure CutI (s : ByteArray) (w : World) (cur : ByteArray) (L : List ByteArray) (v : Value) (wr : World) : Prop where
  own : wr.ownsRow w.heap.size 9 1 v L.length (strVs L)
  bel : Below w.heap.size w wr
  val : vld cur.data.toList
  len : L.length + cur.size ≤ s.size
  go : ∀ L', Ctd cur L' → Ctd s (L ++ L')
  prev : ∀ x ∈ L, x.size ≤ 1000000
  two : L = [] ∨ ∃ L0 p, L = L0 ++ [p] ∧ 16 < p.size + cur.size ∧ 0 < cur.size
theorem CutI.start {s : ByteArray} {w wr : World} (hv : vld s.data.toList) (hb : Below w.heap.size w wr) : CutI s w s [] (.slice none 0 0) wr :=
  ⟨World.ownsRow_nil _ _ _ _, hb, hv, by simp, fun L' h => h, fun x h => absurd h (by simp), .inl rfl⟩
theorem CutI.step {s cur : ByteArray} {w wr w2 : World} {L : List ByteArray} {v v' : Value} (h : CutI s w cur L v wr) (h16 : 16 < cur.size)
    (hown : w2.ownsRow w.heap.size 9 1 v' (L.length + 1) (strVs L ++ [.string (cur.extract 0 (cutN cur))])) (hb : Below w.heap.size w w2) :
    CutI s w (cur.extract (cutN cur) cur.size) (L ++ [cur.extract 0 (cutN cur)]) v' w2 := by
  have hn := cutN_le cur
  have hn2 := cutN_ge cur h.val h16
  have hp := piece_vld cur (cutN cur) h.val (cutN_edge cur)
  have z1 := piece_size cur (cutN cur) (by omega)
  have z2 := rest_size cur (cutN cur)
  have hl := h.len
  refine ⟨?_, hb, hp.2, ?_, fun L' h' => ?_, fun x hx => ?_, .inr ⟨L, _, rfl, by omega, by omega⟩⟩
  · rw [strVs_one, List.length_append]; exact hown
  · simp only [List.length_append, List.length_cons, List.length_nil]; omega
  · rw [List.append_assoc]; exact h.go _ (.more h16 h')
  · rcases List.mem_append.1 hx with g | g
    · exact h.prev x g
    · simp only [List.mem_singleton] at g; subst g; omega
theorem CutI.kept {s cur : ByteArray} {w wr w2 : World} {L : List ByteArray} {v : Value} (h : CutI s w cur L v wr) (hb : Below wr.heap.size wr w2) : CutI s w cur L v w2 :=
  ⟨own_on h.own hb, h.bel.trans (hb.mono h.bel.size), h.val, h.len, h.go, h.prev, h.two⟩
/-- A row of pieces is answered. -/
def RetCut (s : ByteArray) (w : World) (e : Ending) (w' : World) : Prop := ∃ L, CutP s L ∧ L.length ≤ s.size ∧ RetStrs w L e w'
theorem RetCut.drewN {s : ByteArray} {w w' : World} {e : Ending} (h : RetCut s w e w') (n : Nat) : RetCut s w e (w'.drewN n) := by
  obtain ⟨L, h1, h2, a, c, h3, h4, h5⟩ := h
  exact ⟨L, h1, h2, a, c, h3, h4, drewN_below h5 n⟩
theorem ret_strs {w w' : World} {v : Value} {L : List ByteArray} (h : w'.ownsRow w.heap.size 9 1 v L.length (strVs L)) (hb : Below w.heap.size w w') : RetStrs w L (.returned v) w' := by
  obtain ⟨a, c, rfl, hs⟩ := own_strs h
  exact ⟨a, c, rfl, hs.weak fun _ h => h.2, hb⟩
theorem CutI.none {s cur : ByteArray} {w wr : World} {L : List ByteArray} {v : Value} (hs : vld s.data.toList) (h : CutI s w cur L v wr) (h0 : cur.size = 0) : RetCut s w (.returned v) wr := by
  have hg := h.go [] (.none h0)
  rw [List.append_nil] at hg
  exact ⟨L, .inl ⟨hs, hg⟩, by have := h.len; omega, ret_strs h.own h.bel⟩
theorem CutI.last {s cur : ByteArray} {w wr w2 : World} {L : List ByteArray} {v v' : Value} (hs : vld s.data.toList) (h : CutI s w cur L v wr) (h0 : 0 < cur.size) (h1 : cur.size ≤ 16)
    (hown : w2.ownsRow w.heap.size 9 1 v' (L.length + 1) (strVs L ++ [.string cur])) (hb : Below w.heap.size w w2) : RetCut s w (.returned v') w2 := by
  have hg := h.go [cur] (.last h0 h1)
  refine ⟨L ++ [cur], .inl ⟨hs, hg⟩, by have := h.len; simp only [List.length_append, List.length_cons, List.length_nil]; omega, ret_strs ?_ hb⟩
  rw [strVs_one, List.length_append]; exact hown
theorem ret_cut_no {s : ByteArray} {w w' : World} (h : ¬ vld s.data.toList) (hb : Below w.heap.size w w') : RetCut s w (.returned (.slice none 0 0)) w' :=
  ⟨[], .inr ⟨h, rfl⟩, Nat.zero_le _, ret_nil hb⟩

set_option maxRecDepth 100000 in
set_option maxHeartbeats 1600000 in
theorem rcut_any (s : ByteArray) (hs : s.size ≤ 1000000) (w : World) :
    Calls Try.prog 11 #[.string s] w (RetCut s w) := by
  obtain ⟨i0, hi, hz0, hz1, hz2⟩ := info_parts string_info
  have hv := rvalid_any s (by omega)
  by_cases hb : vldB s.data.toList = true
  · rw [hb] at hv
    have HV := Lib.hid hv; have HVL := Lib.hid ((vldB_iff _).1 hb)
    clear hv hb
    go_enter Try.func11, Try.ntmps11
    go_wp2_with fail
    refine (HV.out _).mono ?_; rintro e w1 ⟨rfl, hb1⟩
    have HI := Lib.hid (CutI.start HVL.out hb1)
    clear hb1
    go_wp2
    go_loopw [0, 3] (fun t v wr => ∃ (cur : ByteArray) (L : List ByteArray) (u : Value), t = .string cur ∧ u = v ∧ CutI s w cur L u wr) (fun t _ _ => (match t with | .string x => x.size | _ => 0))
    case atStart => exact ⟨s, [], _, rfl, rfl, HI.out⟩
    case round =>
      obtain ⟨cur, L, v, rfl, rfl, hc⟩ := hrel
      have hlen := hc.len
      by_cases h16 : 16 < cur.size
      · have hb := rback_any cur (by omega) 16
        have e : backI cur.data.toList 16 = cutN cur := by
          rw [show (16 : Int) = ((16 : Nat) : Int) from rfl, backI_nat _ _ (by simp; omega)]
          rfl
        rw [e] at hb
        have hn := cutN_le cur
        have hn2 := cutN_ge cur hc.val h16
        have HST := Lib.hid (fun v' w2 => @CutI.step s cur w wr w2 L v v' hc h16)
        obtain ⟨n, hnn⟩ : ∃ n, cutN cur = n := ⟨_, rfl⟩
        rw [hnn] at hb hn hn2 HST
        obtain ⟨N, hN⟩ : ∃ N, L.length = N := ⟨_, rfl⟩
        have hown := hc.own
        rw [hN] at HST hlen hown
        have HC := Lib.hid hc; have HB := Lib.hid hb
        have hsz : w.heap.size ≤ wr.heap.size := hc.bel.size
        have i16 : (16 : Int) < (cur.size : Int) := by omega
        have h3 : n ≤ cur.size := by omega
        clear hb hnn e hc hN
        go_wp2_with fail
        refine (HB.out _).mono ?_; rintro e w' ⟨rfl, rfl⟩
        go_wp2_with (at_builtin; refine wpList_append_own _ rfl _ _ 26 rfl w.heap.size 9 i0 _ 1 16 Try.underlying26 hi hz0 hz1 hz2 rfl (by decide) _ _ _ rfl (hown.alloc _) ⟨wr.heap.size, 0, none⟩ 1 1 [.string (cur.extract 0 n)] rfl rfl (news_one _ _ _) (by intro u hu; simp at hu; subst hu; rfl) (by unfold maxLen; omega) (by omega) (Nat.le_trans hsz (by simp)) ?_; intro v' w2 hown' hgrow _)
        have hb3 : Below w.heap.size w w2 := (HC.out.bel.alloc hsz _).grown hgrow (Nat.le_trans hsz (by simp)) (own_block hown)
        have HN := Lib.hid (HST.out v' w2 hown' hb3)
        have HZ := Lib.hid (show (cur.extract n cur.size).size < cur.size by simp; omega)
        clear hown' hgrow hown hb3
        go_wp2
        go_roundw
        case rel => exact ⟨_, _, _, rfl, rfl, HN.out⟩
        case measure => exact HZ.out
      · by_cases h0 : cur.size = 0
        · obtain rfl := empty_yes h0
          have hL : L = [] := by
            rcases hc.two with h | ⟨_, _, _, _, h⟩
            · exact h
            · omega
          subst hL
          have HR := Lib.hid (hc.none HVL.out h0)
          obtain ⟨a, c, rfl, hst⟩ := own_strs (l := []) hc.own
          clear hc hst hlen h16 h0
          go_wp2
          go_quiet (fail)
          go_wp2
          go_ret
          exact HR.out.drewN _
        · have t1 := toList_ne (s := cur) (by omega)
          have t2 := toList_isEmpty (s := cur) (by omega)
          have HST := Lib.hid (fun v' w2 => @CutI.last s cur w wr w2 L v v' HVL.out hc (by omega) (by omega))
          obtain ⟨N, hN⟩ : ∃ N, L.length = N := ⟨_, rfl⟩
          have hown := hc.own
          rw [hN] at HST hlen hown
          have HC := Lib.hid hc; have HNL := Lib.hid hN
          have hsz : w.heap.size ≤ wr.heap.size := hc.bel.size
          have i16 : ¬ (16 : Int) < (cur.size : Int) := by omega
          clear hc hN h0
          go_wp2_with (at_builtin; refine wpList_append_own _ rfl _ _ 26 rfl w.heap.size 9 i0 _ 1 16 Try.underlying26 hi hz0 hz1 hz2 rfl (by decide) _ _ _ rfl (hown.alloc _) ⟨wr.heap.size, 0, none⟩ 1 1 [.string cur] rfl rfl (news_one _ _ _) (by intro u hu; simp at hu; subst hu; rfl) (by unfold maxLen; omega) (by omega) (Nat.le_trans hsz (by simp)) ?_; intro v' w2 hown' hgrow _)
          have hb3 : Below w.heap.size w w2 := (HC.out.bel.alloc hsz _).grown hgrow (Nat.le_trans hsz (by simp)) (own_block hown)
          have HR := Lib.hid (HST.out v' w2 hown' hb3)
          obtain ⟨q, hq⟩ : ∃ q, N + 1 = q := ⟨_, rfl⟩
          have hlL : (L ++ [cur]).length = q := by rw [List.length_append, HNL.out, ← hq]; rfl
          have hown2 : w2.ownsRow w.heap.size 9 1 v' (L ++ [cur]).length (strVs (L ++ [cur])) := by rw [hlL, strVs_one, ← hq]; exact hown'
          obtain ⟨a, c, hv', hst⟩ := own_strs hown2
          rw [hlL] at hv'
          subst hv'
          clear hown' hown2 hgrow hown hb3 HST
          rcases HC.out.two with hL | ⟨L0, p, hL, hp1, hp2⟩
          · subst hL
            have hq1 : q = 1 := by have := HNL.out; simp at this; omega
            have b1 : ¬ (1 : Int) < (q : Int) := by omega
            have b2 : decide (1 < q) = false := decide_eq_false (by omega)
            have b3 : decide ((1 : Int) < (q : Int)) = false := decide_eq_false b1
            clear hq hq1 hlL hst HC
            go_wp2
            go_quiet (fail)
            go_wp2
            go_ret
            exact HR.out.drewN _
          · have hNm : L0.length + 1 = N := by rw [← HNL.out, hL]; simp
            obtain ⟨m, hm⟩ : ∃ m, L0.length = m := ⟨_, rfl⟩
            rw [hm] at hNm
            obtain ⟨ad, rfl, -, r0⟩ := hst m (by omega)
            obtain ⟨ad2, had, -, r1⟩ := hst N (by omega)
            obtain rfl : ad = ad2 := by cases had; rfl
            have x0 : (L ++ [cur])[m]'(by omega) = p := by subst hL hm; simp
            have x1 : (L ++ [cur])[N]'(by omega) = cur := by have := HNL.out; subst this; simp
            rw [x0] at r0
            rw [x1] at r1
            have hpz : p.size ≤ 1000000 := HC.out.prev p (by rw [hL]; simp)
            have e1 : IntKind.i64.wrap ((q : Int) - 2) = (m : Int) := by rw [show (q : Int) - 2 = (m : Int) by omega]; exact IntWalk.i64_in _ (by omega)
            have e2 : IntKind.i64.wrap ((q : Int) - 1) = (N : Int) := by rw [show (q : Int) - 1 = (N : Int) by omega]; exact IntWalk.i64_in _ (by omega)
            have e3 : IntKind.i64.wrap ((p.size : Int) + (cur.size : Int)) = (p.size : Int) + (cur.size : Int) := IntWalk.i64_in _ (by omega)
            have b1 : (1 : Int) < (q : Int) := by omega
            have b2 : (0 : Int) ≤ (m : Int) := by omega
            have b3 : (m : Int) < (q : Int) := by omega
            have b4 : (0 : Int) ≤ (N : Int) := by omega
            have b5 : (N : Int) < (q : Int) := by omega
            have b6 : ¬ (p.size : Int) + (cur.size : Int) ≤ 16 := by omega
            clear hNm hm had x0 x1 hpz hst hq hlL hL hp1 hp2 HC HNL
            go_wp2
            go_quiet (fail)
            clear e1 e2 e3
            go_wp2
            go_ret
            exact HR.out.drewN _
  · have hv2 : ¬ vld s.data.toList := fun h => hb ((vldB_iff _).2 h)
    rw [Bool.eq_false_iff.2 hb] at hv
    have HV := Lib.hid hv; have HNV := Lib.hid hv2
    clear hv hb hv2
    go_enter Try.func11, Try.ntmps11
    go_wp2_with fail
    refine (HV.out _).mono ?_; rintro e w1 ⟨rfl, hb1⟩
    go_wp2
    go_ret
    exact ret_cut_no HNV.out hb1
end Go.Proofs.Ytkicnpomamhlbaa
