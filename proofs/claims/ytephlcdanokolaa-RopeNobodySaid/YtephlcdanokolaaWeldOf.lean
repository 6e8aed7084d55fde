/-
  Contract of Of: the tree of a text.
-/
import Derived.Test.YtephlcdanokolaaWeldCut
import Derived.Test.YtephlcdanokolaaChunkGoto
namespace Go.Proofs.Ytephlcdanokolaa
open Go.RowKit
set_option linter.unusedVariables false
set_option linter.unusedSimpArgs false

theorem own_beyond {w : World} {base b n size : Nat} {t T : TypeId} {v : Value} {xs : List Value} {cs : Array Value} (h : w.ownsRow base t size v n xs) (hb : Blk w b cs T) (hT : T ≠ t) : some b ≠ v.ownBlock := by
  intro e
  rcases h.2 with ⟨rfl, -⟩ | ⟨g, cap, cur, rfl, -, hB, -⟩
  · simp [Value.ownBlock] at e
  · simp [Value.ownBlock] at e
    subst e
    unfold Blk at hb
    rw [hB] at hb
    simp at hb
    exact hT hb.2.symm
/-- Leaves under way. -/
structure OfI (w : World) (M : List ByteArray) (v : Value) (K : List Kid) (wr : World) : Prop where
  own : wr.ownsRow w.heap.size 44 1 v M.length (ptrs K)
  fl : flat K = M
  len : K.length = M.length
  kids : ∀ x ∈ K, KnotW wr (Since w.heap.size wr) 0 x.b x.L
  bel : Below w.heap.size w wr
theorem OfI.grown {w wr w1 wm : World} {M : List ByteArray} {v v' : Value} {K : List Kid} {s : ByteArray} {b : Nat} {o1 : Obj} (I : OfI w M v K wr) (hf : fitsP s)
    (hb1 : Below wr.heap.size wr w1) (hlb : w.heap.size ≤ b) (hB : Blk w1 b (kcs 1 s s s (.slice none 0 0)) 89)
    (h1 : wm.ownsRow w.heap.size 44 1 v' (M.length + 1) (ptrs K ++ [pv b])) (g1 : (w1.alloc o1).grownBy wm v.ownBlock) :
    OfI w (M ++ [s]) v' (K ++ [⟨b, [s]⟩]) wm := by
  have hsz := I.bel.size
  have hs1 := hb1.size
  have e1 := g1.size
  simp at e1
  have q1 := own_on I.own hb1
  have hbel : Below w.heap.size w wm := ((I.bel.trans (hb1.mono hsz)).alloc (by omega) o1).grown g1 (by simp; omega) (own_block q1)
  have step : ∀ {x : Nat} {L : List ByteArray}, KnotW w1 (Since w.heap.size w1) 0 x L → KnotW wm (Since w.heap.size wm) 0 x L := by
    intro x L hx
    obtain ⟨⟨hxo, hxl⟩, s', e, hf', hxB⟩ := hx
    have k1 : wm.heap[x]? = w1.heap[x]? := (g1.block x (by simp; omega) (own_beyond (q1.alloc o1) (hxB.alloc o1) (by decide))).trans (Below.heap_alloc w1 o1 x hxl)
    exact ⟨⟨hxo, by omega⟩, s', e, hf', k1.trans hxB⟩
  refine ⟨?_, by rw [flat_app, flat_one, I.fl], by rw [List.length_append, List.length_append, I.len]; rfl, fun x hx => ?_, hbel⟩
  · rw [ptrs_one, List.length_append]; exact h1
  · rcases List.mem_append.1 hx with q | q
    · exact step (((I.kids x q).below hb1 fun i hi => hi.2).weak fun i hi => ⟨hi.1, Nat.lt_of_lt_of_le hi.2 hs1⟩)
    · rw [List.mem_singleton.1 q]
      exact step ⟨⟨hlb, hB.lt⟩, s, rfl, hf, hB⟩
/-- The tree of a text is answered. -/
def RetOf (s : ByteArray) (w : World) (e : Ending) (w' : World) : Prop := ∃ p L, e = .returned (.pointer p) ∧ Tr w' [] p L ∧ TightP L ∧ (vld s.data.toList → wholeL L = s) ∧ (¬ vld s.data.toList → p = none) ∧ Below w.heap.size w w'

set_option maxRecDepth 100000 in
set_option maxHeartbeats 1600000 in
theorem of_any (s : ByteArray) (hs : s.size ≤ 5000) (w : World) : Calls Try.prog 46 #[.string s] w (RetOf s w) := by
  obtain ⟨i0, hi, hz0, hz1, hz2⟩ := info_parts ptr_info16
  have cc := cut_any s (by omega) w
  have CC := Lib.hid cc; have HS := Lib.hid hs
  clear cc hs
  go_enter Try.func46, Try.ntmps46
  go_wp2_with fail
  refine CC.out.mono ?_; rintro e w1 ⟨L, hL, -, a, c, rfl, hst, hb1⟩
  have hT : TightP L ∧ (vld s.data.toList → wholeL L = s) ∧ (¬ vld s.data.toList → L = []) := by
    rcases hL with ⟨v, h⟩ | ⟨v, h⟩
    · exact ⟨(ctd_tight h v).1, fun _ => ctd_whole h, fun g => absurd v g⟩
    · subst h; exact ⟨tight_nil, fun g => absurd g v, fun _ => rfl⟩
  have hln : L.length ≤ 600 := by
    have h1 := tight_len hT.1
    have h2 : (wholeL L).size ≤ 5000 := by
      by_cases v : vld s.data.toList
      · rw [hT.2.1 v]; exact HS.out
      · rw [hT.2.2 v]; exact Nat.zero_le _
    omega
  obtain ⟨n, hn⟩ : ∃ n, L.length = n := ⟨_, rfl⟩
  rw [hn] at hln ⊢
  have HN := Lib.hid hn; have HT := Lib.hid hT; have HST := Lib.hid hst; have HB1 := Lib.hid hb1
  clear hn hT hst hb1 hL
  go_wp2
  go_loopw [3, 9] (fun u i wr => ∃ (k : Nat) (v : Value) (K : List Kid), k ≤ n ∧ i = .int .i64 k ∧ v = u ∧ OfI w1 (L.take k) v K wr) (fun _ i _ => n - (intOf i).toNat)
  case atStart => exact ⟨0, _, [], Nat.zero_le _, rfl, rfl, World.ownsRow_nil _ _ _ _, rfl, rfl, fun x hx => absurd hx (by simp), Below.refl _ _⟩
  case round =>
    obtain ⟨k, v, K, hk, rfl, rfl, hI⟩ := hrel
    by_cases hlt : k < n
    · have hkl : k < L.length := by rw [HN.out]; exact hlt
      obtain ⟨ad, rfl, hab, q0⟩ := (HST.out.on hI.bel) k hkl
      have hx := tight_fits HT.out.1 L[k] (List.getElem_mem hkl)
      have hst := List.take_succ_eq_append_getElem hkl
      obtain ⟨x, hxx⟩ : ∃ x, L[k] = x := ⟨_, rfl⟩
      rw [hxx] at q0 hx hst
      have cl := leaf_yes x (by have := hx.2.1; unfold maxLen; omega) ((fitsB_iff x).2 hx)
      have o1 := hI.own
      obtain ⟨M, hM⟩ : ∃ M, L.take k = M := ⟨_, rfl⟩
      rw [hM] at hI o1 hst
      obtain ⟨N, hN⟩ : ∃ N, M.length = N := ⟨_, rfl⟩
      have hN8 : N ≤ 600 := by rw [← hN, ← hM, List.length_take]; omega
      have HG := Lib.hid (fun b o1 w2 wm v' => @OfI.grown w1 wr w2 wm M v v' K x b o1 hI hx)
      rw [hN] at o1 HG
      have hsz : w1.heap.size ≤ wr.heap.size := hI.bel.size
      have HI := Lib.hid hI; have CL := Lib.hid cl; have O1 := Lib.hid o1; have HX := Lib.hid hst
      have b1 : (k : Int) < (n : Int) := by omega
      have b2 : (0 : Int) ≤ (k : Int) := by omega
      clear hI cl o1 hst hM hN hab hxx hx hkl
      go_wp2_with fail
      refine (CL.out wr).mono ?_; rintro e w2 ⟨bn, rfl, hbn, hB, hb3⟩
      have HLB := Lib.hid (Nat.le_trans hsz hbn)
      have HX2 := Lib.hid hb3
      have p1 := own_on O1.out hb3
      have hs2 : w1.heap.size ≤ w2.heap.size := Nat.le_trans hsz hb3.size
      have HBN := Lib.hid hB
      clear hbn hB hb3
      go_wp2_with (at_builtin; refine wpList_append_own _ rfl _ _ 75 rfl w1.heap.size 44 i0 (.pointer none) 1 8 Try.underlying75 hi hz0 hz1 hz2 rfl (by decide) _ _ _ rfl (p1.alloc _) ⟨w2.heap.size, 0, none⟩ 1 1 [pv bn] rfl rfl (news_one _ _ _) (one_cell _ rfl) (by unfold maxLen; omega) (by omega) (Nat.le_trans hs2 (by simp)) ?_; intro v' wm ho1 hg1 _)
      have HNX := Lib.hid (HG.out bn _ w2 wm v' HX2.out HLB.out HBN.out ho1 hg1)
      rw [← HX.out] at HNX
      clear ho1 hg1 p1
      go_wp2
      go_roundw
      case rel => exact ⟨k + 1, _, _, by omega, by go_num, rfl, HNX.out⟩
      case measure => simp [intOf]; omega
    · obtain rfl : k = n := by omega
      have e : L.take k = L := List.take_of_length_le (by rw [HN.out]; exact Nat.le_refl _)
      rw [e] at hI
      have ho := hI.own
      rw [HN.out] at ho
      have HEND := Lib.hid (fun W p (hp : Tr W [] p L) (hb : Below wr.heap.size wr W) => (show RetOf s w (.returned (.pointer p)) W from ⟨p, L, rfl, hp, HT.out.1, HT.out.2.1, fun hv => by
        rcases hp with ⟨h, -⟩ | ⟨b, h, -, kk⟩
        · exact h
        · exact absurd (HT.out.2.2 hv) kk.ne, HB1.out.trans ((hI.bel.trans (hb.mono hI.bel.size)).mono HB1.out.size)⟩))
      rcases Nat.eq_zero_or_pos k with rfl | h0
      · have hL0 : L = [] := List.eq_nil_of_length_eq_zero HN.out
        subst hL0
        have hv : ∃ a c, v = .slice a 0 c := by
          rcases ho.2 with ⟨rfl, -⟩ | ⟨g, cap, cur, rfl, -⟩
          · exact ⟨none, 0, rfl⟩
          · exact ⟨_, _, rfl⟩
        obtain ⟨a', c', rfl⟩ := hv
        have cu := up_zero (a := a') (c := c') wr
        have CU := Lib.hid cu
        clear cu hI ho e
        go_wp2_with fail
        refine CU.out.mono ?_; rintro e w2 ⟨rfl, hb2⟩
        have HR := Lib.hid (HEND.out w2 none (.inl ⟨rfl, rfl⟩) hb2)
        clear hb2
        go_wp2
        go_ret
        exact HR.out
      · obtain ⟨g, c', rfl, hc, hg, hr⟩ := own_row ho h0
        have hlen := hI.len
        rw [HN.out] at hlen
        have cu := up_yes (lo := w1.heap.size) (h := 0) (K := K) (n := k) (c := c') hI.bel.size ⟨hlen, hr, hI.kids, fun i hi => hi.2, by decide, by rw [hI.fl]; have := whole_size (tight_fits HT.out.1); rw [HN.out] at this; omega⟩ h0 (by omega) hc
        rw [hI.fl] at cu
        have CU := Lib.hid cu
        clear cu hI ho e hr hg hlen
        go_wp2_with fail
        refine CU.out.mono ?_; rintro e w2 ⟨b, rfl, hk, hb2⟩
        have HR := Lib.hid (HEND.out w2 _ (.inr ⟨b, _, rfl, hk.weak fun i hi => ⟨hi.2, by simp⟩⟩) hb2)
        clear hb2 hk
        go_wp2
        go_ret
        exact HR.out
end Go.Proofs.Ytephlcdanokolaa
