/-
  The program's marks (layer 22), fifth part: Near.
-/
import Derived.Test.YtimlfgjljnkbcaaMarkDev3
import Derived.Test.YtimlfgjljnkbcaaMarkRef4
import Derived.Test.YtimlfgjljnkbcaaBlk
namespace Go.Proofs.Ytimlfgjljnkbcaa
open Go.RowKit
set_option linter.unusedVariables false

theorem near_f (l : List Mrk) (at_ : Int) : nearB at_ l = fun x => decide (dstM at_ x = leastM l at_) := rfl
theorem least_u64 (l : List Mrk) (at_ : Int) : ((leastM l at_ : Nat) : Int) ≤ 18446744073709551615 := by
  have := leastM_big l at_
  unfold bigN at this
  omega

set_option maxRecDepth 100000 in
set_option maxHeartbeats 1600000 in
theorem mnear_any (a : Option Addr) (l : List Mrk) (c : Nat) (at_ : Nat) (hat : at_ ≤ 4096) (w : World) (hp : Pcs w ⟨a, l, c⟩) (hl : l.length ≤ 40) (hpz : ∀ x ∈ l, 0 ≤ x.p ∧ x.p ≤ 4096) :
    Calls Try.prog 23 #[.slice a l.length c, .int .i64 at_] w fun e w' => e = .returned (nearV (nearM l at_)) ∧ Below w.heap.size w w' := by
  obtain ⟨wX, hwX⟩ : ∃ wX, (w.alloc (.cells #[.int .i64 at_] 3)).alloc (.cells #[.string ⟨#[]⟩, .int .i64 0] 30) = wX := ⟨_, rfl⟩
  have hb0 : Below w.heap.size w ((w.alloc (.cells #[.int .i64 at_] 3)).alloc (.cells #[.string ⟨#[]⟩, .int .i64 0] 30)) := ((Below.refl w.heap.size w).alloc (Nat.le_refl _) _).alloc (by simp) _
  have kX : Blk ((w.alloc (.cells #[.int .i64 at_] 3)).alloc (.cells #[.string ⟨#[]⟩, .int .i64 0] 30)) (w.heap.size + 1) #[.string ⟨#[]⟩, .int .i64 0] 30 := by
    have := Blk.new (w.alloc (.cells #[.int .i64 at_] 3)) #[.string ⟨#[]⟩, .int .i64 0] 30
    simpa using this
  have x0 : ((w.alloc (.cells #[.int .i64 at_] 3)).alloc (.cells #[.string ⟨#[]⟩, .int .i64 0] 30)).cell? ⟨w.heap.size, 0, none⟩ = some (.int .i64 at_) := by
    rw [((Below.refl (w.heap.size + 1) (w.alloc (.cells #[.int .i64 at_] 3))).alloc (by simp) (.cells #[.string ⟨#[]⟩, .int .i64 0] 30)).cell (p := ⟨w.heap.size, 0, none⟩) (show w.heap.size < w.heap.size + 1 by omega)]
    simp
  have hX2 : wX.heap.size = w.heap.size + 2 := by rw [← hwX]; simp
  rw [hwX] at hb0 kX x0
  have hpX := hp.later hb0
  have cfar : ∀ W x, Below wX.heap.size wX W → x ∈ l → Calls Try.prog 40 (#[x.v] ++ #[.pointer (some ⟨w.heap.size, 0, none⟩)]) W fun e w' => e = .returned (.int .u64 (dstM at_ x : Nat)) ∧ Below W.heap.size W w' := fun W x hW hx =>
    far_any x at_ w.heap.size W (hpz x hx) (by omega) (by have := hW.size; omega) ((hW.cell (p := ⟨w.heap.size, 0, none⟩) (show w.heap.size < wX.heap.size by omega)).trans x0)
  have cfind : ∀ W, Below wX.heap.size wX W → Calls Try.prog 42 #[.slice a l.length c, .func (.func 40) #[] #[.pointer (some ⟨w.heap.size, 0, none⟩)], .int .u64 (leastM l at_ : Nat)] W fun e w' => e = .returned (.tuple #[.int .i64 (l.findIdx (nearB at_ l) : Nat), .bool (decide (l.findIdx (nearB at_ l) < l.length))]) ∧ Below W.heap.size W w' := fun W hW =>
    mfind_far a l c at_ (leastM l at_) w.heap.size _ W (hpX.later hW).row (fun _ h => h) (by omega) fun W2 x h2 hx => cfar W2 x (hW.trans (h2.mono hW.size)) hx
  have hend : ∀ w', Below wX.heap.size wX w' → Below w.heap.size w w' := fun w' h => hb0.trans (h.mono (by omega))
  have hrow : ∀ i, i < l.length → ∀ W, Below wX.heap.size wX W → ∃ ad, a = some ad ∧ W.cell? (ad.add (i * 2)) = some (.string (l[i]!).name) ∧ W.cell? ⟨(ad.add (i * 2)).block, (ad.add (i * 2)).off + 1, none⟩ = some (.int .i64 (l[i]!).p) := fun i hi W hW => by
    obtain ⟨ad, e, -, q0, q1⟩ := (hpX.later hW).row i hi
    rw [← mget hi] at q0 q1
    exact ⟨ad, e, q0, q1⟩
  obtain ⟨n, hn⟩ : ∃ n, l.length = n := ⟨_, rfl⟩
  rw [hn] at hl cfind ⊢
  obtain ⟨r, hr⟩ : ∃ r, nearM l (at_ : Int) = r := ⟨_, rfl⟩
  rw [hr]
  have HN := Lib.hid hn; have HF := Lib.hid cfar; have HD := Lib.hid cfind; have HEND := Lib.hid hend; have HR := Lib.hid hr; have HW := Lib.hid hrow; have KX := Lib.hid kX; have HX2 := Lib.hid hX2
  clear hn hb0 kX x0 hpX hp hpz cfar cfind hend hr hrow hX2
  go_enter Try.func23, Try.ntmps23
  go_wp2
  clear hwX
  go_loopw [7, 15] (fun v i wr => ∃ k : Nat, k ≤ n ∧ i = .int .i64 k ∧ v = .int .u64 (leastM (l.take k) at_ : Nat) ∧ Below wX.heap.size wX wr) (fun _ i _ => n - (intOf i).toNat)
  case atStart => exact ⟨0, Nat.zero_le _, rfl, rfl, Below.refl _ _⟩
  case round =>
    obtain ⟨k, hk, rfl, rfl, hbel⟩ := hrel
    by_cases hlt : k < n
    · have hkl : k < l.length := by rw [HN.out]; exact hlt
      obtain ⟨ad, rfl, q0, q1⟩ := HW.out k hkl wr hbel
      have hmem : l[k]! ∈ l := by rw [mget hkl]; exact List.getElem_mem hkl
      have ck := fun W hW => HF.out W l[k]! hW hmem
      have hst := leastM_take l at_ k hkl
      have hbig := least_u64 (l.take k) at_
      obtain ⟨m, hm⟩ : ∃ m, leastM (l.take k) (at_ : Int) = m := ⟨_, rfl⟩
      rw [hm] at hst hbig ⊢
      obtain ⟨d, hd⟩ : ∃ d, dstM (at_ : Int) l[k]! = d := ⟨_, rfl⟩
      rw [hd] at hst
      have ck2 : ∀ W, Below wX.heap.size wX W → Calls Try.prog 40 #[(l[k]!).v, .pointer (some ⟨w.heap.size, 0, none⟩)] W fun e w' => e = .returned (.int .u64 (d : Nat)) ∧ Below W.heap.size W w' := fun W hW => by have := ck W hW; rw [hd] at this; exact this
      obtain ⟨x, hx⟩ : ∃ x, l[k]! = x := ⟨_, rfl⟩
      rw [hx] at q0 q1 ck2
      obtain ⟨nm, id⟩ := x
      simp only at q0 q1
      have CK := Lib.hid ck2; have HS := Lib.hid hst
      have HB1 := Lib.hid (hbel.alloc hbel.size (.cells #[.string nm, .int .i64 id] 30))
      have b0 : (0 : Int) ≤ (k : Int) := by omega
      have b1 : (k : Int) < (n : Int) := by omega
      clear hx ck ck2 hst hm hd hmem hbel
      go_wp2_with (go_at_call 40; refine (CK.out _ HB1.out).mono ?_; rintro e w2 ⟨rfl, hb2⟩)
      go_roundw
      case rel => exact ⟨k + 1, by omega, by go_num, by rw [HS.out]; first | rfl | (congr 1; omega), HB1.out.trans (hb2.mono HB1.out.size)⟩
      case measure => simp [intOf]; omega
    · obtain rfl : k = n := by omega
      have e : leastM (l.take k) (at_ : Int) = leastM l at_ := by rw [List.take_of_length_le (by rw [HN.out]; exact Nat.le_refl _)]
      rw [e]
      clear e
      have cf := HD.out wr hbel
      have hbig := least_u64 l at_
      obtain ⟨m, hm⟩ : ∃ m, leastM l (at_ : Int) = m := ⟨_, rfl⟩
      rw [hm] at cf hbig ⊢
      by_cases hi : l.findIdx (nearB at_ l) < l.length
      · have h0 : r = (l[l.findIdx (nearB at_ l)]!, true) := by rw [← HR.out]; unfold nearM; rw [if_pos hi]
        rw [HN.out] at hi
        rw [decide_eq_true hi] at cf
        obtain ⟨i, he⟩ : ∃ i, l.findIdx (nearB at_ l) = i := ⟨_, rfl⟩
        rw [he] at hi cf h0
        obtain ⟨x, hx⟩ : ∃ x, l[i]! = x := ⟨_, rfl⟩
        rw [hx] at h0
        subst h0
        have hw := HW.out i (by rw [HN.out]; exact hi)
        rw [hx] at hw
        have CF := Lib.hid cf; have HWI := Lib.hid hw
        have b1 : (i : Int) < (k : Int) := by omega
        clear cf hw he hx hm
        go_wp2_with fail
        refine CF.out.mono ?_
        rintro e w2 ⟨rfl, hb2⟩
        have HB2 := Lib.hid (hbel.trans (hb2.mono hbel.size))
        clear hb2 hbel
        obtain ⟨ad, rfl, q0, q1⟩ := HWI.out w2 HB2.out
        obtain ⟨nm, id⟩ := x
        simp only at q0 q1
        have kk := (KX.out.onto HB2.out)
        have c0 := kk.cell 0 _ rfl; have c1 := kk.cell 1 _ rfl; have f0 := kk.free 0; have f1 := kk.free 1
        clear kk
        go_wp2
        refine bodyPost_ret (v := nearV (⟨nm, id⟩, true)) (by simp [results, Try.results23, go_sem, nearV, c0, c1]) rfl ⟨rfl, ?_⟩
        exact ((HEND.out _ HB2.out).setCell (by simp) _).setCell (by simp) _
      · have h0 : r = (⟨⟨#[]⟩, 0⟩, false) := by rw [← HR.out]; unfold nearM; rw [if_neg hi]
        rw [HN.out] at hi
        rw [decide_eq_false hi] at cf
        obtain ⟨i, he⟩ : ∃ i, l.findIdx (nearB at_ l) = i := ⟨_, rfl⟩
        rw [he] at cf
        subst h0
        have CF := Lib.hid cf
        clear cf he hm hi
        go_wp2_with fail
        refine CF.out.mono ?_
        rintro e w2 ⟨rfl, hb2⟩
        have HB2 := Lib.hid (hbel.trans (hb2.mono hbel.size))
        clear hb2 hbel
        have kk := (KX.out.onto HB2.out)
        have c0 := kk.cell 0 _ rfl; have c1 := kk.cell 1 _ rfl; have f0 := kk.free 0; have f1 := kk.free 1
        clear kk
        go_wp2
        refine bodyPost_ret (v := nearV (⟨⟨#[]⟩, 0⟩, false)) (by simp [results, Try.results23, go_sem, nearV, c0, c1]) rfl ⟨rfl, ?_⟩
        exact ((HEND.out _ HB2.out).setCell (by simp) _).setCell (by simp) _
end Go.Proofs.Ytimlfgjljnkbcaa
