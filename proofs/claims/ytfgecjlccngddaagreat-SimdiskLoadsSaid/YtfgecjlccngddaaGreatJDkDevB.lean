/-
  Joined: DkDev2, DkDev3, DkDev4.
-/
import Derived.Test.YtfgecjlccngddaaGreatJDkDevA
import Derived.Test.YtfgecjlccngddaaGreatJDiskRefC
namespace Go.Proofs.YtfgecjlccngddaaGreat
set_option linter.unusedSimpArgs false
set_option linter.unusedVariables false
open Go.RowKit
set_option linter.unusedVariables false

section
variable {w w' : World} {ad bm : Nat} {an af : Addr} {Sn Sf : List Nat} {ids : List Int} {blk : Int → Nat} {born : Nat} {D : Dsk}
set_option maxRecDepth 100000 in
set_option maxHeartbeats 400000 in
theorem dup_b (h : DkM w ad bm an af Sn Sf ids blk born D) :
    Calls Tryz.prog 30 #[.pointer (some ⟨ad, 0, none⟩)] w fun e w' => e = .returned (.bool (!D.fu.off)) ∧ Below w.heap.size w w' := by
  obtain ⟨c0, c1, c2, c3, c4, c5⟩ := h.cells
  have CM := Lib.hid (dmade_yes h); have CU := Lib.hid (fup_any h.fuse)
  clear h
  go_enter Tryz.func30, Tryz.ntmps30
  go_wp2_with (first | (go_at_call 33; refine CM.out.mono ?_; rintro e w' ⟨rfl, rfl⟩) | (go_at_call 84; refine CU.out.mono ?_; rintro e w' ⟨rfl, hb⟩))
  go_ret
  exact ⟨rfl, hb⟩
set_option maxRecDepth 100000 in
set_option maxHeartbeats 400000 in
theorem dcalls_b (h : DkM w ad bm an af Sn Sf ids blk born D) :
    Calls Tryz.prog 29 #[.pointer (some ⟨ad, 0, none⟩)] w fun e w' => e = .returned (.int .i64 D.calls) ∧ Below w.heap.size w w' := by
  obtain ⟨c0, c1, c2, c3, c4, c5⟩ := h.cells
  have CM := Lib.hid (dmade_yes h)
  clear h
  go_enter Tryz.func29, Tryz.ntmps29
  go_wp2_with (go_at_call 33; refine CM.out.mono ?_; rintro e w' ⟨rfl, rfl⟩)
  go_ret
  exact ⟨rfl, Below.refl _ _⟩
set_option maxRecDepth 100000 in
set_option maxHeartbeats 400000 in
theorem dfault_off (h : DkM w ad bm an af Sn Sf ids blk born D) (ho : D.fu.off = true) (k n : Int) :
    Calls Tryz.prog 26 #[.pointer (some ⟨ad, 0, none⟩), .agg #[.int .i64 k, .int .i64 n]] w fun e w' => e = .returned (.int .i64 14) ∧ Below w.heap.size w w' := by
  have hb0 := (Below.refl w.heap.size w).alloc (Nat.le_refl _) (.cells #[.int .i64 k, .int .i64 n] 38)
  have CR := Lib.hid (dready_off (h.below hb0) ho); have HB0 := Lib.hid hb0
  clear h hb0
  go_enter Tryz.func26, Tryz.ntmps26
  go_wp2_with fail
  refine CR.out.mono ?_
  rintro e w' ⟨rfl, hb⟩
  go_wp2
  go_ret
  exact ⟨rfl, HB0.out.trans (hb.mono HB0.out.size)⟩
set_option maxRecDepth 100000 in
set_option maxHeartbeats 400000 in
theorem dfault_on (h : DkM w ad bm an af Sn Sf ids blk born D) (ho : D.fu.off = false) (k n : Int) (hn : n ≤ 9223372036854775807) :
    Calls Tryz.prog 26 #[.pointer (some ⟨ad, 0, none⟩), .agg #[.int .i64 k, .int .i64 n]] w fun e w' => e = .returned (.int .i64 (if (D.fu.arm k n).2 = false then 2 else 0)) ∧
      ∃ Sf', DkM w' ad bm an af Sn Sf' ids blk born { D with fu := (D.fu.arm k n).1 } ∧ Apart Sf w w' ∧ ∀ b ∈ Sf', b ∈ Sf ∨ w.heap.size ≤ b := by
  have hb0 := (Below.refl w.heap.size w).alloc (Nat.le_refl _) (.cells #[.int .i64 k, .int .i64 n] 38)
  have hbx := Blk.new w #[.int .i64 k, .int .i64 n] 38
  have CR := Lib.hid (dready_on (h.below hb0) ho); have H := Lib.hid h; have HB0 := Lib.hid hb0; have HX := Lib.hid hbx
  clear hb0 hbx
  obtain ⟨⟨F, q⟩, hr⟩ : ∃ r, D.fu.arm k n = r := ⟨_, rfl⟩
  have HR := Lib.hid hr
  rw [hr]
  clear h hr
  go_enter Tryz.func26, Tryz.ntmps26
  go_wp2_with fail
  refine CR.out.mono ?_
  rintro e w1 ⟨rfl, hb1⟩
  have b0 := (HX.out.onto hb1).cell 0 _ rfl
  have b1 := (HX.out.onto hb1).cell 1 _ rfl
  have hb := HB0.out.trans (hb1.mono HB0.out.size)
  clear hb1
  obtain ⟨c0, c1, c2, c3, c4, c5⟩ := (H.out.below hb).cells
  have CA := farm_any (H.out.below hb).drew.fuse k n hn
  rw [HR.out] at CA
  have CA := Lib.hid CA
  go_wp2_with fail
  go_still_tail 5, (by kernel_rfl)
  change wpList _ _ _ _ _ w1.drew
  go_wp2_with fail
  refine CA.out.mono ?_
  rintro e w2 ⟨rfl, Sf', hf, ha, hs⟩
  have HE := Lib.hid (⟨(H.out.below hb).drew.onFuse hf ha hs, (Apart.of_below (S := Sf) hb).drew.trans ha (fun x hx => .inl hx), fun b hb' => (hs b hb').imp id (Nat.le_trans hb.size)⟩ : DkM w2 ad bm an af Sn Sf' ids blk born { D with fu := F } ∧ Apart Sf w w2 ∧ ∀ b ∈ Sf', b ∈ Sf ∨ w.heap.size ≤ b)
  clear hb hf ha hs
  cases q with
  | false => go_wp2; go_ret; exact ⟨rfl, Sf', HE.out⟩
  | true => go_wp2; go_ret; exact ⟨rfl, Sf', HE.out⟩
end
end Go.Proofs.YtfgecjlccngddaaGreat
namespace Go.Proofs.YtfgecjlccngddaaGreat
set_option linter.unusedSimpArgs false
set_option linter.unusedVariables false
open Go.RowKit
set_option linter.unusedVariables false

section
variable {w w' : World} {ad bm : Nat} {an af : Addr} {Sn Sf : List Nat} {ids : List Int} {blk : Int → Nat} {born : Nat} {D : Dsk}
set_option maxRecDepth 100000 in
set_option maxHeartbeats 800000 in
theorem dask_no {F g : FuncId} {pre post : Array Value} {x : Int} {Q : World → Prop} (h : DkM w ad bm an af Sn Sf ids blk born D) (hc : 0 ≤ D.calls ∧ D.calls ≤ 1000) (eF : ∀ args w, (callFunc F args).run Tryz.prog w = .ok (.enter F args) w)
    (cF : Calls Tryz.prog F #[.pointer (some af)] (w.setCell ⟨ad, 5, none⟩ (.int .i64 (D.calls + 1))) fun e w' => e = .returned (.int .i64 x) ∧ Q w') (hx : x ≠ 0) :
    Calls Tryz.prog 70 #[.pointer (some ⟨ad, 0, none⟩), .func (.func F) #[.pointer (some af)] #[], .func (.func g) pre post] w fun e w' => e = .returned (.int .i64 x) ∧ Q w' := by
  obtain ⟨c0, c1, c2, c3, c4, c5⟩ := h.cells
  have f5 := h.box.free 5
  have CF := Lib.hid cF
  have hw : wrap64 (D.calls + 1) = D.calls + 1 := by unfold wrap64; omega
  clear h cF
  go_enter Tryz.func70, Tryz.ntmps70
  go_wp2_with (go_at_fn F; refine CF.out.mono ?_; rintro e w2 ⟨rfl, hq⟩)
  go_ret
  exact ⟨rfl, hq⟩
set_option maxRecDepth 100000 in
set_option maxHeartbeats 800000 in
theorem dask_yes {F g : FuncId} {pre post : Array Value} {Q R : World → Prop} (h : DkM w ad bm an af Sn Sf ids blk born D) (hc : 0 ≤ D.calls ∧ D.calls ≤ 1000) (eF : ∀ args w, (callFunc F args).run Tryz.prog w = .ok (.enter F args) w) (eg : ∀ args w, (callFunc g args).run Tryz.prog w = .ok (.enter g args) w)
    (cF : Calls Tryz.prog F #[.pointer (some af)] (w.setCell ⟨ad, 5, none⟩ (.int .i64 (D.calls + 1))) fun e w' => e = .returned (.int .i64 0) ∧ Q w')
    (cg : ∀ w1, Q w1 → Calls Tryz.prog g (pre ++ post) w1 fun e w' => e = .returned (.tuple #[]) ∧ R w') :
    Calls Tryz.prog 70 #[.pointer (some ⟨ad, 0, none⟩), .func (.func F) #[.pointer (some af)] #[], .func (.func g) pre post] w fun e w' => e = .returned (.int .i64 0) ∧ R w' := by
  obtain ⟨c0, c1, c2, c3, c4, c5⟩ := h.cells
  have f5 := h.box.free 5
  have CF := Lib.hid cF; have CG := Lib.hid cg
  have hw : wrap64 (D.calls + 1) = D.calls + 1 := by unfold wrap64; omega
  clear h cF cg
  go_enter Tryz.func70, Tryz.ntmps70
  go_wp2_with fail
  refine CF.out.mono ?_
  rintro e w2 ⟨rfl, hq⟩
  have HQ := Lib.hid hq
  clear hq
  go_wp2_with (go_at_fn g; refine Calls.mono (by first | exact CG.out _ HQ.out | simpa using CG.out _ HQ.out) ?_; rintro e w3 ⟨rfl, hr⟩; have HR := Lib.hid hr; clear hr)
  go_ret
  exact ⟨rfl, HR.out⟩
/-- How the fuse answers, in the words of the disk. -/
theorem dput_fuse (h : DkM w ad bm an af Sn Sf ids blk born D) (hf : D.fu.ok) : Calls Tryz.prog 92 #[.pointer (some af)] (w.setCell ⟨ad, 5, none⟩ (.int .i64 (D.calls + 1)))
    fun e w' => e = .returned (.int .i64 (D.ask false).2) ∧ ∃ Sf', DkM w' ad bm an af Sn Sf' ids blk born (D.ask false).1 ∧ Apart (ad :: Sf) w w' ∧ ∀ b ∈ Sf', b ∈ Sf ∨ w.heap.size ≤ b := by
  have h2 := h.onCalls (D.calls + 1)
  refine (fput_any h2.fuse hf).mono ?_
  rintro e w' ⟨rfl, Sf', hF, hA, hS⟩
  refine ⟨rfl, Sf', h2.onFuse hF hA hS, ((Apart.refl (ad :: Sf) w).setCell (.inl (by simp)) _).trans hA (fun x hx => .inl (by simp [hx])), fun b hb => ?_⟩
  have := hS b hb
  simpa using this
theorem dsync_fuse (h : DkM w ad bm an af Sn Sf ids blk born D) (hf : D.fu.ok) : Calls Tryz.prog 71 #[.pointer (some af)] (w.setCell ⟨ad, 5, none⟩ (.int .i64 (D.calls + 1)))
    fun e w' => e = .returned (.int .i64 (D.ask true).2) ∧ ∃ Sf', DkM w' ad bm an af Sn Sf' ids blk born (D.ask true).1 ∧ Apart (ad :: Sf) w w' ∧ ∀ b ∈ Sf', b ∈ Sf ∨ w.heap.size ≤ b := by
  have h2 := h.onCalls (D.calls + 1)
  refine (fsync_any h2.fuse hf).mono ?_
  rintro e w' ⟨rfl, Sf', hF, hA, hS⟩
  refine ⟨rfl, Sf', h2.onFuse hF hA hS, ((Apart.refl (ad :: Sf) w).setCell (.inl (by simp)) _).trans hA (fun x hx => .inl (by simp [hx])), fun b hb => ?_⟩
  have := hS b hb
  simpa using this
theorem ePut : ∀ args w, (callFunc 92 args).run Tryz.prog w = .ok (.enter 92 args) w := enters_of Tryz.func92 (by kernel_rfl) rfl
theorem eSync : ∀ args w, (callFunc 71 args).run Tryz.prog w = .ok (.enter 71 args) w := enters_of Tryz.func71 (by kernel_rfl) rfl
/-- What the disk's blocks are when the fuse has turned. -/
theorem ask_S {Sf' : List Nat} (hs : ∀ b ∈ Sf', b ∈ Sf ∨ w.heap.size ≤ b) : ∀ b ∈ dkS ad bm Sn Sf' ids blk, b ∈ dkS ad bm Sn Sf ids blk ∨ w.heap.size ≤ b := fun b hb => by
  rcases mem_dkS.1 hb with g | g | g | g | g
  · exact .inl (mem_dkS.2 (.inl g))
  · exact .inl (mem_dkS.2 (.inr (.inl g)))
  · exact .inl (mem_dkS.2 (.inr (.inr (.inl g))))
  · exact (hs b g).imp (fun k => mem_dkS.2 (.inr (.inr (.inr (.inl k))))) id
  · exact .inl (mem_dkS.2 (.inr (.inr (.inr (.inr g)))))
theorem ask_sub : ∀ b ∈ ad :: Sf, b ∈ dkS ad bm Sn Sf ids blk := fun b hb => by
  rcases List.mem_cons.1 hb with g | g
  · exact mem_dkS.2 (.inl g)
  · exact mem_dkS.2 (.inr (.inr (.inr (.inl g))))
/-- What is done if the fuse lets it: the whole. -/
theorem dask_of (sync : Bool) {F : FuncId} {g : FuncId} {pre post : Array Value} (h : DkM w ad bm an af Sn Sf (idsK D.L) blk D.tp.length D) (hD : D.ok 199) (eF : ∀ args w, (callFunc F args).run Tryz.prog w = .ok (.enter F args) w) (eg : ∀ args w, (callFunc g args).run Tryz.prog w = .ok (.enter g args) w)
    (cF : Calls Tryz.prog F #[.pointer (some af)] (w.setCell ⟨ad, 5, none⟩ (.int .i64 (D.calls + 1))) fun e w' => e = .returned (.int .i64 (D.ask sync).2) ∧ ∃ Sf', DkM w' ad bm an af Sn Sf' (idsK D.L) blk D.tp.length (D.ask sync).1 ∧ Apart (ad :: Sf) w w' ∧ ∀ b ∈ Sf', b ∈ Sf ∨ w.heap.size ≤ b)
    (f : Dsk → Dsk) (B : Nat) (hB : B ≤ w.heap.size)
    (cg : ∀ w1 Sf1, DkM w1 ad bm an af Sn Sf1 (idsK D.L) blk D.tp.length (D.ask sync).1 → Apart (dkS ad bm Sn Sf (idsK D.L) blk) w w1 → (∀ b ∈ Sf1, b ∈ Sf ∨ w.heap.size ≤ b) →
      Calls Tryz.prog g (pre ++ post) w1 (UpdB B w1 (dkS ad bm Sn Sf1 (idsK D.L) blk) ⟨ad, 0, none⟩ (f (D.ask sync).1) (.tuple #[]))) :
    Calls Tryz.prog 70 #[.pointer (some ⟨ad, 0, none⟩), .func (.func F) #[.pointer (some af)] #[], .func (.func g) pre post] w
      (UpdB B w (dkS ad bm Sn Sf (idsK D.L) blk) ⟨ad, 0, none⟩ (Dsk.then (D.ask sync) f).1 (.int .i64 (Dsk.then (D.ask sync) f).2)) := by
  have hc : 0 ≤ D.calls ∧ D.calls ≤ 1000 := by have := hD.2.2.2.2.2.2; omega
  have hw : (∃ Q, Q = fun w' : World => ∃ Sf', DkM w' ad bm an af Sn Sf' (idsK D.L) blk D.tp.length (D.ask sync).1 ∧ Apart (ad :: Sf) w w' ∧ ∀ b ∈ Sf', b ∈ Sf ∨ w.heap.size ≤ b) := ⟨_, rfl⟩
  by_cases hz : (D.ask sync).2 = 0
  · rw [hz] at cF
    have e1 : Dsk.then (D.ask sync) f = (f (D.ask sync).1, 0) := by unfold Dsk.then; rw [if_pos hz]
    rw [e1]
    refine (dask_yes (g := g) (R := fun w' => ∃ S', IsDk w' S' ⟨ad, 0, none⟩ (f (D.ask sync).1) ∧ Apart (dkS ad bm Sn Sf (idsK D.L) blk) w w' ∧ ∀ b ∈ S', b ∈ dkS ad bm Sn Sf (idsK D.L) blk ∨ B ≤ b) h hc eF eg cF ?_).mono ?_
    · rintro w1 ⟨Sf1, h1, ha, hs⟩
      have ha' := ha.more (ask_sub (bm := bm) (Sn := Sn) (ids := idsK D.L) (blk := blk))
      refine (cg w1 Sf1 h1 ha' hs).mono ?_
      rintro e w2 ⟨rfl, S', hI, hA, hS⟩
      refine ⟨rfl, S', hI, ha'.trans hA (ask_S hs), fun b hb => ?_⟩
      rcases hS b hb with g | g
      · rcases ask_S hs b g with k | k
        · exact .inl k
        · exact .inr (Nat.le_trans hB k)
      · exact .inr g
    · rintro e w2 ⟨rfl, S', hI, hA, hS⟩
      exact ⟨rfl, S', hI, hA, hS⟩
  · have e1 : Dsk.then (D.ask sync) f = D.ask sync := by unfold Dsk.then; rw [if_neg hz]
    rw [e1]
    refine (dask_no (g := g) (pre := pre) (post := post) h hc eF cF hz).mono ?_
    rintro e w1 ⟨rfl, Sf1, h1, ha, hs⟩
    exact ⟨rfl, _, DkM.is (D := (D.ask sync).1) h1, ha.more ask_sub, fun b hb => (ask_S hs b hb).imp id (Nat.le_trans hB)⟩
end
end Go.Proofs.YtfgecjlccngddaaGreat
namespace Go.Proofs.YtfgecjlccngddaaGreat
set_option linter.unusedSimpArgs false
set_option linter.unusedVariables false
open Go.RowKit
set_option linter.unusedVariables false

section
variable {w w' : World} {ad bm : Nat} {an af : Addr} {Sn Sf : List Nat} {ids : List Int} {blk : Int → Nat} {born : Nat} {D : Dsk}
set_option maxRecDepth 100000 in
set_option maxHeartbeats 800000 in
theorem dput_of {g : FuncId} {pre post : Array Value} (h : DkM w ad bm an af Sn Sf (idsK D.L) blk D.tp.length D) (hD : D.ok 199) (eg : ∀ args w, (callFunc g args).run Tryz.prog w = .ok (.enter g args) w)
    (f : Dsk → Dsk) (B : Nat) (hB : B ≤ w.heap.size)
    (cg : ∀ w1 Sf1, DkM w1 ad bm an af Sn Sf1 (idsK D.L) blk D.tp.length (D.ask false).1 → Apart (dkS ad bm Sn Sf (idsK D.L) blk) w w1 → (∀ b ∈ Sf1, b ∈ Sf ∨ w.heap.size ≤ b) →
      Calls Tryz.prog g (pre ++ post) w1 (UpdB B w1 (dkS ad bm Sn Sf1 (idsK D.L) blk) ⟨ad, 0, none⟩ (f (D.ask false).1) (.tuple #[]))) :
    Calls Tryz.prog 39 #[.pointer (some ⟨ad, 0, none⟩), .func (.func g) pre post] w
      (UpdB B w (dkS ad bm Sn Sf (idsK D.L) blk) ⟨ad, 0, none⟩ (Dsk.then (D.ask false) f).1 (.int .i64 (Dsk.then (D.ask false) f).2)) := by
  obtain ⟨c0, c1, c2, c3, c4, c5⟩ := h.cells
  have CA := Lib.hid (dask_of false h hD ePut eg (dput_fuse h hD.2.2.2.2.2.1) f B hB cg)
  clear h cg hD hB
  go_enter Tryz.func39, Tryz.ntmps39
  go_wp2_with (go_at_call 70; refine CA.out.mono ?_; rintro e w1 ⟨rfl, hE⟩; have HE := Lib.hid hE; clear hE)
  go_ret
  exact ⟨rfl, HE.out⟩
set_option maxRecDepth 100000 in
set_option maxHeartbeats 800000 in
/-- A file more: the next number, its name, its tape. -/
theorem dadd_b {t : Nat} {k n : ByteArray} (h : DkM w ad bm an af Sn Sf ids blk D.tp.length D) (hL : okL 500 D.L) (hl : D.tp.length ≤ 1000000) (hi : ids.length ≤ 1000000) (s : ByteArray) (hs : s.size ≤ maxLen) (ht : Tap w t k n) (hfar : t ∉ dkS ad bm Sn Sf ids blk) :
    Calls Tryz.prog 41 #[.pointer (some ⟨ad, 0, none⟩), .string s, .pointer (some ⟨t, 0, none⟩)] w fun e w' => e = .returned (.tuple #[]) ∧
      ∃ Sn', DkM w' ad bm an af Sn' Sf (ids ++ [((D.tp.length + 1 : Nat) : Int)]) (updB blk (D.tp.length + 1 : Nat) t) (D.tp.length + 1) { D with tp := D.tp ++ [⟨k, n⟩], L := putF D.L s (D.tp.length + 1 : Nat) } ∧
        Apart (dkS ad bm Sn Sf ids blk) w w' ∧ ∀ b ∈ Sn', b ∈ Sn ∨ w.heap.size ≤ b := by
  obtain ⟨c0, c1, c2, c3, c4, c5⟩ := h.cells
  have f4 := h.box.free 4
  have h1 := h.onBorn (D.tp.length + 1)
  have a1 : Apart (dkS ad bm Sn Sf ids blk) w (w.setCell ⟨ad, 4, none⟩ (.int .i64 (D.tp.length + 1 : Nat))) := (Apart.refl _ w).setCell (p := ⟨ad, 4, none⟩) (.inl (mem_dkS.2 (.inl rfl))) _
  have z1 : (w.setCell ⟨ad, 4, none⟩ (.int .i64 (D.tp.length + 1 : Nat))).heap.size = w.heap.size := by simp
  have t1 : Tap (w.setCell ⟨ad, 4, none⟩ (.int .i64 (D.tp.length + 1 : Nat))) t k n := Tap.apart ht a1 hfar
  obtain ⟨n0, hn0⟩ : ∃ n0, D.tp.length = n0 := ⟨_, rfl⟩
  obtain ⟨m, hm⟩ : ∃ m, n0 + 1 = m := ⟨_, rfl⟩
  have hw : wrap64 (n0 + 1) = (m : Int) := by unfold wrap64; omega
  rw [hn0] at c4 h1 a1 hl z1 t1 ⊢
  rw [hm] at h1 a1 z1 t1 ⊢
  obtain ⟨w1, hw1⟩ : ∃ w1, w1 = w.setCell ⟨ad, 4, none⟩ (.int .i64 m) := ⟨_, rfl⟩
  rw [← hw1] at h1 a1 z1 t1
  have CP := foput_any h1.drew.fold hL s hs m (by omega) (by omega)
  have H1 := Lib.hid h1; have A1 := Lib.hid a1; have HT := Lib.hid t1; have HF := Lib.hid hfar; have CP := Lib.hid CP
  have HI := Lib.hid hi; have HL := Lib.hid hl; have HN := Lib.hid hn0; have HM := Lib.hid hm; have HW := Lib.hid hw1; have HZ := Lib.hid z1
  clear h h1 a1 ht t1 hfar hi hl hL hn0 hm hw1 z1
  go_enter Tryz.func41, Tryz.ntmps41
  go_wp2_with fail
  rw [hw, ← HW.out]
  clear c0 c1 c2 c3 c4 c5 f4
  obtain ⟨c0, c1, c2, c3, c4, c5⟩ := H1.out.cells
  go_still_tail 9, (by kernel_rfl)
  change wpList _ _ _ _ _ w1.drew
  go_wp2_with fail
  refine CP.out.mono ?_
  rintro e w3 ⟨rfl, Sn', hF3, hA3, hS3⟩
  have h3 := H1.out.drew.onFold hF3 hA3 hS3
  have a3 : Apart (dkS ad bm Sn Sf ids blk) w w3 := A1.out.drew.trans hA3 (fun x hx => .inl (mem_dkS.2 (.inr (.inr (.inl hx)))))
  have hS3' : ∀ b ∈ Sn', b ∈ Sn ∨ w.heap.size ≤ b := fun b hb => by rw [← HZ.out]; exact hS3 b hb
  have hfar3 : t ∉ dkS ad bm Sn' Sf ids blk := fun g => by
    have hlt : t < w1.heap.size := Tap3.lt HT.out
    rcases mem_dkS.1 g with g | g | g | g | g
    · exact HF.out (mem_dkS.2 (.inl g))
    · exact HF.out (mem_dkS.2 (.inr (.inl g)))
    · rcases hS3 t g with k | k
      · exact HF.out (mem_dkS.2 (.inr (.inr (.inl k))))
      · have : w1.drew.heap.size = w1.heap.size := rfl; omega
    · exact HF.out (mem_dkS.2 (.inr (.inr (.inr (.inl g)))))
    · exact HF.out (mem_dkS.2 (.inr (.inr (.inr (.inr g)))))
  have t3 : Tap w3 t k n := Tap.apart (w := w1.drew) HT.out hA3 (fun g => HF.out (mem_dkS.2 (.inr (.inr (.inl g)))))
  have hr3 : ∀ i ∈ ids, i < (m : Int) := fun i hi => by have := (h3.rng i hi).2; have e : D.tp.length = n0 := HN.out; have := HM.out; simp only at *; omega
  obtain ⟨w4, hrun, hm4, ha4⟩ := h3.drew.map.store HI.out (n := (m : Int)) (wf_int (by omega) (by have := HM.out; have := HL.out; omega)) t (ids' := ids ++ [(m : Int)]) (blk' := updB blk m t)
    (List.nodup_append.2 ⟨h3.map.1, by simp, fun a ha b hb => by rw [List.mem_singleton.1 hb]; have := hr3 a ha; omega⟩) (fun i => by simp [or_comm]) (if_pos rfl) (fun i hi hne => if_neg hne)
  obtain ⟨c0, c1, c2, c3, c4, c5⟩ := h3.cells
  have hE : (∃ Sn', DkM w4 ad bm an af Sn' Sf (ids ++ [(m : Int)]) (updB blk m t) m { D with tp := D.tp ++ [⟨k, n⟩], L := putF D.L s m } ∧ Apart (dkS ad bm Sn Sf ids blk) w w4 ∧ ∀ b ∈ Sn', b ∈ Sn ∨ w.heap.size ≤ b) := by
    have e1 := HM.out; have e2 := HN.out
    subst e1 e2
    exact ⟨Sn', h3.drew.onNew (D := { D with L := putF D.L s (D.tp.length + 1 : Nat) }) hm4 ha4 (t3 : Tap w3.drew t k n) hfar3, a3.drew.trans ha4 (fun x hx => .inl (by rw [List.mem_singleton.1 hx]; exact mem_dkS.2 (.inr (.inl rfl)))), hS3'⟩
  have HE := Lib.hid hE
  clear hE h3 a3 hS3 hS3' hfar3 t3 hr3 hm4 ha4 hF3 hA3
  go_wp2_with fail
  go_still_tail 9, (by kernel_rfl)
  change wpList _ _ _ _ _ w3.drew
  go_wp2
  go_end0
  exact ⟨rfl, HE.out⟩
end
end Go.Proofs.YtfgecjlccngddaaGreat
