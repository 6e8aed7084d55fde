/-
  The document's stacks (layer 24): Push. (Written by gen_rpush24.py.)
-/
import Derived.Test.YthboipmlkgmofaaStkDev2
import Derived.Test.YthboipmlkgmofaaStepRef2
import Derived.Deep.AppendLies
import Derived.Deep.RegionHeld3
namespace Go.Proofs.Ythboipmlkgmofaa
open Go.RowKit
set_option linter.unusedVariables false
set_option linter.unusedSimpArgs false

/-- What is appended: nothing, or a row that can be read. -/
def SrcP (w : World) (size : Nat) (y : Value) (m : Nat) (news : List Value) : Prop :=
  (y = .slice none 0 0 ∧ m = 0 ∧ news = []) ∨ ∃ ad c, y = .slice (some ad) m c ∧ news.length = m * size ∧ (∀ j u, news[j]? = some u → w.cell? (ad.add j) = some u) ∧ ∀ u ∈ news, u.oneCell' = true
theorem src_of {w : World} {a : Option Addr} {l : List EPc} {c : Nat} (h : SPcs w ⟨a, l, c⟩) : SrcP w 1 (.slice a l.length c) l.length (sflat l) := by
  cases a with
  | none =>
    have e0 : l = [] := h.len rfl
    have e1 : c = 0 := h.nil rfl
    subst e0
    subst e1
    exact .inl ⟨rfl, rfl, rfl⟩
  | some ad => exact .inr ⟨ad, c, rfl, sflat_len l, scs_news h.row, sone_flat l⟩
theorem src_one {w : World} {b : Nat} {a : Option Addr} {n c : Nat} {t : TypeId} (h : Blk w b #[.slice a n c] t) : SrcP w 1 (.slice (some ⟨b, 0, none⟩) 1 1) 1 [.slice a n c] :=
  .inr ⟨⟨b, 0, none⟩, 1, rfl, rfl, fun j u hj => by
    match j, hj with
    | 0, hj => simp at hj; subst hj; exact h.cell 0 _ rfl, fun u hu => by
    obtain rfl := List.mem_singleton.1 hu
    rfl⟩
theorem step_append_src {P : Program} (w : World) {ops : Array Oper} {o : Oper} {a : Act} {K : Act → World → Prop} {Q : Exit → Act → World → Prop} {E : Prop} (hw : Region.wanted o (yielded ops a.tmps) = true) (s x : Operand) (t : TypeId)
    (ho : o.op = .call { callee := .builtin .append, args := #[s, x], argTypes := #[t, t] })
    (base : Nat) (e : TypeId) (i : TypeInfo) (z : Value) (size bytes : Nat) (ht : P.underlying t = some (.slice e)) (hi : P.info? e = some i) (hz : i.zero = some z)
    (hsize : i.size = size) (hby : i.bytes = bytes) (hzs : z.cells.size = size) (hsz : 0 < size)
    (v : Value) (n : Nat) (xs : List Value) (hs : a.eval s = v) (hown : w.ownsRow base e size v n xs)
    (y : Value) (m : Nat) (news : List Value) (hx : a.eval x = y) (hsrc : SrcP w size y m news)
    (h63 : n + m ≤ maxLen) (hbytes : (n + m) * bytes ≤ 140737488355328) (hbase : base ≤ w.heap.size)
    (h : ∀ v' w', w'.ownsRow base e size v' (n + m) (xs ++ news) → w.grownBy w' v.ownBlock → K (a.put o.dst v') w') :
    if Region.wanted o (yielded ops a.tmps) = true then Oper.wp P o a w K Q else E := by
  rw [if_pos hw]
  rcases hsrc with ⟨rfl, rfl, rfl⟩ | ⟨ad, c, rfl, hl, hnews, h1⟩
  · have hrun := run_append_owned_none (P := P) (w := w) base t o.type e i size ht hi v n xs hown
    unfold Oper.wp
    simp [execOp, ho, resolve, invoke, builtin, hs, hx, hrun, Result.andThen]
    exact h v w (by rw [List.append_nil]; exact hown) (World.grownBy.refl _ _)
  · exact wp_append_own w s x t ho base e i z size bytes ht hi hz hsize hby hzs hsz v n xs hs hown ad m c news hx hl hnews h1 h63 hbytes hbase fun v' w' h2 h3 _ => h v' w' h2 h3
theorem wpList_append_src {P : Program} (w : World) {ops : Array Oper} {rest : List Oper} {o : Oper} {a : Act} {Q : Exit → Act → World → Prop} (hgd : o.guard = none) (s x : Operand) (t : TypeId)
    (ho : o.op = .call { callee := .builtin .append, args := #[s, x], argTypes := #[t, t] })
    (base : Nat) (e : TypeId) (i : TypeInfo) (z : Value) (size bytes : Nat) (ht : P.underlying t = some (.slice e)) (hi : P.info? e = some i) (hz : i.zero = some z)
    (hsize : i.size = size) (hby : i.bytes = bytes) (hzs : z.cells.size = size) (hsz : 0 < size)
    (v : Value) (n : Nat) (xs : List Value) (hs : a.eval s = v) (hown : w.ownsRow base e size v n xs)
    (y : Value) (m : Nat) (news : List Value) (hx : a.eval x = y) (hsrc : SrcP w size y m news)
    (h63 : n + m ≤ maxLen) (hbytes : (n + m) * bytes ≤ 140737488355328) (hbase : base ≤ w.heap.size)
    (h : ∀ v' w', w'.ownsRow base e size v' (n + m) (xs ++ news) → w.grownBy w' v.ownBlock → wpList P ops Q rest (a.put o.dst v') w') : wpList P ops Q (o :: rest) a w := by
  rcases hsrc with ⟨rfl, rfl, rfl⟩ | ⟨ad, c, rfl, hl, hnews, h1⟩
  · exact wpList_append_own_none hgd s x t ho base e i size ht hi v n xs hs hown hx (h v w (by rw [List.append_nil]; exact hown) (World.grownBy.refl _ _))
  · exact wpList_append_own w hgd s x t ho base e i z size bytes ht hi hz hsize hby hzs hsz v n xs hs hown ad m c news hx hl hnews h1 h63 hbytes hbase fun v' w' h2 h3 _ => h v' w' h2 h3
/-- Behind a guard that is open. -/
theorem wpList_append_srcw {P : Program} (w : World) {ops : Array Oper} {rest : List Oper} {o : Oper} {a : Act} {Q : Exit → Act → World → Prop} (hw : Region.wanted o (yielded ops a.tmps) = true) (s x : Operand) (t : TypeId)
    (ho : o.op = .call { callee := .builtin .append, args := #[s, x], argTypes := #[t, t] })
    (base : Nat) (e : TypeId) (i : TypeInfo) (z : Value) (size bytes : Nat) (ht : P.underlying t = some (.slice e)) (hi : P.info? e = some i) (hz : i.zero = some z)
    (hsize : i.size = size) (hby : i.bytes = bytes) (hzs : z.cells.size = size) (hsz : 0 < size)
    (v : Value) (n : Nat) (xs : List Value) (hs : a.eval s = v) (hown : w.ownsRow base e size v n xs)
    (y : Value) (m : Nat) (news : List Value) (hx : a.eval x = y) (hsrc : SrcP w size y m news)
    (h63 : n + m ≤ maxLen) (hbytes : (n + m) * bytes ≤ 140737488355328) (hbase : base ≤ w.heap.size)
    (h : ∀ v' w', w'.ownsRow base e size v' (n + m) (xs ++ news) → w.grownBy w' v.ownBlock → wpList P ops Q rest (a.put o.dst v') w') : wpList P ops Q (o :: rest) a w := by
  have h1 := step_append_src (E := False) (ops := ops) (Q := Q) w hw s x t ho base e i z size bytes ht hi hz hsize hby hzs hsz v n xs hs hown y m news hx hsrc h63 hbytes hbase h
  rw [if_pos hw] at h1
  unfold wpList
  rw [if_pos hw]
  exact .inl h1
theorem SRow.drop {w : World} {base : Nat} {ad : Addr} {l : List EPc} {c : Nat} (h : SRow w base ⟨some ad, l, c⟩) (n : Nat) : SRow w base ⟨some (ad.add n), l.drop n, c - n⟩ :=
  ⟨Scs.drop h.row n, fun x hx => h.all x (List.mem_of_mem_drop hx), fun e => (by cases e), by have h2 : l.length ≤ c := h.le; show (l.drop n).length ≤ c - n; rw [List.length_drop]; omega, by have h2 : c ≤ maxLen := h.cap; show c - n ≤ maxLen; omega⟩

set_option maxRecDepth 100000 in
set_option maxHeartbeats 3200000 in
theorem rpush24_any (a : Option Addr) (l : List EPc) (c : Nat) (y : EPc) (w : World) (hp : SPcs w ⟨a, l, c⟩) (hy : EPcs w y) (hl : l.length ≤ 900) :
    Calls Try.prog 9 #[.slice a l.length c, stpV y.a y.l.length y.c] w (RetSRow w ((l ++ [y]).drop (l.length + 1 - 16))) := by
  obtain ⟨i0, hi, hz0, hz1, hz2⟩ := info_parts step_info
  obtain ⟨ya, yl, yc⟩ := y
  obtain ⟨n, hn⟩ : ∃ n, l.length = n := ⟨_, rfl⟩
  obtain ⟨m, hm⟩ : ∃ n, yl.length = n := ⟨_, rfl⟩
  simp only [hm]
  obtain ⟨W1, hW1⟩ : ∃ W1, w.alloc (.cells #[.slice ya m yc] 25) = W1 := ⟨_, rfl⟩
  have b1 : Below w.heap.size w W1 := by rw [← hW1]; exact (Below.refl _ _).alloc (Nat.le_refl _) _
  have B1 := Blk.new w #[.slice ya m yc] 25
  rw [hW1] at B1
  obtain ⟨L, hL⟩ : ∃ L, l ++ [(⟨ya, yl, yc⟩ : EPc)] = L := ⟨_, rfl⟩
  have hLL : L.length = n + 1 := by rw [← hL, List.length_append, hn]; rfl
  have hFL : sflat L = sflat l ++ [.slice ya m yc] := by rw [← hL, sflat_app, ← hm]; rfl
  have hAL : ∀ w', Below W1.heap.size W1 w' → SAll w' L := fun w' hb x hx => by
    rw [← hL] at hx
    have hb2 : Below w.heap.size w w' := b1.trans (hb.mono b1.size)
    rcases List.mem_append.1 hx with h | h
    · exact (hp.later hb2).all x h
    · obtain rfl := List.mem_singleton.1 h
      exact hy.later hb2
  have hsr : ∀ w', Below W1.heap.size W1 w' → SrcP w' 1 (.slice a n c) n (sflat l) := fun w' hb => by
    have h := src_of (hp.later (b1.trans (hb.mono b1.size)))
    rw [hn] at h
    exact h
  have fs : ∀ w', Below W1.heap.size W1 w' → Below W1.heap.size W1 w' ∧ w'.cell? ⟨w.heap.size, 0, none⟩ = some (.slice ya m yc) := fun w' h => ⟨h, (B1.onto h).cell 0 _ rfl⟩
  rw [hL, hn]
  rw [hn] at hl
  have HLL := Lib.hid hLL; have HFL := Lib.hid hFL; have HAL := Lib.hid hAL; have SRC := Lib.hid hsr; have FS := Lib.hid fs; have HW1 := Lib.hid b1
  obtain ⟨Q, hQ⟩ : ∃ Q, L.drop (n + 1 - 16) = Q := ⟨_, rfl⟩
  rw [hQ]
  have K1 := Lib.hid hQ
  clear hLL hFL hAL hsr fs b1 B1 hL hp hy hm hQ hn
  go_enter Try.func9, Try.ntmps9
  go_wp2_with fail
  clear hW1
  refine wp_region_held_drew (S := (fun w' : World => Below W1.heap.size W1 w' ∧ w'.cell? ⟨w.heap.size, 0, none⟩ = some (.slice ya m yc))) (by kernel_rfl) (FS.out _ (Below.refl W1.heap.size W1).drew) (fun hHeld => ?_)
  refine wpAnyH_take (i := 1) (v := ?_) (by simp only [List.getElem?_toArray, List.getElem?_cons_succ, List.getElem?_cons_zero]; rfl) (by kernel_rfl) (by kernel_rfl) (by kernel_rfl) (fun _ _ _ h => by exact h) (Or.inl ⟨by rfl, ?_⟩) (by assumption) ?_
  rotate_left
  · (intro w hSw; (try dsimp only at hSw); go_simp; try with_reducible rfl)
  try simp only [Act.put, List.setIfInBounds_toArray, List.set_cons_zero, List.set_cons_succ]
  refine wpAnyH_take (i := 3) (v := ?_) (by simp only [List.getElem?_toArray, List.getElem?_cons_succ, List.getElem?_cons_zero]; rfl) (by kernel_rfl) (by kernel_rfl) (by kernel_rfl) (fun _ _ _ h => by exact h) (Or.inl ⟨by rfl, ?_⟩) (by assumption) ?_
  rotate_left
  · (intro w hSw; (try dsimp only at hSw); go_simp; try with_reducible rfl)
  try simp only [Act.put, List.setIfInBounds_toArray, List.set_cons_zero, List.set_cons_succ]
  refine wpAnyH_ready (rs := [0, 4]) (by kernel_rfl) (by simp) ?_
  refine AllReadyH.cons (by simp only [List.getElem?_toArray, List.getElem?_cons_succ, List.getElem?_cons_zero]; rfl) (fun K hK => ?_) (AllReadyH.cons (by simp only [List.getElem?_toArray, List.getElem?_cons_succ, List.getElem?_cons_zero]; rfl) (fun K hK => ?_) AllReadyH.nil)
  · go_simp
    have HBA := Lib.hid ((Below.refl W1.heap.size W1).drew.alloc (Below.refl W1.heap.size W1).drew.size (.cells #[] 25)); have HOA := Lib.hid (show (W1.drew.alloc (.cells #[] 25)).ownsRow W1.heap.size 25 1 (.slice (some ⟨W1.drew.heap.size, 0, none⟩) 0 0) 0 [] from World.ownsRow_made W1.drew #[] 0 (Below.refl W1.heap.size W1).drew.size (Nat.zero_le _) (by simp))
    try go_wp2_with fail
    refine hK.out _ _ ?_ (fun hHeld => ?_)
    · exact FS.out _ HBA.out
    clear hK K
    try simp only [Act.put, List.setIfInBounds_toArray, List.set_cons_zero, List.set_cons_succ]
    refine wpAnyH_ready (rs := [2, 4]) (by kernel_rfl) (by simp) ?_
    refine AllReadyH.cons (by simp only [List.getElem?_toArray, List.getElem?_cons_succ, List.getElem?_cons_zero]; rfl) (fun K hK => ?_) (AllReadyH.cons (by simp only [List.getElem?_toArray, List.getElem?_cons_succ, List.getElem?_cons_zero]; rfl) (fun K hK => ?_) AllReadyH.nil)
    · refine step_append_src _ (by rfl) (.tmp 6) (.tmp 7) 22 rfl W1.heap.size 25 i0 _ 1 24 Try.underlying22 hi hz0 hz1 hz2 rfl (by decide) (.slice (some ⟨W1.heap.size, 0, none⟩) 0 0) 0 ([]) rfl HOA.out (.slice a n c) n (sflat l) rfl (SRC.out _ HBA.out) (by unfold maxLen; omega) (by omega) HBA.out.size ?_
      intro v8 w6 ho6 hg6
      have HB6 := Lib.hid (HBA.out.grown hg6 HBA.out.size (own_block HOA.out)); have HO6 := Lib.hid (show w6.ownsRow W1.heap.size 25 1 v8 n (sflat l) by simpa using ho6); skip
      refine hK.out _ _ ?_ (fun hHeld => ?_)
      · exact FS.out _ HB6.out
      clear hK K
      try simp only [Act.put, List.setIfInBounds_toArray, List.set_cons_zero, List.set_cons_succ]
      refine wpAnyH_ready (rs := [4]) (by kernel_rfl) (by simp) ?_
      refine AllReadyH.cons (by simp only [List.getElem?_toArray, List.getElem?_cons_succ, List.getElem?_cons_zero]; rfl) (fun K hK => ?_) AllReadyH.nil
      go_simp
      have HE7 := Lib.hid (Blk.new w6 #[.slice ya m yc] 25); have HB7 := Lib.hid (HB6.out.alloc HB6.out.size (.cells #[.slice ya m yc] 25)); have HO7 := Lib.hid (HO6.out.alloc (.cells #[.slice ya m yc] 25))
      try go_wp2_with fail
      refine hK.out _ _ ?_ (fun hHeld => ?_)
      · exact FS.out _ HB7.out
      clear hK K
      try simp only [Act.put, List.setIfInBounds_toArray, List.set_cons_zero, List.set_cons_succ]
      refine wpAnyH_ready (rs := [5]) (by kernel_rfl) (by simp) ?_
      refine AllReadyH.cons (by simp only [List.getElem?_toArray, List.getElem?_cons_succ, List.getElem?_cons_zero]; rfl) (fun K hK => ?_) AllReadyH.nil
      refine step_append_src _ (by rfl) (.tmp 8) (.tmp 10) 22 rfl W1.heap.size 25 i0 _ 1 24 Try.underlying22 hi hz0 hz1 hz2 rfl (by decide) v8 n (sflat l) rfl HO7.out (.slice (some ⟨w6.heap.size, 0, none⟩) 1 1) 1 [.slice ya m yc] rfl (src_one HE7.out) (by unfold maxLen; omega) (by omega) (HB7.out).size ?_
      intro v9 w8 ho8 hg8
      have HB8 := Lib.hid ((HB7.out).grown hg8 (HB7.out).size (own_block (HO7.out)))
      have ho9 : w8.ownsRow W1.heap.size 25 1 v9 L.length (sflat L) := by rw [HLL.out, HFL.out]; exact ho8
      obtain ⟨a8, c8, ev, hr8⟩ := own_srow ho9 (HAL.out _ HB8.out)
      rw [HLL.out] at ev
      subst ev
      have HR8 := Lib.hid hr8; clear hr8 ho8 ho9 hg8
      refine hK.out _ _ ?_ (fun hHeld => ?_)
      · exact FS.out _ HB8.out
      clear hK K
      try simp only [Act.put, List.setIfInBounds_toArray, List.set_cons_zero, List.set_cons_succ]
      refine wpAnyH_take (i := 6) (v := ?_) (by simp only [List.getElem?_toArray, List.getElem?_cons_succ, List.getElem?_cons_zero]; rfl) (by kernel_rfl) (by kernel_rfl) (by kernel_rfl) (fun _ _ _ h => by exact h) (Or.inl ⟨by rfl, ?_⟩) (by assumption) ?_
      rotate_left
      · (intro w hSw; (try dsimp only at hSw); go_simp; try with_reducible rfl)
      try simp only [Act.put, List.setIfInBounds_toArray, List.set_cons_zero, List.set_cons_succ]
      refine wpAnyH_done (by kernel_rfl) ?_ _
      clear HAL HFL SRC HO6 FS
      obtain ⟨ad8, e8, -⟩ := HR8.out.row 0 (by show 0 < L.length; rw [HLL.out]; omega)
      have e8 : a8 = some ad8 := e8
      subst e8
      have hle : n + 1 ≤ c8 := by have h : L.length ≤ c8 := HR8.out.le; rw [HLL.out] at h; exact h
      have hcm : c8 ≤ 9223372036854775807 := by have h : c8 ≤ maxLen := HR8.out.cap; unfold maxLen at h; omega
      have HEND := Lib.hid (HW1.out.trans (HB8.out.mono HW1.out.size))
      by_cases g : n + 1 ≤ 16
      · have g2 : (n : Int) + 1 ≤ 16 := by omega
        have e0 : L = Q := by rw [← K1.out, show n + 1 - 16 = 0 by omega, List.drop_zero]
        subst e0
        go_wp2
        go_ret
        exact ⟨some ad8, c8, by rw [HLL.out]; rfl, HR8.out.mono HW1.out.size, HEND.out⟩
      · obtain ⟨j, hj⟩ : ∃ j, n + 1 - 16 = j := ⟨_, rfl⟩
        have g2 : (16 : Int) < (n : Int) + 1 := by omega
        have g3 : (n : Int) + 1 - 16 = (j : Int) := by omega
        have g4 : (0 : Int) ≤ (j : Int) := by omega
        have g5 : (j : Int) ≤ (n : Int) + 1 := by omega
        have g6 : ¬ c8 = j := by omega
        have hq : Q.length = n + 1 - j := by rw [← K1.out, List.length_drop, HLL.out, hj]
        have HRD := Lib.hid ((HR8.out.drop j).mono HW1.out.size)
        rw [show L.drop j = Q by rw [← K1.out, hj]] at HRD
        have HQ := Lib.hid hq
        clear hj hq
        go_wp2
        go_ret
        exact ⟨some (ad8.add j), c8 - j, by rw [HQ.out]; rfl, HRD.out, HEND.out⟩
    · go_simp
      have HEA := Lib.hid (Blk.new (W1.drew.alloc (.cells #[] 25)) #[.slice ya m yc] 25); replace HEA := Lib.hid (show Blk _ (W1.heap.size + 1) _ _ by have h := HEA.out; simpa using h); replace HBA := Lib.hid (HBA.out.alloc HBA.out.size (.cells #[.slice ya m yc] 25)); replace HOA := Lib.hid (HOA.out.alloc (.cells #[.slice ya m yc] 25))
      try go_wp2_with fail
      refine hK.out _ _ ?_ (fun hHeld => ?_)
      · exact FS.out _ HBA.out
      clear hK K
      try simp only [Act.put, List.setIfInBounds_toArray, List.set_cons_zero, List.set_cons_succ]
      refine wpAnyH_ready (rs := [2]) (by kernel_rfl) (by simp) ?_
      refine AllReadyH.cons (by simp only [List.getElem?_toArray, List.getElem?_cons_succ, List.getElem?_cons_zero]; rfl) (fun K hK => ?_) AllReadyH.nil
      refine step_append_src _ (by rfl) (.tmp 6) (.tmp 7) 22 rfl W1.heap.size 25 i0 _ 1 24 Try.underlying22 hi hz0 hz1 hz2 rfl (by decide) (.slice (some ⟨W1.heap.size, 0, none⟩) 0 0) 0 ([]) rfl HOA.out (.slice a n c) n (sflat l) rfl (SRC.out _ HBA.out) (by unfold maxLen; omega) (by omega) HBA.out.size ?_
      intro v8 w6 ho6 hg6
      have HB6 := Lib.hid (HBA.out.grown hg6 HBA.out.size (own_block HOA.out)); have HO6 := Lib.hid (show w6.ownsRow W1.heap.size 25 1 v8 n (sflat l) by simpa using ho6); have HE6 := Lib.hid (blk_grown HEA.out hg6 (by simp [Value.ownBlock]))
      refine hK.out _ _ ?_ (fun hHeld => ?_)
      · exact FS.out _ HB6.out
      clear hK K
      try simp only [Act.put, List.setIfInBounds_toArray, List.set_cons_zero, List.set_cons_succ]
      refine wpAnyH_ready (rs := [5]) (by kernel_rfl) (by simp) ?_
      refine AllReadyH.cons (by simp only [List.getElem?_toArray, List.getElem?_cons_succ, List.getElem?_cons_zero]; rfl) (fun K hK => ?_) AllReadyH.nil
      refine step_append_src _ (by rfl) (.tmp 8) (.tmp 10) 22 rfl W1.heap.size 25 i0 _ 1 24 Try.underlying22 hi hz0 hz1 hz2 rfl (by decide) v8 n (sflat l) rfl HO6.out (.slice (some ⟨(W1.heap.size + 1), 0, none⟩) 1 1) 1 [.slice ya m yc] rfl (src_one HE6.out) (by unfold maxLen; omega) (by omega) (HB6.out).size ?_
      intro v9 w8 ho8 hg8
      have HB8 := Lib.hid ((HB6.out).grown hg8 (HB6.out).size (own_block (HO6.out)))
      have ho9 : w8.ownsRow W1.heap.size 25 1 v9 L.length (sflat L) := by rw [HLL.out, HFL.out]; exact ho8
      obtain ⟨a8, c8, ev, hr8⟩ := own_srow ho9 (HAL.out _ HB8.out)
      rw [HLL.out] at ev
      subst ev
      have HR8 := Lib.hid hr8; clear hr8 ho8 ho9 hg8
      refine hK.out _ _ ?_ (fun hHeld => ?_)
      · exact FS.out _ HB8.out
      clear hK K
      try simp only [Act.put, List.setIfInBounds_toArray, List.set_cons_zero, List.set_cons_succ]
      refine wpAnyH_take (i := 6) (v := ?_) (by simp only [List.getElem?_toArray, List.getElem?_cons_succ, List.getElem?_cons_zero]; rfl) (by kernel_rfl) (by kernel_rfl) (by kernel_rfl) (fun _ _ _ h => by exact h) (Or.inl ⟨by rfl, ?_⟩) (by assumption) ?_
      rotate_left
      · (intro w hSw; (try dsimp only at hSw); go_simp; try with_reducible rfl)
      try simp only [Act.put, List.setIfInBounds_toArray, List.set_cons_zero, List.set_cons_succ]
      refine wpAnyH_done (by kernel_rfl) ?_ _
      clear HAL HFL SRC HO6 FS
      obtain ⟨ad8, e8, -⟩ := HR8.out.row 0 (by show 0 < L.length; rw [HLL.out]; omega)
      have e8 : a8 = some ad8 := e8
      subst e8
      have hle : n + 1 ≤ c8 := by have h : L.length ≤ c8 := HR8.out.le; rw [HLL.out] at h; exact h
      have hcm : c8 ≤ 9223372036854775807 := by have h : c8 ≤ maxLen := HR8.out.cap; unfold maxLen at h; omega
      have HEND := Lib.hid (HW1.out.trans (HB8.out.mono HW1.out.size))
      by_cases g : n + 1 ≤ 16
      · have g2 : (n : Int) + 1 ≤ 16 := by omega
        have e0 : L = Q := by rw [← K1.out, show n + 1 - 16 = 0 by omega, List.drop_zero]
        subst e0
        go_wp2
        go_ret
        exact ⟨some ad8, c8, by rw [HLL.out]; rfl, HR8.out.mono HW1.out.size, HEND.out⟩
      · obtain ⟨j, hj⟩ : ∃ j, n + 1 - 16 = j := ⟨_, rfl⟩
        have g2 : (16 : Int) < (n : Int) + 1 := by omega
        have g3 : (n : Int) + 1 - 16 = (j : Int) := by omega
        have g4 : (0 : Int) ≤ (j : Int) := by omega
        have g5 : (j : Int) ≤ (n : Int) + 1 := by omega
        have g6 : ¬ c8 = j := by omega
        have hq : Q.length = n + 1 - j := by rw [← K1.out, List.length_drop, HLL.out, hj]
        have HRD := Lib.hid ((HR8.out.drop j).mono HW1.out.size)
        rw [show L.drop j = Q by rw [← K1.out, hj]] at HRD
        have HQ := Lib.hid hq
        clear hj hq
        go_wp2
        go_ret
        exact ⟨some (ad8.add j), c8 - j, by rw [HQ.out]; rfl, HRD.out, HEND.out⟩
  · go_simp
    have HEA := Lib.hid (Blk.new W1.drew #[.slice ya m yc] 25); have HBE := Lib.hid ((Below.refl W1.heap.size W1).drew.alloc (Nat.le_refl _) (.cells #[.slice ya m yc] 25))
    try go_wp2_with fail
    refine hK.out _ _ ?_ (fun hHeld => ?_)
    · exact FS.out _ HBE.out
    clear hK K
    try simp only [Act.put, List.setIfInBounds_toArray, List.set_cons_zero, List.set_cons_succ]
    refine wpAnyH_ready (rs := [0]) (by kernel_rfl) (by simp) ?_
    refine AllReadyH.cons (by simp only [List.getElem?_toArray, List.getElem?_cons_succ, List.getElem?_cons_zero]; rfl) (fun K hK => ?_) AllReadyH.nil
    go_simp
    have HBA := Lib.hid (HBE.out.alloc HBE.out.size (.cells #[] 25)); have HOA := Lib.hid (show ((W1.drew.alloc (.cells #[.slice ya m yc] 25)).alloc (.cells #[] 25)).ownsRow W1.heap.size 25 1 (.slice (some ⟨(W1.drew.alloc (.cells #[.slice ya m yc] 25)).heap.size, 0, none⟩) 0 0) 0 [] from World.ownsRow_made (W1.drew.alloc (.cells #[.slice ya m yc] 25)) #[] 0 HBE.out.size (Nat.zero_le _) (by simp)); replace HOA := Lib.hid (show World.ownsRow _ _ _ _ (.slice (some ⟨W1.heap.size + 1, 0, none⟩) 0 0) _ _ by have h := HOA.out; simpa using h); replace HEA := Lib.hid (HEA.out.alloc (.cells #[] 25))
    try go_wp2_with fail
    refine hK.out _ _ ?_ (fun hHeld => ?_)
    · exact FS.out _ HBA.out
    clear hK K
    try simp only [Act.put, List.setIfInBounds_toArray, List.set_cons_zero, List.set_cons_succ]
    refine wpAnyH_ready (rs := [2]) (by kernel_rfl) (by simp) ?_
    refine AllReadyH.cons (by simp only [List.getElem?_toArray, List.getElem?_cons_succ, List.getElem?_cons_zero]; rfl) (fun K hK => ?_) AllReadyH.nil
    refine step_append_src _ (by rfl) (.tmp 6) (.tmp 7) 22 rfl W1.heap.size 25 i0 _ 1 24 Try.underlying22 hi hz0 hz1 hz2 rfl (by decide) (.slice (some ⟨W1.heap.size + 1, 0, none⟩) 0 0) 0 ([]) rfl HOA.out (.slice a n c) n (sflat l) rfl (SRC.out _ HBA.out) (by unfold maxLen; omega) (by omega) HBA.out.size ?_
    intro v8 w6 ho6 hg6
    have HB6 := Lib.hid (HBA.out.grown hg6 HBA.out.size (own_block HOA.out)); have HO6 := Lib.hid (show w6.ownsRow W1.heap.size 25 1 v8 n (sflat l) by simpa using ho6); have HE6 := Lib.hid (blk_grown HEA.out hg6 (by simp [Value.ownBlock]))
    refine hK.out _ _ ?_ (fun hHeld => ?_)
    · exact FS.out _ HB6.out
    clear hK K
    try simp only [Act.put, List.setIfInBounds_toArray, List.set_cons_zero, List.set_cons_succ]
    refine wpAnyH_ready (rs := [5]) (by kernel_rfl) (by simp) ?_
    refine AllReadyH.cons (by simp only [List.getElem?_toArray, List.getElem?_cons_succ, List.getElem?_cons_zero]; rfl) (fun K hK => ?_) AllReadyH.nil
    refine step_append_src _ (by rfl) (.tmp 8) (.tmp 10) 22 rfl W1.heap.size 25 i0 _ 1 24 Try.underlying22 hi hz0 hz1 hz2 rfl (by decide) v8 n (sflat l) rfl HO6.out (.slice (some ⟨W1.drew.heap.size, 0, none⟩) 1 1) 1 [.slice ya m yc] rfl (src_one HE6.out) (by unfold maxLen; omega) (by omega) (HB6.out).size ?_
    intro v9 w8 ho8 hg8
    have HB8 := Lib.hid ((HB6.out).grown hg8 (HB6.out).size (own_block (HO6.out)))
    have ho9 : w8.ownsRow W1.heap.size 25 1 v9 L.length (sflat L) := by rw [HLL.out, HFL.out]; exact ho8
    obtain ⟨a8, c8, ev, hr8⟩ := own_srow ho9 (HAL.out _ HB8.out)
    rw [HLL.out] at ev
    subst ev
    have HR8 := Lib.hid hr8; clear hr8 ho8 ho9 hg8
    refine hK.out _ _ ?_ (fun hHeld => ?_)
    · exact FS.out _ HB8.out
    clear hK K
    try simp only [Act.put, List.setIfInBounds_toArray, List.set_cons_zero, List.set_cons_succ]
    refine wpAnyH_take (i := 6) (v := ?_) (by simp only [List.getElem?_toArray, List.getElem?_cons_succ, List.getElem?_cons_zero]; rfl) (by kernel_rfl) (by kernel_rfl) (by kernel_rfl) (fun _ _ _ h => by exact h) (Or.inl ⟨by rfl, ?_⟩) (by assumption) ?_
    rotate_left
    · (intro w hSw; (try dsimp only at hSw); go_simp; try with_reducible rfl)
    try simp only [Act.put, List.setIfInBounds_toArray, List.set_cons_zero, List.set_cons_succ]
    refine wpAnyH_done (by kernel_rfl) ?_ _
    clear HAL HFL SRC HO6 FS
    obtain ⟨ad8, e8, -⟩ := HR8.out.row 0 (by show 0 < L.length; rw [HLL.out]; omega)
    have e8 : a8 = some ad8 := e8
    subst e8
    have hle : n + 1 ≤ c8 := by have h : L.length ≤ c8 := HR8.out.le; rw [HLL.out] at h; exact h
    have hcm : c8 ≤ 9223372036854775807 := by have h : c8 ≤ maxLen := HR8.out.cap; unfold maxLen at h; omega
    have HEND := Lib.hid (HW1.out.trans (HB8.out.mono HW1.out.size))
    by_cases g : n + 1 ≤ 16
    · have g2 : (n : Int) + 1 ≤ 16 := by omega
      have e0 : L = Q := by rw [← K1.out, show n + 1 - 16 = 0 by omega, List.drop_zero]
      subst e0
      go_wp2
      go_ret
      exact ⟨some ad8, c8, by rw [HLL.out]; rfl, HR8.out.mono HW1.out.size, HEND.out⟩
    · obtain ⟨j, hj⟩ : ∃ j, n + 1 - 16 = j := ⟨_, rfl⟩
      have g2 : (16 : Int) < (n : Int) + 1 := by omega
      have g3 : (n : Int) + 1 - 16 = (j : Int) := by omega
      have g4 : (0 : Int) ≤ (j : Int) := by omega
      have g5 : (j : Int) ≤ (n : Int) + 1 := by omega
      have g6 : ¬ c8 = j := by omega
      have hq : Q.length = n + 1 - j := by rw [← K1.out, List.length_drop, HLL.out, hj]
      have HRD := Lib.hid ((HR8.out.drop j).mono HW1.out.size)
      rw [show L.drop j = Q by rw [← K1.out, hj]] at HRD
      have HQ := Lib.hid hq
      clear hj hq
      go_wp2
      go_ret
      exact ⟨some (ad8.add j), c8 - j, by rw [HQ.out]; rfl, HRD.out, HEND.out⟩
end Go.Proofs.Ythboipmlkgmofaa
