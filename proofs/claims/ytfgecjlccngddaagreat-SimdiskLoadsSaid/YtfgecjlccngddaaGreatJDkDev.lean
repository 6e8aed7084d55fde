/-
  Joined: DkDev0.
-/
import Derived.Test.YtfgecjlccngddaaGreatJDiskMath
import Derived.Test.YtfgecjlccngddaaGreatJDkMap
import Derived.Test.YtfgecjlccngddaaGreatJFoldDevB
import Derived.Test.YtfgecjlccngddaaGreatJFuseDev
import Derived.Test.YtfgecjlccngddaaGreatJTapeDevB
namespace Go.Proofs.YtfgecjlccngddaaGreat
set_option linter.unusedSimpArgs false
set_option linter.unusedVariables false
open Go.RowKit
set_option linter.unusedVariables false

abbrev dkBox (D : Dsk) (bm : Nat) (an af : Addr) (born : Nat) : Array Value := #[.int .i64 D.sec, .map (some bm), .pointer (some an), .pointer (some af), .int .i64 born, .int .i64 D.calls]
/-- A disk's parts: the box, the map (its numbers, each with its tape's block), the folder, the fuse; born: the last number given. -/
structure DkM (w : World) (ad bm : Nat) (an af : Addr) (Sn Sf : List Nat) (ids : List Int) (blk : Int → Nat) (born : Nat) (D : Dsk) : Prop where
  box : Blk w ad (dkBox D bm an af born) 67
  map : TMap w bm ids blk
  fold : IsFold w Sn an D.L
  fuse : IsFuse w Sf af D.fu
  taps : ∀ i ∈ ids, Tap w (blk i) (D.t i).k (D.t i).n
  rise : riseI ids
  rng : ∀ i ∈ ids, 1 ≤ i ∧ i ≤ D.tp.length
  inj : ∀ i ∈ ids, ∀ j ∈ ids, blk i = blk j → i = j
  adn : ad ∉ Sn
  adf : ad ∉ Sf
  bmn : bm ∉ Sn
  bmf : bm ∉ Sf
  nf : ∀ b ∈ Sn, b ∉ Sf
  tn : ∀ i ∈ ids, blk i ∉ Sn
  tf : ∀ i ∈ ids, blk i ∉ Sf
def dkS (ad bm : Nat) (Sn Sf : List Nat) (ids : List Int) (blk : Int → Nat) : List Nat := ad :: bm :: (Sn ++ (Sf ++ ids.map blk))
theorem mem_dkS {ad bm : Nat} {Sn Sf : List Nat} {ids : List Int} {blk : Int → Nat} {b : Nat} : b ∈ dkS ad bm Sn Sf ids blk ↔ b = ad ∨ b = bm ∨ b ∈ Sn ∨ b ∈ Sf ∨ ∃ i ∈ ids, blk i = b := by
  simp [dkS]
section
variable {w w' : World} {ad bm : Nat} {an af : Addr} {Sn Sf : List Nat} {ids : List Int} {blk : Int → Nat} {born : Nat} {D : Dsk}
theorem DkM.ad_bm (h : DkM w ad bm an af Sn Sf ids blk born D) : ad ≠ bm := fun e => by
  obtain ⟨es, c, hm⟩ := h.map.isMap
  have hb : w.heap[ad]? = _ := h.box
  rw [e, hm] at hb
  cases hb
theorem DkM.t_bm (h : DkM w ad bm an af Sn Sf ids blk born D) {i : Int} (hi : i ∈ ids) : blk i ≠ bm := fun e => by
  obtain ⟨es, c, hm⟩ := h.map.isMap
  have hb : w.heap[blk i]? = _ := h.taps i hi
  rw [e, hm] at hb
  cases hb
theorem DkM.t_ad (h : DkM w ad bm an af Sn Sf ids blk born D) {i : Int} (hi : i ∈ ids) : blk i ≠ ad := fun e => by
  have hb : w.heap[blk i]? = _ := h.taps i hi
  have hc : w.heap[ad]? = _ := h.box
  rw [e, hc] at hb
  cases hb
theorem DkM.lt (h : DkM w ad bm an af Sn Sf ids blk born D) : ∀ b ∈ dkS ad bm Sn Sf ids blk, b < w.heap.size := fun b hb => by
  rcases mem_dkS.1 hb with rfl | rfl | g | g | ⟨i, hi, rfl⟩
  · exact h.box.lt
  · exact h.map.lt
  · exact h.fold.lt _ g
  · exact h.fuse.lt _ g
  · exact Tap3.lt (h.taps i hi)
theorem DkM.kept {T : List Nat} (h : DkM w ad bm an af Sn Sf ids blk born D) (ha : Apart T w w') (hs : ∀ b ∈ dkS ad bm Sn Sf ids blk, b ∉ T) : DkM w' ad bm an af Sn Sf ids blk born D :=
  { h with
    box := (ha.block ad h.box.lt (hs _ (mem_dkS.2 (.inl rfl)))).trans h.box
    map := h.map.keep (ha.block bm h.map.lt (hs _ (mem_dkS.2 (.inr (.inl rfl)))))
    fold := h.fold.kept ha fun b hb => hs b (mem_dkS.2 (.inr (.inr (.inl hb))))
    fuse := h.fuse.kept ha fun b hb => hs b (mem_dkS.2 (.inr (.inr (.inr (.inl hb)))))
    taps := fun i hi => Tap.apart (h.taps i hi) ha (hs _ (mem_dkS.2 (.inr (.inr (.inr (.inr ⟨i, hi, rfl⟩)))))) }
theorem DkM.below (h : DkM w ad bm an af Sn Sf ids blk born D) (hb : Below w.heap.size w w') : DkM w' ad bm an af Sn Sf ids blk born D := h.kept (.of_below (S := []) hb) (by simp)
/-- The fuse has turned. -/
theorem DkM.onFuse {Sf' : List Nat} {F : Fus} (h : DkM w ad bm an af Sn Sf ids blk born D) (hf : IsFuse w' Sf' af F) (ha : Apart Sf w w') (hs : ∀ b ∈ Sf', b ∈ Sf ∨ w.heap.size ≤ b) :
    DkM w' ad bm an af Sn Sf' ids blk born { D with fu := F } :=
  have far : ∀ b, b < w.heap.size → b ∉ Sf → b ∉ Sf' := fun b hb hn g => by
    rcases hs b g with g | g
    · exact hn g
    · omega
  { box := (ha.block ad h.box.lt h.adf).trans h.box
    map := h.map.keep (ha.block bm h.map.lt h.bmf)
    fold := h.fold.kept ha h.nf
    fuse := hf
    taps := fun i hi => Tap.apart (h.taps i hi) ha (h.tf i hi)
    rise := h.rise, rng := h.rng, inj := h.inj, adn := h.adn, bmn := h.bmn, tn := h.tn
    adf := far _ h.box.lt h.adf
    bmf := far _ h.map.lt h.bmf
    nf := fun b hb => far b (h.fold.lt b hb) (h.nf b hb)
    tf := fun i hi => far _ (Tap3.lt (h.taps i hi)) (h.tf i hi) }
/-- The folder has turned. -/
theorem DkM.onFold {Sn' : List Nat} {L : List (List Ent)} (h : DkM w ad bm an af Sn Sf ids blk born D) (hf : IsFold w' Sn' an L) (ha : Apart Sn w w') (hs : ∀ b ∈ Sn', b ∈ Sn ∨ w.heap.size ≤ b) :
    DkM w' ad bm an af Sn' Sf ids blk born { D with L := L } :=
  have far : ∀ b, b < w.heap.size → b ∉ Sn → b ∉ Sn' := fun b hb hn g => by
    rcases hs b g with g | g
    · exact hn g
    · omega
  { box := (ha.block ad h.box.lt h.adn).trans h.box
    map := h.map.keep (ha.block bm h.map.lt h.bmn)
    fold := hf
    fuse := h.fuse.kept ha fun b hb g => h.nf b g hb
    taps := fun i hi => Tap.apart (h.taps i hi) ha (h.tn i hi)
    rise := h.rise, rng := h.rng, inj := h.inj, adf := h.adf, bmf := h.bmf, tf := h.tf
    adn := far _ h.box.lt h.adn
    bmn := far _ h.map.lt h.bmn
    nf := fun b hb g => by
      rcases hs b hb with k | k
      · exact h.nf b k g
      · have := h.fuse.lt b g; omega
    tn := fun i hi => far _ (Tap3.lt (h.taps i hi)) (h.tn i hi) }
theorem Dsk.t_set (D : Dsk) (i j : Int) (t : Tp) (hi : 1 ≤ i ∧ i ≤ D.tp.length) (hj : 1 ≤ j ∧ j ≤ D.tp.length) : (D.set i t).t j = if i = j then t else D.t j := by
  unfold Dsk.t Dsk.set
  simp only [List.getD_eq_getElem?_getD, List.getElem?_set]
  by_cases e : i = j
  · subst e
    rw [if_pos rfl, if_pos rfl, if_pos (by omega)]
    rfl
  · rw [if_neg (by omega), if_neg e]
/-- A tape has turned. -/
theorem DkM.onTape {i : Int} {k n : ByteArray} (h : DkM w ad bm an af Sn Sf ids blk born D) (hi : i ∈ ids) (ht : Tap w' (blk i) k n) (ha : Apart [blk i] w w') :
    DkM w' ad bm an af Sn Sf ids blk born (D.set i ⟨k, n⟩) :=
  have hl : (D.set i ⟨k, n⟩).tp.length = D.tp.length := List.length_set
  have no : ∀ b, b ≠ blk i → b ∉ [blk i] := fun b hb g => hb (List.mem_singleton.1 g)
  { box := (ha.block ad h.box.lt (no _ (h.t_ad hi).symm)).trans h.box
    map := h.map.keep (ha.block bm h.map.lt (no _ (h.t_bm hi).symm))
    fold := h.fold.kept ha fun b hb => no b fun e => h.tn i hi (e ▸ hb)
    fuse := h.fuse.kept ha fun b hb => no b fun e => h.tf i hi (e ▸ hb)
    taps := fun j hj => by
      rw [D.t_set i j _ (h.rng i hi) (h.rng j hj)]
      by_cases e : i = j
      · rw [if_pos e, ← e]; exact ht
      · rw [if_neg e]
        exact Tap.apart (h.taps j hj) ha (no _ fun g => e (h.inj j hj i hi g).symm)
    rise := h.rise, rng := fun j hj => by rw [hl]; exact h.rng j hj
    inj := h.inj, adn := h.adn, bmn := h.bmn, tn := h.tn, adf := h.adf, bmf := h.bmf, tf := h.tf, nf := h.nf }
/-- How often the fuse was asked is counted. -/
theorem DkM.onCalls (h : DkM w ad bm an af Sn Sf ids blk born D) (c : Int) : DkM (w.setCell ⟨ad, 5, none⟩ (.int .i64 c)) ad bm an af Sn Sf ids blk born { D with calls := c } :=
  have ha : Apart [ad] w (w.setCell ⟨ad, 5, none⟩ (.int .i64 c)) := (Apart.refl [ad] w).setCell (.inl (by simp)) _
  have no : ∀ b, b ≠ ad → b ∉ [ad] := fun b hb g => hb (List.mem_singleton.1 g)
  { h with
    box := by have := h.box.set 5 (.int .i64 c); simpa using this
    map := h.map.keep (ha.block bm h.map.lt (no _ h.ad_bm.symm))
    fold := h.fold.kept ha fun b hb => no b fun e => h.adn (e ▸ hb)
    fuse := h.fuse.kept ha fun b hb => no b fun e => h.adf (e ▸ hb)
    taps := fun i hi => Tap.apart (h.taps i hi) ha (no _ (h.t_ad hi)) }
/-- A number more is given. -/
theorem DkM.onBorn (h : DkM w ad bm an af Sn Sf ids blk born D) (c : Nat) : DkM (w.setCell ⟨ad, 4, none⟩ (.int .i64 c)) ad bm an af Sn Sf ids blk c D :=
  have ha : Apart [ad] w (w.setCell ⟨ad, 4, none⟩ (.int .i64 c)) := (Apart.refl [ad] w).setCell (.inl (by simp)) _
  have no : ∀ b, b ≠ ad → b ∉ [ad] := fun b hb g => hb (List.mem_singleton.1 g)
  { h with
    box := by have := h.box.set 4 (.int .i64 c); simpa using this
    map := h.map.keep (ha.block bm h.map.lt (no _ h.ad_bm.symm))
    fold := h.fold.kept ha fun b hb => no b fun e => h.adn (e ▸ hb)
    fuse := h.fuse.kept ha fun b hb => no b fun e => h.adf (e ▸ hb)
    taps := fun i hi => Tap.apart (h.taps i hi) ha (no _ (h.t_ad hi)) }
def updB (blk : Int → Nat) (n : Int) (t : Nat) : Int → Nat := fun i => if i = n then t else blk i
/-- A tape of a file is laid in another's place. -/
theorem DkM.onPut {i : Int} {t : Nat} {k n : ByteArray} (h : DkM w ad bm an af Sn Sf ids blk born D) (hi : i ∈ ids) (hm : TMap w' bm ids (updB blk i t)) (ha : Apart [bm] w w') (ht : Tap w t k n) (hfar : t ∉ dkS ad bm Sn Sf ids blk) :
    DkM w' ad bm an af Sn Sf ids (updB blk i t) born (D.set i ⟨k, n⟩) :=
  have hl : (D.set i ⟨k, n⟩).tp.length = D.tp.length := List.length_set
  have no : ∀ b, b ≠ bm → b ∉ [bm] := fun b hb g => hb (List.mem_singleton.1 g)
  have tb : t ≠ bm := fun e => hfar (mem_dkS.2 (.inr (.inl e)))
  have ts : ∀ j ∈ ids, t ≠ blk j := fun j hj e => hfar (mem_dkS.2 (.inr (.inr (.inr (.inr ⟨j, hj, e.symm⟩)))))
  { box := (ha.block ad h.box.lt (no _ h.ad_bm)).trans h.box
    map := hm
    fold := h.fold.kept ha fun b hb => no b fun e => h.bmn (e ▸ hb)
    fuse := h.fuse.kept ha fun b hb => no b fun e => h.bmf (e ▸ hb)
    taps := fun j hj => by
      rw [D.t_set i j _ (h.rng i hi) (h.rng j hj)]
      unfold updB
      by_cases e : i = j
      · rw [if_pos e, if_pos e.symm]; exact Tap.apart ht ha (no _ tb)
      · rw [if_neg e, if_neg (fun g => e g.symm)]
        exact Tap.apart (h.taps j hj) ha (no _ (h.t_bm hj))
    rise := h.rise, rng := fun j hj => by rw [hl]; exact h.rng j hj
    inj := fun x hx y hy e => by
      unfold updB at e
      by_cases e1 : x = i <;> by_cases e2 : y = i
      · rw [e1, e2]
      · rw [if_pos e1, if_neg e2] at e; exact absurd e (ts y hy)
      · rw [if_neg e1, if_pos e2] at e; exact absurd e.symm (ts x hx)
      · rw [if_neg e1, if_neg e2] at e; exact h.inj x hx y hy e
    adn := h.adn, bmn := h.bmn, adf := h.adf, bmf := h.bmf, nf := h.nf
    tn := fun j hj g => by
      unfold updB at g
      split at g
      · exact hfar (mem_dkS.2 (.inr (.inr (.inl g))))
      · exact h.tn j hj g
    tf := fun j hj g => by
      unfold updB at g
      split at g
      · exact hfar (mem_dkS.2 (.inr (.inr (.inr (.inl g)))))
      · exact h.tf j hj g }
theorem Dsk.t_app (D : Dsk) (t : Tp) (i : Int) (hi : 1 ≤ i ∧ i ≤ D.tp.length) (L : List (List Ent)) (F : Fus) (c : Int) : Dsk.t ⟨D.sec, D.tp ++ [t], L, F, c⟩ i = D.t i := by
  unfold Dsk.t
  simp only [List.getD_eq_getElem?_getD]
  rw [List.getElem?_append_left (by omega)]
theorem Dsk.t_last (D : Dsk) (t : Tp) (L : List (List Ent)) (F : Fus) (c : Int) : Dsk.t ⟨D.sec, D.tp ++ [t], L, F, c⟩ (D.tp.length + 1 : Nat) = t := by
  unfold Dsk.t
  simp only [List.getD_eq_getElem?_getD]
  rw [show (((D.tp.length + 1 : Nat) : Int) - 1).toNat = D.tp.length from by omega]
  simp
/-- A new file's tape is laid into the map. -/
theorem DkM.onNew {t : Nat} {k n : ByteArray} (h : DkM w ad bm an af Sn Sf ids blk (D.tp.length + 1) D) (hm : TMap w' bm (ids ++ [((D.tp.length + 1 : Nat) : Int)]) (updB blk (D.tp.length + 1 : Nat) t)) (ha : Apart [bm] w w') (ht : Tap w t k n) (hfar : t ∉ dkS ad bm Sn Sf ids blk) :
    DkM w' ad bm an af Sn Sf (ids ++ [((D.tp.length + 1 : Nat) : Int)]) (updB blk (D.tp.length + 1 : Nat) t) (D.tp.length + 1) { D with tp := D.tp ++ [⟨k, n⟩] } :=
  have no : ∀ b, b ≠ bm → b ∉ [bm] := fun b hb g => hb (List.mem_singleton.1 g)
  have tb : t ≠ bm := fun e => hfar (mem_dkS.2 (.inr (.inl e)))
  have ts : ∀ j ∈ ids, t ≠ blk j := fun j hj e => hfar (mem_dkS.2 (.inr (.inr (.inr (.inr ⟨j, hj, e.symm⟩)))))
  have old : ∀ j ∈ ids, updB blk (D.tp.length + 1 : Nat) t j = blk j := fun j hj => by
    have := (h.rng j hj).2
    exact if_neg (by omega)
  have new : updB blk (D.tp.length + 1 : Nat) t (D.tp.length + 1 : Nat) = t := if_pos rfl
  { box := (ha.block ad h.box.lt (no _ h.ad_bm)).trans h.box
    map := hm
    fold := h.fold.kept ha fun b hb => no b fun e => h.bmn (e ▸ hb)
    fuse := h.fuse.kept ha fun b hb => no b fun e => h.bmf (e ▸ hb)
    taps := fun j hj => by
      rcases List.mem_append.1 hj with hj | hj
      · rw [old j hj, D.t_app _ j (h.rng j hj)]; exact Tap.apart (h.taps j hj) ha (no _ (h.t_bm hj))
      · rw [List.mem_singleton.1 hj, new, D.t_last]; exact Tap.apart ht ha (no _ tb)
    rise := List.pairwise_append.2 ⟨h.rise, by simp, fun a ha b hb => by have := (h.rng a ha).2; rw [List.mem_singleton.1 hb]; omega⟩
    rng := fun j hj => by
      rcases List.mem_append.1 hj with hj | hj
      · have := h.rng j hj; simp only [List.length_append, List.length_singleton]; omega
      · rw [List.mem_singleton.1 hj]; simp only [List.length_append, List.length_singleton]; omega
    inj := fun x hx y hy e => by
      rcases List.mem_append.1 hx with hx | hx <;> rcases List.mem_append.1 hy with hy | hy
      · rw [old x hx, old y hy] at e; exact h.inj x hx y hy e
      · rw [old x hx, List.mem_singleton.1 hy, new] at e; exact absurd e.symm (ts x hx)
      · rw [old y hy, List.mem_singleton.1 hx, new] at e; exact absurd e (ts y hy)
      · rw [List.mem_singleton.1 hx, List.mem_singleton.1 hy]
    adn := h.adn, bmn := h.bmn, adf := h.adf, bmf := h.bmf, nf := h.nf
    tn := fun j hj g => by
      rcases List.mem_append.1 hj with hj | hj
      · rw [old j hj] at g; exact h.tn j hj g
      · rw [List.mem_singleton.1 hj, new] at g; exact hfar (mem_dkS.2 (.inr (.inr (.inl g))))
    tf := fun j hj g => by
      rcases List.mem_append.1 hj with hj | hj
      · rw [old j hj] at g; exact h.tf j hj g
      · rw [List.mem_singleton.1 hj, new] at g; exact hfar (mem_dkS.2 (.inr (.inr (.inr (.inl g))))) }
/-- Tapes are forgotten. -/
theorem DkM.onDel {ids' : List Int} (h : DkM w ad bm an af Sn Sf ids blk born D) (hm : TMap w' bm ids' blk) (ha : Apart [bm] w w') (hsub : ∀ i ∈ ids', i ∈ ids) (hr : riseI ids') : DkM w' ad bm an af Sn Sf ids' blk born D :=
  have no : ∀ b, b ≠ bm → b ∉ [bm] := fun b hb g => hb (List.mem_singleton.1 g)
  { box := (ha.block ad h.box.lt (no _ h.ad_bm)).trans h.box
    map := hm
    fold := h.fold.kept ha fun b hb => no b fun e => h.bmn (e ▸ hb)
    fuse := h.fuse.kept ha fun b hb => no b fun e => h.bmf (e ▸ hb)
    taps := fun j hj => Tap.apart (h.taps j (hsub j hj)) ha (no _ (h.t_bm (hsub j hj)))
    rise := hr, rng := fun j hj => h.rng j (hsub j hj)
    inj := fun x hx y hy e => h.inj x (hsub x hx) y (hsub y hy) e
    adn := h.adn, bmn := h.bmn, adf := h.adf, bmf := h.bmf, nf := h.nf
    tn := fun j hj => h.tn j (hsub j hj)
    tf := fun j hj => h.tf j (hsub j hj) }
end
/-- A disk in memory, at rest: its map has the numbers of all files that can be there still. -/
def IsDkz (w : World) (S : List Nat) (a : Addr) (D : Dsk) : Prop :=
  ∃ ad bm an af Sn Sf blk, a = ⟨ad, 0, none⟩ ∧ S = dkS ad bm Sn Sf (idsK D.L) blk ∧ DkM w ad bm an af Sn Sf (idsK D.L) blk D.tp.length D
structure IsDk (w : World) (S : List Nat) (a : Addr) (D : Dsk) : Prop where
  out : IsDkz w S a D
theorem DkM.is {w : World} {ad bm : Nat} {an af : Addr} {Sn Sf : List Nat} {blk : Int → Nat} {D : Dsk} (h : DkM w ad bm an af Sn Sf (idsK D.L) blk D.tp.length D) : IsDk w (dkS ad bm Sn Sf (idsK D.L) blk) ⟨ad, 0, none⟩ D := ⟨⟨ad, bm, an, af, Sn, Sf, blk, rfl, rfl, h⟩⟩
theorem IsDk.lt {w : World} {S : List Nat} {a : Addr} {D : Dsk} (h : IsDk w S a D) : ∀ b ∈ S, b < w.heap.size := by
  obtain ⟨ad, bm, an, af, Sn, Sf, blk, rfl, rfl, k⟩ := h.out
  exact DkM.lt k
theorem IsDk.kept {w w' : World} {S S' : List Nat} {a : Addr} {D : Dsk} (h : IsDk w S a D) (ha : Apart S' w w') (hs : ∀ b ∈ S, b ∉ S') : IsDk w' S a D := by
  obtain ⟨ad, bm, an, af, Sn, Sf, blk, rfl, rfl, k⟩ := h.out
  exact DkM.is (DkM.kept k ha hs)
theorem IsDk.below {w w' : World} {S : List Nat} {a : Addr} {D : Dsk} (h : IsDk w S a D) (hb : Below w.heap.size w w') : IsDk w' S a D := h.kept (.of_below (S := []) hb) (by simp)
/-- A call of a disk: it answers v, the disk is D' then, and nothing but its own blocks has turned; its new blocks were made since w (B: or lie from there on). -/
def UpdB (B : Nat) (w : World) (S : List Nat) (a : Addr) (D' : Dsk) (v : Value) (e : Ending) (w' : World) : Prop :=
  e = .returned v ∧ ∃ S', IsDk w' S' a D' ∧ Apart S w w' ∧ ∀ b ∈ S', b ∈ S ∨ B ≤ b
def UpdK (w : World) (S : List Nat) (a : Addr) (D' : Dsk) (v : Value) (e : Ending) (w' : World) : Prop :=
  e = .returned v ∧ ∃ S', IsDk w' S' a D' ∧ Apart S w w' ∧ ∀ b ∈ S', b ∈ S ∨ w.heap.size ≤ b
/-- A call that answers a disk of its own, or none. -/
def NewK (w : World) (r : Dsk × Int) (e : Ending) (w' : World) : Prop :=
  if r.2 = 0 then ∃ a S, e = .returned (.tuple #[.pointer (some a), .int .i64 0]) ∧ IsDk w' S a r.1 ∧ (∀ b ∈ S, w.heap.size ≤ b) ∧ Below w.heap.size w w'
  else e = .returned (.tuple #[.pointer none, .int .i64 r.2]) ∧ Below w.heap.size w w'
theorem Dsk.okL {D : Dsk} (h : D.ok 199) : okL 500 D.L := by
  obtain ⟨_, _, ⟨h3, h4, h5⟩, _⟩ := h
  exact ⟨h3, by omega, fun l hl => by have := h5 l hl; omega⟩
end Go.Proofs.YtfgecjlccngddaaGreat
