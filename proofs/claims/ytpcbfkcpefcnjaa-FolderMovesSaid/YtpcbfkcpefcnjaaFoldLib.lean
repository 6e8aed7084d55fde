/-
  The library's functions at the folder's maps and rows (layer 9): the names sorted, the numbers collected, sorted, told once, the changes cloned.
-/
import Derived.Test.YtpcbfkcpefcnjaaFoldDev4
import Derived.Lib.OwnBridge
import Derived.Sort.OwnSortedInts
namespace Go.Proofs.Ytpcbfkcpefcnjaa
open Go.RowKit
set_option linter.unusedVariables false

theorem callsW {n : Nat} {P : Program} {f : FuncId} {args : Array Value} {w : World} {post : Ending → World → Prop} (h : CallsIn Fence.wide n P f args w post) : Calls P f args w post := callsIn_wide.1 h

theorem fokeys_any (b : Nat) (w : World) : Calls Try.prog 53 #[.map (some b)] w fun e w' =>
    e = .returned (.func (.func 60) #[] #[.pointer (some ⟨w.heap.size, 0, none⟩)]) ∧ w' = w.alloc (.cells #[.map (some b)] 48) :=
  callsW (n := 5) (AnyZ.keys_in Try.foKeys Fence.wide 5 trivial rfl (some b) w)
theorem fovals_any (b : Nat) (w : World) : Calls Try.prog 43 #[.map (some b)] w fun e w' =>
    e = .returned (.func (.func 55) #[] #[.pointer (some ⟨w.heap.size, 0, none⟩)]) ∧ w' = w.alloc (.cells #[.map (some b)] 48) :=
  callsW (n := 5) (AnyY.values_in Try.foVals Fence.wide 5 trivial rfl (some b) w)
theorem fosorts (m : Nat) : AnyZ.SortsIn Try.prog Try.foSorted_ren Fence.wide m :=
  ⟨fun blk off cap ss W hH hblk hsz => callsIn_wide.2 (AnyM.slices_Sort_string Try.foSortS blk off cap ss W hH hblk hsz),
   fun p cap W => callsIn_wide.2 (AnyM.slices_Sort_string_none Try.foSortS p cap W)⟩
/-- The names, sorted, are the names. -/
theorem sorted_names {l : List Ent} (hl : rise l) {ss : List (List UInt8)} (h : ss.Perm (l.map (fun e => e.name.data.toList))) : ss.mergeSort (fun x y => decide (x ≤ y)) = l.map (fun e => e.name.data.toList) := by
  rw [mergeSort_of_perm h]
  refine List.mergeSort_of_pairwise (List.pairwise_map.2 (hl.imp fun {a b} hab => ?_))
  have : a.name.data.toList < b.name.data.toList := hab
  exact decide_eq_true (List.le_of_lt this)
set_option maxHeartbeats 1000000 in
theorem fosorted_any {w : World} {b : Nat} {l : List Ent} (h : MapE w b l) (hl : okE l) (hn : l.length ≤ 1000000) :
    Calls Try.prog 52 #[.func (.func 60) #[] #[.pointer (some ⟨w.heap.size, 0, none⟩)]] (w.alloc (.cells #[.map (some b)] 48)) fun e w' => ∃ v, e = .returned v ∧
      w'.ownsRow (w.heap.size + 1) 9 1 v l.length (l.map fun e => .string e.name) ∧ Below (w.heap.size + 1) (w.alloc (.cells #[.map (some b)] 48)) w' := by
  obtain ⟨D, hown, hr⟩ := h
  have hsz := reads_size hown hr hl.1
  have hbl := hown.lt
  have hseq : SeqGives Fence.wide 2 Try.prog 60 #[.pointer (some ⟨w.heap.size, 0, none⟩)] encStr (fun ss => ss.Perm (strKeys D)) (Maps.size D) (w.alloc (.cells #[.map (some b)] 48)) :=
    AnyZ.keys_gives (ρ := Try.foKeys_ren) { Try.foKeys with } Fence.wide _ trivial rfl (by omega) w.heap.size b (Maps.size D) D _ (by simp) (by simp) (by
      obtain ⟨es, clock, hb, Ft, hs, hD⟩ := hown
      exact ⟨es, clock, (Below.heap_alloc _ _ b hbl).trans hb, Ft, hs, hD⟩)
  have c := AnyZ.sorted_in Try.foSorted Fence.wide 5 trivial trivial trivial trivial rfl (by omega) (fosorts _) (enters_of Try.func59 (by kernel_rfl) rfl) 60 #[.pointer (some ⟨w.heap.size, 0, none⟩)] trivial (enters_of Try.func60 (by kernel_rfl) rfl) _ _ (by unfold maxLen; omega) (by omega) _ hseq
  refine (callsW c).mono ?_
  rintro e w' ⟨v, ss, rfl, hS, hrow, _, hb⟩
  have hp := hS.trans (reads_keys hown hr hl.1).symm
  have e1 := sorted_names hl.1 hp
  have e2 : ss.length = l.length := by rw [hp.length_eq, List.length_map]
  refine ⟨v, rfl, ?_, by simpa using hb⟩
  rw [e1, e2] at hrow
  have e3 : (l.map (fun e => e.name.data.toList)).map encStr = l.map fun e => Value.string e.name := by
    rw [List.map_map]
    apply List.map_congr_left
    intro x _
    simp [encStr]
  rw [e3] at hrow
  have hrow2 : w'.ownsRow (w.alloc (.cells #[.map (some b)] 48)).heap.size 9 1 v l.length (l.map fun e => .string e.name) := hrow
  simpa using hrow2
/-- The numbers of what is read, in some order. -/
theorem vals_perm {w : World} {b n : Nat} {D : DataW Unit} (hown : w.ownsMap Try.prog 9 (plainElem Try.prog 3) b n D) {l : List Ent} (h : Reads D l) (hl : rise l) {ps : List (List UInt8 × Int)} (hps : AnyY.AllOf D ps) : (ps.map (·.2)).Perm (l.map (·.id)) := by
  obtain ⟨h1, h2, h3⟩ := hps
  have hp : (ps.map (·.1)).Perm (l.map (fun e => e.name.data.toList)) := h1.trans (reads_keys hown h hl).symm
  have e1 : ps.map (·.2) = (ps.map (·.1)).map (fun x => (findE l ⟨x.toArray⟩).getD 0) := by
    rw [List.map_map]
    apply List.map_congr_left
    intro p hpp
    have hv := h3 p hpp (.lit (.int .i64 0))
    have hin : p.1 ∈ ps.map (·.1) := List.mem_map.2 ⟨p, hpp, rfl⟩
    have hh := (h2 p.1).1 hin
    have hd : (⟨p.1.toArray⟩ : ByteArray).data.toList = p.1 := rfl
    have hs := h.1 ⟨p.1.toArray⟩
    rw [hd, hh] at hs
    obtain ⟨m, hm⟩ := Option.isSome_iff_exists.1 hs.symm
    have hr := h.2 ⟨p.1.toArray⟩ m hm (.lit (.int .i64 0))
    rw [hd, hv] at hr
    show p.2 = (findE l ⟨p.1.toArray⟩).getD 0
    rw [hm]
    show p.2 = m
    simpa using hr
  have e2 : (l.map (fun e => e.name.data.toList)).map (fun x => (findE l ⟨x.toArray⟩).getD 0) = l.map (·.id) := by
    rw [List.map_map]
    apply List.map_congr_left
    intro x hx
    show (findE l ⟨x.name.data.toList.toArray⟩).getD 0 = x.id
    have : (⟨x.name.data.toList.toArray⟩ : ByteArray) = x.name := by cases x.name; simp
    rw [this, findE_rise hl x hx]
    rfl
  rw [e1, ← e2]
  exact hp.map _
set_option maxHeartbeats 1000000 in
theorem focollect_any {w : World} {b : Nat} {l : List Ent} (h : MapE w b l) (hl : okE l) (hn : l.length ≤ 1000000) :
    Calls Try.prog 42 #[.func (.func 55) #[] #[.pointer (some ⟨w.heap.size, 0, none⟩)]] (w.alloc (.cells #[.map (some b)] 48)) fun e w' => ∃ (v : Value) (zs : List Int), e = .returned v ∧ zs.Perm (l.map (·.id)) ∧
      w'.ownsRow (w.heap.size + 1) 3 1 v zs.length (zs.map (Value.int .i64)) ∧ Below (w.heap.size + 1) (w.alloc (.cells #[.map (some b)] 48)) w' := by
  obtain ⟨D, hown, hr⟩ := h
  have hsz := reads_size hown hr hl.1
  have hbl := hown.lt
  have hseq : SeqGives Fence.wide 3 Try.prog 55 #[.pointer (some ⟨w.heap.size, 0, none⟩)] (fun c : Int => Value.int .i64 c) (fun xs => ∃ ps, AnyY.AllOf D ps ∧ xs = ps.map (·.2)) (Maps.size D) (w.alloc (.cells #[.map (some b)] 48)) :=
    (AnyY.values_stops (ρ := Try.foVals_ren) { Try.foVals with } Fence.wide _ trivial rfl (by omega) w.heap.size b (Maps.size D) D _ (by simp) (by simp) (by
      obtain ⟨es, clock, hb, Ft, hs, hD⟩ := hown
      exact ⟨es, clock, (Below.heap_alloc _ _ b hbl).trans hb, Ft, hs, hD⟩)).gives
  have c := AnyZI.collect_in Try.foColl Fence.wide 5 trivial trivial rfl (by omega) 55 #[.pointer (some ⟨w.heap.size, 0, none⟩)] trivial (enters_of Try.func55 (by kernel_rfl) rfl) _ (Maps.size D) (by unfold maxLen; omega) (by omega) _ hseq
  refine (callsW c).mono ?_
  rintro e w' ⟨v, ss, rfl, ⟨ps, hps, rfl⟩, hrow, _, hb⟩
  have hrow2 : w'.ownsRow (w.alloc (.cells #[.map (some b)] 48)).heap.size 3 1 v (ps.map (·.2)).length ((ps.map (·.2)).map (Value.int .i64)) := hrow
  exact ⟨v, _, rfl, vals_perm hown hr hl.1 hps, by simpa using hrow2, by simpa using hb⟩
theorem fosort_any {w : World} {base : Nat} {v : Value} {zs : List Int} (hown : w.ownsRow base 3 1 v zs.length (zs.map (Value.int .i64))) (hz : zs.length ≤ 100000000) :
    Calls Try.prog 44 #[v] w fun e w' => e = .returned (.tuple #[]) ∧ w'.ownsRow base 3 1 v zs.length ((zs.mergeSort fun x y => decide (x ≤ y)).map (Value.int .i64)) ∧ w.grownBy w' v.ownBlock := by
  by_cases hv : v = .slice none 0 0
  · subst hv
    have h0 : zs = [] := by
      rcases hown.2 with ⟨_, h0⟩ | ⟨g, cap, cur, e0, _⟩
      · exact List.length_eq_zero_iff.1 h0
      · cases e0
    subst h0
    refine (AnyM.slices_Sort_int_none Try.foSortI none 0 w).mono ?_
    rintro e w' ⟨rfl, rfl⟩
    exact ⟨rfl, by simpa using hown, ⟨rfl, rfl, rfl, Nat.le_refl _, fun _ _ _ => rfl⟩⟩
  · obtain ⟨g, cap, rfl, hb, hlt, h1, h2, h3, hH⟩ := Lib.holds_of_ownsRow (enc := Value.int .i64) hown hv
    rcases hown.2 with ⟨e0, _⟩ | ⟨g', cap', cur, e0, hb', hg', hn', hm', hs', ht'⟩
    · cases e0
    · injection e0 with e1 _ e3
      injection e1 with e1
      injection e1 with e1
      subst e1; subst e3
      refine (AnyM.slices_Sort_int Try.foSortI g 0 cap zs w hH hlt (by omega)).mono ?_
      rintro e w' ⟨rfl, n, os, rfl⟩
      exact ⟨rfl, ownsRow_sortedI (ss := zs) (by simp) hb' hg' h1 h2 hs', grownBy_sortedI _⟩
theorem focompact_any {w : World} {base : Nat} {v : Value} {zs : List Int} (hown : w.ownsRow base 3 1 v zs.length (zs.map (Value.int .i64))) (hz : zs.length ≤ 100000000) :
    Calls Try.prog 45 #[v] w fun e w' => ∃ v', e = .returned v' ∧ w'.ownsRow base 3 1 v' (Lib.compact zs).length ((Lib.compact zs).map (Value.int .i64)) ∧ w.grownBy w' v.ownBlock := by
  by_cases hv : v = .slice none 0 0
  · subst hv
    have h0 : zs = [] := by
      rcases hown.2 with ⟨_, h0⟩ | ⟨g, cap, cur, e0, _⟩
      · exact List.length_eq_zero_iff.1 h0
      · cases e0
    subst h0
    refine (AnyG.slices_Compact_int_empty Try.foComp none 0 w).mono ?_
    rintro e w' ⟨rfl, rfl⟩
    exact ⟨_, rfl, hown, ⟨rfl, rfl, rfl, Nat.le_refl _, fun _ _ _ => rfl⟩⟩
  · obtain ⟨g, cap, rfl, hb, hlt, h1, h2, h3, hH⟩ := Lib.holds_of_ownsRow (enc := Value.int .i64) hown hv
    refine (AnyG.slices_Compact_int Try.foComp g 0 cap zs w hH (by omega) (by omega)).mono ?_
    rintro e w' ⟨rfl, q, rfl⟩
    have hle := Lib.compact_length_le zs
    have ho := Lib.ownsRow_putRow (q := q) (k := (Lib.compact zs).length) (ys := Lib.compact zs ++ List.replicate (zs.length - (Lib.compact zs).length) 0) hown (by simp; omega) hle
    rw [List.take_left] at ho
    refine ⟨_, rfl, ho, ⟨rfl, rfl, rfl, by simp, fun k hk hne => ?_⟩⟩
    have : g ≠ k := fun e => hne (by rw [e]; rfl)
    simp [Sort.putRow, Sort.mapBlock, Sort.ahead, Array.getElem?_modify, this]
end Go.Proofs.Ytpcbfkcpefcnjaa
