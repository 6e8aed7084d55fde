/-
  Joined: FoldLib, FoldDev5, FoldDev6, FoldDev7, FoldDev.
-/
import Derived.Test.YtfgecjlccngddaaGreatJFoldDevA
import Derived.Lib.OwnBridge
import Derived.Sort.OwnSortedInts
namespace Go.Proofs.YtfgecjlccngddaaGreat
set_option linter.unusedSimpArgs false
set_option linter.unusedVariables false
open Go.RowKit
set_option linter.unusedVariables false

theorem callsW {n : Nat} {P : Program} {f : FuncId} {args : Array Value} {w : World} {post : Ending → World → Prop} (h : CallsIn Fence.wide n P f args w post) : Calls P f args w post := callsIn_wide.1 h

theorem fokeys_any (b : Nat) (w : World) : Calls Tryz.prog 160 #[.map (some b)] w fun e w' =>
    e = .returned (.func (.func 180) #[] #[.pointer (some ⟨w.heap.size, 0, none⟩)]) ∧ w' = w.alloc (.cells #[.map (some b)] 115) :=
  callsW (n := 5) (AnyZ.keys_in Tryz.foKeys Fence.wide 5 trivial rfl (some b) w)
theorem fovals_any (b : Nat) (w : World) : Calls Tryz.prog 99 #[.map (some b)] w fun e w' =>
    e = .returned (.func (.func 139) #[] #[.pointer (some ⟨w.heap.size, 0, none⟩)]) ∧ w' = w.alloc (.cells #[.map (some b)] 115) :=
  callsW (n := 5) (AnyY.values_in Tryz.foVals Fence.wide 5 trivial rfl (some b) w)
theorem fosorts (m : Nat) : AnyZ.SortsIn Tryz.prog Tryz.foSorted_ren Fence.wide m :=
  ⟨fun blk off cap ss W hH hblk hsz => callsIn_wide.2 (AnyM.slices_Sort_string Tryz.foSortS blk off cap ss W hH hblk hsz),
   fun p cap W => callsIn_wide.2 (AnyM.slices_Sort_string_none Tryz.foSortS p cap W)⟩
/-- The names, sorted, are the names. -/
theorem sorted_names {l : List Ent} (hl : rise l) {ss : List (List UInt8)} (h : ss.Perm (l.map (fun e => e.name.data.toList))) : ss.mergeSort (fun x y => decide (x ≤ y)) = l.map (fun e => e.name.data.toList) := by
  rw [mergeSort_of_perm h]
  refine List.mergeSort_of_pairwise (List.pairwise_map.2 (hl.imp fun {a b} hab => ?_))
  have : a.name.data.toList < b.name.data.toList := hab
  exact decide_eq_true (List.le_of_lt this)
set_option maxHeartbeats 1000000 in
theorem fosorted_any {w : World} {b : Nat} {l : List Ent} (h : MapE w b l) (hl : okE l) (hn : l.length ≤ 1000000) :
    Calls Tryz.prog 159 #[.func (.func 180) #[] #[.pointer (some ⟨w.heap.size, 0, none⟩)]] (w.alloc (.cells #[.map (some b)] 115)) fun e w' => ∃ v, e = .returned v ∧
      w'.ownsRow (w.heap.size + 1) 9 1 v l.length (l.map fun e => .string e.name) ∧ Below (w.heap.size + 1) (w.alloc (.cells #[.map (some b)] 115)) w' := by
  obtain ⟨D, hown, hr⟩ := h
  have hsz := reads_size hown hr hl.1
  have hbl := hown.lt
  have hseq : SeqGives Fence.wide 2 Tryz.prog 180 #[.pointer (some ⟨w.heap.size, 0, none⟩)] encStr (fun ss => ss.Perm (strKeys D)) (Maps.size D) (w.alloc (.cells #[.map (some b)] 115)) :=
    AnyZ.keys_gives (ρ := Tryz.foKeys_ren) { Tryz.foKeys with } Fence.wide _ trivial rfl (by omega) w.heap.size b (Maps.size D) D _ (by simp) (by simp) (by
      obtain ⟨es, clock, hb, Ft, hs, hD⟩ := hown
      exact ⟨es, clock, (Below.heap_alloc _ _ b hbl).trans hb, Ft, hs, hD⟩)
  have c := AnyZ.sorted_in Tryz.foSorted Fence.wide 5 trivial trivial trivial trivial rfl (by omega) (fosorts _) (enters_of Tryz.func179 (by kernel_rfl) rfl) 180 #[.pointer (some ⟨w.heap.size, 0, none⟩)] trivial (enters_of Tryz.func180 (by kernel_rfl) rfl) _ _ (by unfold maxLen; omega) (by omega) _ hseq
  refine (callsW c).mono ?_
  rintro e w' ⟨v, ss, rfl, hS, hrow, _, hb⟩
  have hp := hS.trans (reads_keys hown hr hl.1).symm
  have e1 := sorted_names hl.1 hp
  have e2 : ss.length = l.length := by rw [hp.length_eq, List.length_map]
  refine ⟨v, rfl, ?_, by simpa using hb⟩
  rw [e1, e2] at hrow
  have e3 : (l.map (fun e => e.name.data.toList)).map encStr = l.map fun e => Value.string e.name := by
    rw [List.map_map]
    apply List.map_congr_left
    intro x _
    simp [encStr]
  rw [e3] at hrow
  have hrow2 : w'.ownsRow (w.alloc (.cells #[.map (some b)] 115)).heap.size 9 1 v l.length (l.map fun e => .string e.name) := hrow
  simpa using hrow2
/-- The numbers of what is read, in some order. -/
theorem vals_perm {w : World} {b n : Nat} {D : DataW Unit} (hown : w.ownsMap Tryz.prog 9 (plainElem Tryz.prog 3) b n D) {l : List Ent} (h : Reads D l) (hl : rise l) {ps : List (List UInt8 × Int)} (hps : AnyY.AllOf D ps) : (ps.map (·.2)).Perm (l.map (·.id)) := by
  obtain ⟨h1, h2, h3⟩ := hps
  have hp : (ps.map (·.1)).Perm (l.map (fun e => e.name.data.toList)) := h1.trans (reads_keys hown h hl).symm
  have e1 : ps.map (·.2) = (ps.map (·.1)).map (fun x => (findE l ⟨x.toArray⟩).getD 0) := by
    rw [List.map_map]
    apply List.map_congr_left
    intro p hpp
    have hv := h3 p hpp (.lit (.int .i64 0))
    have hin : p.1 ∈ ps.map (·.1) := List.mem_map.2 ⟨p, hpp, rfl⟩
    have hh := (h2 p.1).1 hin
    have hd : (⟨p.1.toArray⟩ : ByteArray).data.toList = p.1 := rfl
    have hs := h.1 ⟨p.1.toArray⟩
    rw [hd, hh] at hs
    obtain ⟨m, hm⟩ := Option.isSome_iff_exists.1 hs.symm
    have hr := h.2 ⟨p.1.toArray⟩ m hm (.lit (.int .i64 0))
    rw [hd, hv] at hr
    show p.2 = (findE l ⟨p.1.toArray⟩).getD 0
    rw [hm]
    show p.2 = m
    simpa using hr
  have e2 : (l.map (fun e => e.name.data.toList)).map (fun x => (findE l ⟨x.toArray⟩).getD 0) = l.map (·.id) := by
    rw [List.map_map]
    apply List.map_congr_left
    intro x hx
    show (findE l ⟨x.name.data.toList.toArray⟩).getD 0 = x.id
    have : (⟨x.name.data.toList.toArray⟩ : ByteArray) = x.name := by cases x.name; simp
    rw [this, findE_rise hl x hx]
    rfl
  rw [e1, ← e2]
  exact hp.map _
set_option maxHeartbeats 1000000 in
theorem focollect_any {w : World} {b : Nat} {l : List Ent} (h : MapE w b l) (hl : okE l) (hn : l.length ≤ 1000000) :
    Calls Tryz.prog 98 #[.func (.func 139) #[] #[.pointer (some ⟨w.heap.size, 0, none⟩)]] (w.alloc (.cells #[.map (some b)] 115)) fun e w' => ∃ (v : Value) (zs : List Int), e = .returned v ∧ zs.Perm (l.map (·.id)) ∧
      w'.ownsRow (w.heap.size + 1) 3 1 v zs.length (zs.map (Value.int .i64)) ∧ Below (w.heap.size + 1) (w.alloc (.cells #[.map (some b)] 115)) w' := by
  obtain ⟨D, hown, hr⟩ := h
  have hsz := reads_size hown hr hl.1
  have hbl := hown.lt
  have hseq : SeqGives Fence.wide 3 Tryz.prog 139 #[.pointer (some ⟨w.heap.size, 0, none⟩)] (fun c : Int => Value.int .i64 c) (fun xs => ∃ ps, AnyY.AllOf D ps ∧ xs = ps.map (·.2)) (Maps.size D) (w.alloc (.cells #[.map (some b)] 115)) :=
    (AnyY.values_stops (ρ := Tryz.foVals_ren) { Tryz.foVals with } Fence.wide _ trivial rfl (by omega) w.heap.size b (Maps.size D) D _ (by simp) (by simp) (by
      obtain ⟨es, clock, hb, Ft, hs, hD⟩ := hown
      exact ⟨es, clock, (Below.heap_alloc _ _ b hbl).trans hb, Ft, hs, hD⟩)).gives
  have c := AnyZI.collect_in Tryz.foColl Fence.wide 5 trivial trivial rfl (by omega) 139 #[.pointer (some ⟨w.heap.size, 0, none⟩)] trivial (enters_of Tryz.func139 (by kernel_rfl) rfl) _ (Maps.size D) (by unfold maxLen; omega) (by omega) _ hseq
  refine (callsW c).mono ?_
  rintro e w' ⟨v, ss, rfl, ⟨ps, hps, rfl⟩, hrow, _, hb⟩
  have hrow2 : w'.ownsRow (w.alloc (.cells #[.map (some b)] 115)).heap.size 3 1 v (ps.map (·.2)).length ((ps.map (·.2)).map (Value.int .i64)) := hrow
  exact ⟨v, _, rfl, vals_perm hown hr hl.1 hps, by simpa using hrow2, by simpa using hb⟩
theorem fosort_any {w : World} {base : Nat} {v : Value} {zs : List Int} (hown : w.ownsRow base 3 1 v zs.length (zs.map (Value.int .i64))) (hz : zs.length ≤ 100000000) :
    Calls Tryz.prog 100 #[v] w fun e w' => e = .returned (.tuple #[]) ∧ w'.ownsRow base 3 1 v zs.length ((zs.mergeSort fun x y => decide (x ≤ y)).map (Value.int .i64)) ∧ w.grownBy w' v.ownBlock := by
  by_cases hv : v = .slice none 0 0
  · subst hv
    have h0 : zs = [] := by
      rcases hown.2 with ⟨_, h0⟩ | ⟨g, cap, cur, e0, _⟩
      · exact List.length_eq_zero_iff.1 h0
      · cases e0
    subst h0
    refine (AnyM.slices_Sort_int_none Tryz.foSortI none 0 w).mono ?_
    rintro e w' ⟨rfl, rfl⟩
    exact ⟨rfl, by simpa using hown, ⟨rfl, rfl, rfl, Nat.le_refl _, fun _ _ _ => rfl⟩⟩
  · obtain ⟨g, cap, rfl, hb, hlt, h1, h2, h3, hH⟩ := Lib.holds_of_ownsRow (enc := Value.int .i64) hown hv
    rcases hown.2 with ⟨e0, _⟩ | ⟨g', cap', cur, e0, hb', hg', hn', hm', hs', ht'⟩
    · cases e0
    · injection e0 with e1 _ e3
      injection e1 with e1
      injection e1 with e1
      subst e1; subst e3
      refine (AnyM.slices_Sort_int Tryz.foSortI g 0 cap zs w hH hlt (by omega)).mono ?_
      rintro e w' ⟨rfl, n, os, rfl⟩
      exact ⟨rfl, ownsRow_sortedI (ss := zs) (by simp) hb' hg' h1 h2 hs', grownBy_sortedI _⟩
theorem focompact_any {w : World} {base : Nat} {v : Value} {zs : List Int} (hown : w.ownsRow base 3 1 v zs.length (zs.map (Value.int .i64))) (hz : zs.length ≤ 100000000) :
    Calls Tryz.prog 101 #[v] w fun e w' => ∃ v', e = .returned v' ∧ w'.ownsRow base 3 1 v' (Lib.compact zs).length ((Lib.compact zs).map (Value.int .i64)) ∧ w.grownBy w' v.ownBlock := by
  by_cases hv : v = .slice none 0 0
  · subst hv
    have h0 : zs = [] := by
      rcases hown.2 with ⟨_, h0⟩ | ⟨g, cap, cur, e0, _⟩
      · exact List.length_eq_zero_iff.1 h0
      · cases e0
    subst h0
    refine (AnyG.slices_Compact_int_empty Tryz.foComp none 0 w).mono ?_
    rintro e w' ⟨rfl, rfl⟩
    exact ⟨_, rfl, hown, ⟨rfl, rfl, rfl, Nat.le_refl _, fun _ _ _ => rfl⟩⟩
  · obtain ⟨g, cap, rfl, hb, hlt, h1, h2, h3, hH⟩ := Lib.holds_of_ownsRow (enc := Value.int .i64) hown hv
    refine (AnyG.slices_Compact_int Tryz.foComp g 0 cap zs w hH (by omega) (by omega)).mono ?_
    rintro e w' ⟨rfl, q, rfl⟩
    have hle := Lib.compact_length_le zs
    have ho := Lib.ownsRow_putRow (q := q) (k := (Lib.compact zs).length) (ys := Lib.compact zs ++ List.replicate (zs.length - (Lib.compact zs).length) 0) hown (by simp; omega) hle
    rw [List.take_left] at ho
    refine ⟨_, rfl, ho, ⟨rfl, rfl, rfl, by simp, fun k hk hne => ?_⟩⟩
    have : g ≠ k := fun e => hne (by rw [e]; rfl)
    simp [Sort.putRow, Sort.mapBlock, Sort.ahead, Array.getElem?_modify, this]
end Go.Proofs.YtfgecjlccngddaaGreat
namespace Go.Proofs.YtfgecjlccngddaaGreat
set_option linter.unusedSimpArgs false
set_option linter.unusedVariables false
open Go.RowKit
set_option linter.unusedVariables false

theorem fent_info : (Tryz.prog.info? 112).map (fun i => (i.zero, i.size, i.bytes)) = some (some (.agg #[.string ByteArray.empty, .int .i64 0]), 2, 24) := by kernel_rfl
/-- A row of names, as it is read. -/
def FStrs (w : World) (ad : Addr) (l : List Ent) : Prop := ∀ (k : Nat) (h : k < l.length), w.cell? (ad.add k) = some (.string (l[k]).name)
theorem own_fstrs {w : World} {base : Nat} {t : TypeId} {g n cap : Nat} {l : List Ent} (h : w.ownsRow base t 1 (.slice (some ⟨g, 0, none⟩) n cap) n (l.map fun e => .string e.name)) : FStrs w ⟨g, 0, none⟩ l := fun k hk => by
  refine h.cells (g := g) rfl k _ ?_
  rw [List.getElem?_map, List.getElem?_eq_getElem hk]
  rfl
theorem findE_at {l : List Ent} (h : rise l) (k : Nat) (hk : k < l.length) : (findE l l[k].name).getD 0 = l[k].id := by
  rw [findE_rise h _ (List.getElem_mem hk)]
  rfl
set_option maxRecDepth 100000 in
set_option maxHeartbeats 1600000 in
theorem foents_any {w : World} {b : Nat} {l : List Ent} (h : MapE w b l) (hl : okE l) (hn : l.length ≤ 1000000) :
    Calls Tryz.prog 133 #[.map (some b)] w (RetEnts w l) := by
  obtain ⟨i0, hi, hz0, hz1, hz2⟩ := info_parts fent_info
  have CK := Lib.hid (fokeys_any b w)
  have CS := Lib.hid (fosorted_any h hl hn)
  have H := Lib.hid h; have HL := Lib.hid hl
  clear h hl
  obtain ⟨n, hnn⟩ : ∃ n, l.length = n := ⟨_, rfl⟩
  rw [hnn] at hn CS
  have HN := Lib.hid hnn
  clear hnn
  go_enter Tryz.func133, Tryz.ntmps133
  go_wp2_with fail
  refine CK.out.mono ?_
  rintro e w1 ⟨rfl, rfl⟩
  go_wp2_with fail
  refine CS.out.mono ?_
  rintro e w1 ⟨v, rfl, hrow, hb⟩
  have hb0 : Below w.heap.size w w1 := ((Below.refl _ w).alloc (Nat.le_refl _) (.cells #[.map (some b)] 115)).trans (hb.mono (Nat.le_succ _))
  have hm1 : MapE w1 b l := H.out.keep (hb0.block b H.out.lt)
  have hform := own_form hrow
  have hblt := H.out.lt
  rcases hform with ⟨rfl, h0⟩ | ⟨g, cap, rfl, h1, h2⟩
  · -- no name
    subst h0
    have hnil : l = [] := List.length_eq_zero_iff.1 HN.out
    have HB := Lib.hid hb0
    clear hb hb0 hm1 hrow hblt CK CS
    go_wp2
    go_loopw [3, 10] (fun v i wr => i = .int .i64 0 ∧ v = .slice none 0 0 ∧ wr = w1) (fun _ _ _ => 0)
    case atStart => exact ⟨rfl, rfl, rfl⟩
    case round =>
      obtain ⟨rfl, rfl, rfl⟩ := hrel
      go_wp2
      go_ret
      rw [hnil]
      exact ⟨none, 0, rfl, fun k hk => absurd hk (by simp), HB.out⟩
  · have hst := own_fstrs hrow
    have hg1 : g < w1.heap.size := (hrow.lt g rfl).2
    obtain ⟨ad, had⟩ : ∃ ad : Addr, ad = ⟨g, 0, none⟩ := ⟨_, rfl⟩
    have HAD := Lib.hid had
    rw [← had] at hst ⊢
    clear had
    have hcap : (n : Int) ≤ (cap : Int) := by omega
    have hcm : (cap : Int) ≤ 9223372036854775807 := by unfold maxLen at h2; omega
    have HB0 := Lib.hid hb0; have HM1 := Lib.hid hm1; have HST := Lib.hid hst; have HG := Lib.hid hg1
    clear hb hb0 hm1 hrow hst hg1 hblt CK CS h1 h2
    go_wp2
    go_loopw [3, 10] (fun v i wr => ∃ k : Nat, k ≤ n ∧ i = .int .i64 k ∧ wr.ownsRow w1.heap.size 112 2 v k (Ent.flat (l.take k)) ∧ Below w1.heap.size w1 wr) (fun _ i _ => n - (intOf i).toNat)
    case atStart => exact ⟨0, Nat.zero_le _, rfl, World.ownsRow_nil _ _ _ _, Below.refl _ _⟩
    case round =>
      obtain ⟨k, hk, rfl, hown, hbel⟩ := hrel
      by_cases hlt : k < n
      · have hkl : k < l.length := by rw [HN.out]; exact hlt
        have hbk : (ad.add k).block = g := by rw [HAD.out]; exact add_block _ _
        have q0 := (hbel.cell (p := ad.add k) (by rw [hbk]; exact HG.out)).trans (HST.out k hkl)
        have hfit := (HL.out.2 _ (List.getElem_mem hkl)).1
        have hlook := (HM1.out.keep (hbel.block b HM1.out.lt)).look hfit
        rw [findE_at HL.out.1 k hkl] at hlook
        have htk := take_get l k hkl
        obtain ⟨x, hx⟩ : ∃ x, l[k]'hkl = x := ⟨_, rfl⟩
        rw [hx] at q0 hlook htk
        obtain ⟨nm, id⟩ := x
        simp only at q0 hlook
        have b0 : (0 : Int) ≤ (k : Int) := by omega
        have b1 : (k : Int) < (n : Int) := by omega
        have hsz : w1.heap.size ≤ wr.heap.size := hbel.size
        have HTK := Lib.hid htk; have HBEL := Lib.hid hbel; have HO := Lib.hid hown
        clear hx htk hfit hbk
        go_wp2_with (at_builtin; refine wpList_append_own _ rfl _ _ 109 rfl w1.heap.size 112 i0 _ 2 24 Tryz.underlying109 hi hz0 hz1 hz2 rfl (by decide) _ _ _ rfl (hown.alloc _) ⟨wr.heap.size, 0, none⟩ 1 1 [.string nm, .int .i64 id] rfl rfl (news_ent _ _ _ _) (one_ent _ _) (by unfold maxLen; omega) (by omega) (Nat.le_trans hsz (by simp)) ?_; intro v' w2 hown' hgrow _)
        have hb2 : Below w1.heap.size w1 w2 := (HBEL.out.alloc HBEL.out.size _).grown hgrow (Nat.le_trans HBEL.out.size (by simp)) (own_block HO.out)
        have ho2 : w2.ownsRow w1.heap.size 112 2 v' (k + 1) (Ent.flat (l.take (k + 1))) := by
          rw [HTK.out, Ent.flat_app]
          exact hown'
        have HO2 := Lib.hid ho2; have HB2 := Lib.hid hb2
        clear hown' hgrow hown hbel ho2 hb2 HO
        go_wp2
        go_roundw
        case rel => exact ⟨k + 1, by omega, by go_num, HO2.out, HB2.out⟩
        case measure => simp [intOf]; omega
      · obtain rfl : k = n := by omega
        rw [List.take_of_length_le (by rw [HN.out]; exact Nat.le_refl _)] at hown
        rw [← HN.out] at hown
        obtain ⟨ad2, cp, rfl, hr⟩ := own_ents hown
        have HR := Lib.hid (hr.more (B' := fun b => w.heap.size ≤ b ∧ b < _) (fun b hb => ⟨Nat.le_trans HB0.out.size hb.1, hb.2⟩)); have HBEL := Lib.hid hbel
        clear hr hown hbel
        go_wp2
        go_ret
        exact ⟨ad2, cp, rfl, HR.out, HB0.out.trans (HBEL.out.mono HB0.out.size)⟩
set_option maxRecDepth 100000 in
set_option maxHeartbeats 400000 in
theorem fonow_f {w : World} {a bn bk : Nat} {v : Value} {cs : List Chg} {l : List Ent} (h : Fold w a bn bk v cs l) (hn : (allE l cs).length ≤ 1000000) :
    Calls Tryz.prog 80 #[.pointer (some ⟨a, 0, none⟩)] w (RetEnts w (allE l cs)) := by
  obtain ⟨c0, c1, c2, f0, f1, f2⟩ := blk3 h.blk
  have CO := Lib.hid (foown_yes h)
  have CE := Lib.hid (foents_any h.now (okE_all cs h.oke h.may) hn)
  clear h hn
  go_enter Tryz.func80, Tryz.ntmps80
  go_wp2_with (first
    | (go_at_call 97; refine CO.out.mono ?_; rintro e w' ⟨rfl, rfl⟩)
    | (go_at_call 133; refine CE.out.mono ?_; rintro e w2 ⟨ad, cp, rfl, hr⟩))
  go_ret
  exact ⟨ad, cp, rfl, hr⟩
end Go.Proofs.YtfgecjlccngddaaGreat
namespace Go.Proofs.YtfgecjlccngddaaGreat
set_option linter.unusedSimpArgs false
set_option linter.unusedVariables false
open Go.RowKit
set_option linter.unusedVariables false

theorem new_fold (w : World) : Fold (((w.alloc (.map #[] 0)).alloc (.map #[] 0)).alloc (.cells #[.map (some w.heap.size), .map (some (w.heap.size + 1)), .slice none 0 0] 119)) (w.heap.size + 2) w.heap.size (w.heap.size + 1) (.slice none 0 0) [] [] ∧
    Below w.heap.size w (((w.alloc (.map #[] 0)).alloc (.map #[] 0)).alloc (.cells #[.map (some w.heap.size), .map (some (w.heap.size + 1)), .slice none 0 0] 119)) := by
  have s1 : (w.alloc (.map #[] 0)).heap.size = w.heap.size + 1 := by simp
  have s2 : ((w.alloc (.map #[] 0)).alloc (.map #[] 0)).heap.size = w.heap.size + 2 := by simp
  have m1 := (MapE.made w).box (.map #[] 0) |>.box (.cells #[.map (some w.heap.size), .map (some (w.heap.size + 1)), .slice none 0 0] 119)
  have m2 := (MapE.made (w.alloc (.map #[] 0))).box (.cells #[.map (some w.heap.size), .map (some (w.heap.size + 1)), .slice none 0 0] 119)
  rw [s1] at m2
  have hb := (MapKept.heap_alloc ((w.alloc (.map #[] 0)).alloc (.map #[] 0)) (.cells #[.map (some w.heap.size), .map (some (w.heap.size + 1)), .slice none 0 0] 119)).1
  rw [s2] at hb
  exact ⟨⟨hb, m1, m2, World.ownsRow_nil _ _ _ _, by omega, okE_nil, trivial, fun _ => rfl⟩, (((Below.refl _ w).alloc (Nat.le_refl _) _).alloc (by simp) _).alloc (by simp; omega) _⟩
set_option maxRecDepth 100000 in
set_option maxHeartbeats 400000 in
theorem fonew_f (w : World) : Calls Tryz.prog 63 #[] w fun e w' => e = .returned (.pointer (some ⟨w.heap.size + 2, 0, none⟩)) ∧ Fold w' (w.heap.size + 2) w.heap.size (w.heap.size + 1) (.slice none 0 0) [] [] ∧ Below w.heap.size w w' := by
  have hmk := fun (w : World) => run_makeMap (P := Tryz.prog) 115 w
  go_enter Tryz.func63, Tryz.ntmps63
  go_wp2
  go_ret
  exact ⟨rfl, new_fold w⟩

theorem one_flat (cs : List Chg) : ∀ u ∈ Chg.flat cs, u.oneCell' = true := by
  intro u hu
  obtain ⟨c, _, h⟩ := List.mem_flatMap.1 hu
  exact one_chg _ _ _ _ u h
theorem own_base {w : World} {base base' : Nat} {e : TypeId} {size : Nat} {v : Value} {n : Nat} {xs : List Value} (h : w.ownsRow base e size v n xs) (hb : base' ≤ base) : w.ownsRow base' e size v n xs := by
  refine ⟨h.1, ?_⟩
  rcases h.2 with h | ⟨g, cap, cur, rfl, h1, r⟩
  · exact .inl h
  · exact .inr ⟨g, cap, cur, rfl, Nat.le_trans hb h1, r⟩
theorem foclonec_any {w : World} {v : Value} {cs : List Chg} (h : w.ownsRow 0 122 4 v cs.length (Chg.flat cs)) (hnv : cs = [] → v = .slice none 0 0) (hcs : cs.length ≤ 1000000) :
    Calls Tryz.prog 87 #[v] w fun e w' => ∃ v', e = .returned v' ∧ w'.ownsRow w.heap.size 122 4 v' cs.length (Chg.flat cs) ∧ (cs = [] → v' = .slice none 0 0) ∧ Below w.heap.size w w' := by
  obtain ⟨i0, hi, hz0, hz1, hz2⟩ := info_parts chg_info
  rcases own_form h with ⟨rfl, h0⟩ | ⟨g, cap, rfl, h1, h2⟩
  · have hnil : cs = [] := List.length_eq_zero_iff.1 h0
    subst hnil
    refine (AnyE.slices_Clone_nil Tryz.foClone 0 0 w).mono ?_
    rintro e w' ⟨rfl, rfl⟩
    exact ⟨_, rfl, World.ownsRow_nil _ _ _ _, fun _ => rfl, Below.refl _ _⟩
  · have hcells : ∀ j u, (Chg.flat cs)[j]? = some u → w.cell? ⟨g, 0 + j, none⟩ = some u := fun j u hu => by
      have := h.cells (g := g) rfl j u hu
      rw [add_flat] at this
      rw [Nat.zero_add]
      exact this
    refine (AnyE.slices_Clone Tryz.foClone i0 _ 4 48 hi hz0 hz1 hz2 rfl (by decide) Tryz.sizeOf122 g 0 cs.length cap (Chg.flat cs) w (Chg.flat_len cs) (by unfold maxLen; omega) (by omega) hcells (one_flat cs)).mono ?_
    rintro e w' ⟨v', rfl, hr, hv, hb⟩
    exact ⟨v', rfl, hr, (fun hnil => by have := hnv hnil; cases this), hb⟩
/-- What a copy in the making leaves as it was. -/
def Cp9 (w : World) (a bn bk : Nat) (v : Value) (w' : World) : Prop := Below w.heap.size w w' ∧ w'.cell? ⟨a, 0, none⟩ = some (.map (some bn)) ∧ w'.cell? ⟨a, 1, none⟩ = some (.map (some bk)) ∧ w'.cell? ⟨a, 2, none⟩ = some v
theorem cp9_start {w : World} {a bn bk : Nat} {v : Value} {cs : List Chg} {l : List Ent} (h : Fold w a bn bk v cs l) : Cp9 w a bn bk v w.drew := by
  obtain ⟨c0, c1, c2, f0, f1, f2⟩ := blk3 h.blk
  exact ⟨(Below.refl _ _).drew, c0, c1, c2⟩
theorem cp9_on {w w' w1 : World} {a bn bk : Nat} {v : Value} (h : Cp9 w a bn bk v w') (ha : a < w.heap.size) (hb : Below w'.heap.size w' w1) : Cp9 w a bn bk v w1 :=
  ⟨h.1.trans (hb.mono h.1.size), (hb.cell (p := ⟨a, 0, none⟩) (Nat.lt_of_lt_of_le ha h.1.size)).trans h.2.1, (hb.cell (p := ⟨a, 1, none⟩) (Nat.lt_of_lt_of_le ha h.1.size)).trans h.2.2.1, (hb.cell (p := ⟨a, 2, none⟩) (Nat.lt_of_lt_of_le ha h.1.size)).trans h.2.2.2⟩
theorem cp9_box {w w' : World} {a bn bk : Nat} {v : Value} (h : Cp9 w a bn bk v w') (ha : a < w.heap.size) (o : Obj) : Cp9 w a bn bk v (w'.alloc o) := cp9_on h ha ((Below.refl _ _).alloc (Nat.le_refl _) _)
theorem map_on {w w1 : World} {b : Nat} {l : List Ent} (h : Hid (MapE w b l)) (hb : Below w.heap.size w w1) : Hid (MapE w1 b l) := Lib.hid (h.out.keep (hb.block b h.out.lt))
theorem row_on {w w1 : World} {base : Nat} {e : TypeId} {size : Nat} {v : Value} {n : Nat} {xs : List Value} (h : Hid (w.ownsRow base e size v n xs)) (hb : Below w.heap.size w w1) : Hid (w1.ownsRow base e size v n xs) := Lib.hid (own_keep h.out (fun g hg => hb.block g (h.out.lt g hg).2))
theorem copy_end {w W : World} {a bn bk nn nk B : Nat} {v v' : Value} {cs : List Chg} {l : List Ent} (h : Fold w a bn bk v cs l) (hn : MapE W nn (allE l cs)) (hk : MapE W nk l) (hr : W.ownsRow B 122 4 v' cs.length (Chg.flat cs)) (hv : cs = [] → v' = .slice none 0 0)
    (hb : Below w.heap.size w W) (h1 : w.heap.size ≤ nn) (h2 : w.heap.size ≤ nk) (h3 : nn ≠ nk) (h4 : w.heap.size ≤ B) :
    Fold (W.alloc (.cells #[.map (some nn), .map (some nk), v'] 119)) W.heap.size nn nk v' cs l ∧ (∀ b ∈ foS W.heap.size nn nk v', w.heap.size ≤ b) ∧ Below w.heap.size w (W.alloc (.cells #[.map (some nn), .map (some nk), v'] 119)) := by
  refine ⟨⟨(MapKept.heap_alloc W _).1, hn.box _, hk.box _, own_base (hr.alloc _) (Nat.zero_le _), h3, h.oke, h.may, hv⟩, fun b hb' => ?_, hb.alloc hb.size _⟩
  rcases (foS_mem b).1 hb' with rfl | rfl | rfl | g
  · exact hb.size
  · exact h1
  · exact h2
  · exact Nat.le_trans h4 (hr.lt b g).1
set_option maxRecDepth 100000 in
set_option maxHeartbeats 3200000 in
theorem focopy_f {w : World} {a bn bk : Nat} {v : Value} {cs : List Chg} {l : List Ent} (h : Fold w a bn bk v cs l) (hcs : cs.length ≤ 1000000) :
    Calls Tryz.prog 34 #[.pointer (some ⟨a, 0, none⟩)] w fun e w' => ∃ a' nn nk v', e = .returned (.pointer (some ⟨a', 0, none⟩)) ∧ Fold w' a' nn nk v' cs l ∧ (∀ b ∈ foS a' nn nk v', w.heap.size ≤ b) ∧ Below w.heap.size w w' := by
  have CM := Lib.hid (fomade_yes h)
  have S0 := Lib.hid (cp9_start h)
  have H := Lib.hid h; have HA := Lib.hid (h.lt a ((foS_mem a).2 (.inl rfl))); have HC := Lib.hid hcs
  have NEb := Lib.hid h.ne
  obtain ⟨c0, c1, c2, f0, f1, f2⟩ := blk3 h.blk
  clear h hcs
  go_enter Tryz.func34, Tryz.ntmps34
  go_wp2_with (go_at_call 85; refine CM.out.mono ?_; rintro e w' ⟨rfl, rfl⟩)
  go_region_held3 (fun w' => Below w.heap.size w w' ∧ w'.cell? ⟨a, 0, none⟩ = some (.map (some bn)) ∧ w'.cell? ⟨a, 1, none⟩ = some (.map (some bk)) ∧ w'.cell? ⟨a, 2, none⟩ = some v)
    (first | exact S0.out | exact cp9_on (by assumption) HA.out hb1 | exact cp9_box (by assumption) HA.out _)
    (first
      | (go_at_call 86; refine (foclone_any (H.out.now.keep ((show Cp9 w a bn bk v _ by assumption).1.block bn H.out.now.lt))).mono ?_; rintro e w3 ⟨rfl, hm, hz, hb1⟩; have ZN := Lib.hid hz; (try (have ZN2 := Lib.hid hb1.size)); (try replace HK := map_on HK hb1); (try replace HR := row_on HR hb1); have HN := Lib.hid hm; have BN := Lib.hid (show Cp9 w a bn bk v _ by assumption).1.size; clear hm hz)
      | (go_at_call 86; refine (foclone_any (H.out.kept.keep ((show Cp9 w a bn bk v _ by assumption).1.block bk H.out.kept.lt))).mono ?_; rintro e w4 ⟨rfl, hm, hz, hb1⟩; have ZK := Lib.hid hz; (try replace HN := map_on HN hb1); (try replace HR := row_on HR hb1); have HK := Lib.hid hm; have BK := Lib.hid (show Cp9 w a bn bk v _ by assumption).1.size; clear hm hz)
      | (go_at_call 87; refine (foclonec_any (own_keep H.out.row (fun g hg => (show Cp9 w a bn bk v _ by assumption).1.block g (H.out.row.lt g hg).2)) H.out.nil HC.out).mono ?_; rintro e w5 ⟨v', rfl, hr, hv, hb1⟩; obtain ⟨a5, c5, rfl⟩ := own_slice (sz := 3) hr; (try replace HN := map_on HN hb1); (try replace HK := map_on HK hb1); have HR := Lib.hid hr; have HV := Lib.hid hv; have ZR := Lib.hid hb1.size; have BR := Lib.hid (show Cp9 w a bn bk v _ by assumption).1.size; have BW := Lib.hid ((show Cp9 w a bn bk v _ by assumption).1.trans (hb1.mono (show Cp9 w a bn bk v _ by assumption).1.size)); clear hr hv))
  go_wp2
  go_ret
  exact ⟨_, _, _, _, rfl, copy_end H.out HN.out HK.out HR.out HV.out BW.out (Nat.le_refl _) BK.out (by have := ZN.out; have h2 : w.drew.heap.size = w.heap.size := rfl; omega) BR.out⟩
end Go.Proofs.YtfgecjlccngddaaGreat
namespace Go.Proofs.YtfgecjlccngddaaGreat
set_option linter.unusedSimpArgs false
set_option linter.unusedVariables false
open Go.RowKit
set_option linter.unusedVariables false

/-- A row of changes at whatever address, none if there is none. -/
def ChgsO (w : World) (B : Nat) (a : Option Addr) (cs : List Chg) : Prop := ∀ (k : Nat) (h : k < cs.length), ∃ ad, a = some ad ∧ ad.block < B ∧ w.cell? (ad.add (k * 4)) = some (.int .i64 (cs[k]).kind) ∧ w.cell? ⟨(ad.add (k * 4)).block, (ad.add (k * 4)).off + 1, none⟩ = some (.string (cs[k]).name) ∧
    w.cell? ⟨(ad.add (k * 4)).block, (ad.add (k * 4)).off + 2, none⟩ = some (.string (cs[k]).dest) ∧ w.cell? ⟨(ad.add (k * 4)).block, (ad.add (k * 4)).off + 3, none⟩ = some (.int .i64 (cs[k]).id)
theorem own_chgsO {w : World} {base : Nat} {t : TypeId} {v : Value} {cs : List Chg} (h : w.ownsRow base t 4 v cs.length (Chg.flat cs)) : ∃ a c, v = .slice a cs.length c ∧ cs.length ≤ c ∧ ChgsO w w.heap.size a cs := by
  rcases own_form h with ⟨rfl, h0⟩ | ⟨g, cap, rfl, h1, h2⟩
  · exact ⟨none, 0, by rw [h0], by omega, fun k hk => absurd hk (by omega)⟩
  · have hc := own_chgs h
    exact ⟨_, cap, rfl, h1, fun k hk => ⟨_, rfl, (h.lt g rfl).2, hc k hk⟩⟩
theorem ChgsO.below {w w' : World} {B : Nat} {a : Option Addr} {cs : List Chg} (h : ChgsO w B a cs) (hb : Below B w w') : ChgsO w' B a cs := fun k hk => by
  obtain ⟨ad, e, hl, c0, c1, c2, c3⟩ := h k hk
  have hk2 : (ad.add (k * 4)).block = ad.block := add_block _ _
  exact ⟨ad, e, hl, (hb.cell (p := ad.add (k * 4)) (by rw [hk2]; exact hl)).trans c0, (hb.cell (p := ⟨(ad.add (k * 4)).block, (ad.add (k * 4)).off + 1, none⟩) (by show (ad.add (k * 4)).block < B; rw [hk2]; exact hl)).trans c1,
    (hb.cell (p := ⟨(ad.add (k * 4)).block, (ad.add (k * 4)).off + 2, none⟩) (by show (ad.add (k * 4)).block < B; rw [hk2]; exact hl)).trans c2, (hb.cell (p := ⟨(ad.add (k * 4)).block, (ad.add (k * 4)).off + 3, none⟩) (by show (ad.add (k * 4)).block < B; rw [hk2]; exact hl)).trans c3⟩
theorem sorted_ids {zs : List Int} {l : List Ent} {cs : List Chg} (hm : mays l cs) (hz : zs.Perm (l.map (·.id))) : Lib.compact ((zs ++ putIds cs).mergeSort fun x y => decide (x ≤ y)) = idsK (hist l cs) := by
  refine compact_ids hm ?_ fun n => ?_
  · have := List.pairwise_mergeSort (le := fun x y : Int => decide (x ≤ y)) (fun a b c h1 h2 => by simp only [decide_eq_true_eq] at *; omega) (fun a b => by simp only [Bool.or_eq_true, decide_eq_true_eq]; omega) (zs ++ putIds cs)
    exact this.imp fun h => by simpa using h
  · rw [(List.mergeSort_perm _ _).mem_iff, List.mem_append, List.mem_append, hz.mem_iff]
set_option maxRecDepth 100000 in
set_option maxHeartbeats 3200000 in
theorem foids_own {w : World} {a bn bk : Nat} {v : Value} {cs : List Chg} {l : List Ent} (h : Fold w a bn bk v cs l) (hn : l.length ≤ 1000000) (hcs : cs.length ≤ 1000000) :
    Calls Tryz.prog 48 #[.pointer (some ⟨a, 0, none⟩)] w fun e w' => ∃ v', e = .returned v' ∧ w'.ownsRow w.heap.size 3 1 v' (idsK (hist l cs)).length ((idsK (hist l cs)).map (Value.int .i64)) ∧ Below w.heap.size w w' := by
  obtain ⟨i0, hi, hz0, hz1, hz2⟩ := info_parts int_info
  obtain ⟨c0, c1, c2, f0, f1, f2⟩ := blk3 h.blk
  have CO := Lib.hid (foown_yes h)
  have CV := Lib.hid (fovals_any bk w)
  have CC := Lib.hid (focollect_any h.kept h.oke hn)
  have HM := Lib.hid h.may; have HB := Lib.hid h.blk
  obtain ⟨av, cv, rfl, hcv, hch⟩ := own_chgsO h.row
  have HCH := Lib.hid hch
  clear h hch
  obtain ⟨n, hnn⟩ : ∃ n, cs.length = n := ⟨_, rfl⟩
  rw [hnn] at c2 hcs hcv HB
  have HN := Lib.hid hnn; have HL := Lib.hid hn
  clear hnn hn hcv
  go_enter Tryz.func48, Tryz.ntmps48
  go_wp2_with (first
    | (go_at_call 97; refine CO.out.mono ?_; rintro e w' ⟨rfl, rfl⟩)
    | (go_at_call 99; refine CV.out.mono ?_; rintro e w' ⟨rfl, rfl⟩)
    | (go_at_call 98; refine CC.out.mono ?_; rintro e w1 ⟨v1, zs, rfl, hz, hrow, hb⟩; have hb0 : Below w.heap.size w w1 := ((Below.refl _ w).alloc (Nat.le_refl _) (.cells #[.map (some bk)] 115)).trans (hb.mono (Nat.le_succ _)); have d2 := (hb0.cell (p := ⟨a, 2, none⟩) (lt_of_block HB.out)).trans c2; have hr0 := own_base hrow (Nat.le_succ w.heap.size); have HZ := Lib.hid hz; have HB0 := Lib.hid hb0; have HR0 := Lib.hid hr0; clear hz hrow hb hb0 hr0 c0 c1 c2 f0 f1 f2))
  go_loopw [3, 19] (fun u i wr => ∃ k : Nat, k ≤ n ∧ i = .int .i64 k ∧ wr.ownsRow w.heap.size 3 1 u (zs ++ putIds (cs.take k)).length ((zs ++ putIds (cs.take k)).map (Value.int .i64)) ∧ Below w.heap.size w wr) (fun _ i _ => n - (intOf i).toNat)
  case atStart => exact ⟨0, Nat.zero_le _, rfl, by simpa [putIds] using HR0.out, HB0.out⟩
  case round =>
    obtain ⟨k, hk, rfl, hown, hbel⟩ := hrel
    by_cases hlt : k < n
    · have hkl : k < cs.length := by rw [HN.out]; exact hlt
      obtain ⟨ad, rfl, hab, e0, e1, e2, e3⟩ := (HCH.out.below hbel) k hkl
      have hyes := putIds_yes cs k hkl
      have hno := putIds_no cs k hkl
      have hpl := putIds_len cs k
      have hzl : zs.length ≤ 1000000 := by rw [HZ.out.length_eq, List.length_map]; exact HL.out
      obtain ⟨x, hx⟩ : ∃ x, cs[k]'hkl = x := ⟨_, rfl⟩
      rw [hx] at e0 e1 e2 e3 hyes hno
      obtain ⟨kd, s, d, id⟩ := x
      simp only at e0 e1 e2 e3 hyes hno
      have b0 : (0 : Int) ≤ (k : Int) := by omega
      have b1 : (k : Int) < (n : Int) := by omega
      clear hx d2
      by_cases hkd : kd = 0
      · have HY := Lib.hid (hyes hkd)
        subst hkd
        have hnw : ∀ j u, ([.int .i64 id] : List Value)[j]? = some u → ((wr.alloc (.cells #[.int .i64 0, .string s, .string d, .int .i64 id] 122)).alloc (.cells #[.int .i64 id] 3)).cell? ((⟨wr.heap.size + 1, 0, none⟩ : Addr).add j) = some u := by
          have := news_int (wr.alloc (.cells #[.int .i64 0, .string s, .string d, .int .i64 id] 122)) id 3
          simpa using this
        have hsz := hbel.size
        have NW := Lib.hid hnw
        clear hyes hno hnw
        go_wp2_with (at_builtin; refine wpList_append_own _ rfl _ _ 86 rfl w.heap.size 3 i0 (.int .i64 0) 1 8 Tryz.underlying86 hi hz0 hz1 hz2 rfl (by decide) _ _ _ rfl ((hown.alloc _).alloc _) ⟨wr.heap.size + 1, 0, none⟩ 1 1 [.int .i64 id] rfl rfl NW.out (one_int _) (by rw [List.length_append]; unfold maxLen; omega) (by rw [List.length_append]; omega) (by simp; omega) ?_; intro v' w2 hown' hgrow _)
        have hb2 : Below w.heap.size w w2 := ((hbel.alloc hsz _).alloc (by simp; omega) _).grown hgrow (by simp; omega) (own_block hown)
        have ho2 : w2.ownsRow w.heap.size 3 1 v' (zs ++ putIds (cs.take (k + 1))).length ((zs ++ putIds (cs.take (k + 1))).map (Value.int .i64)) := by
          rw [HY.out, ← List.append_assoc, List.map_append, @List.length_append _ (zs ++ putIds (cs.take k)) [id]]
          exact hown'
        have HO2 := Lib.hid ho2; have HB2 := Lib.hid hb2
        clear hown' hgrow hown hbel ho2 hb2
        go_wp2
        go_roundw
        case rel => exact ⟨k + 1, by omega, by go_num, HO2.out, HB2.out⟩
        case measure => simp [intOf]; omega
      · have HY := Lib.hid (hno hkd)
        have t0 : (kd == 0) = false := beq_eq_false_iff_ne.2 hkd
        have hsz := hbel.size
        have HO := Lib.hid hown
        clear hyes hno hown
        go_wp2
        go_roundw
        case rel => exact ⟨k + 1, by omega, by go_num, by rw [HY.out]; exact HO.out.alloc _, hbel.alloc hsz _⟩
        case measure => simp [intOf]; omega
    · obtain rfl : k = n := by omega
      have hzl : zs.length ≤ 1000000 := by rw [HZ.out.length_eq, List.length_map]; exact HL.out
      have hpl := putIds_len cs k
      have hlen : (zs ++ putIds (cs.take k)).length ≤ 100000000 := by rw [List.length_append]; omega
      have CS := Lib.hid (fosort_any hown hlen)
      rw [List.take_of_length_le (by rw [HN.out]; exact Nat.le_refl _)] at CS hown hlen
      have HO := Lib.hid hown; have HLN := Lib.hid hlen; have HBEL := Lib.hid hbel
      clear hown hlen hpl hzl hbel
      go_wp2_with (first
        | (go_at_call 100; refine CS.out.mono ?_; rintro e w3 ⟨rfl, ho3, hg3⟩; have hb3 : Below w.heap.size w w3 := HBEL.out.grown hg3 HBEL.out.size (own_block HO.out); have HO3 := Lib.hid ho3; have HB3 := Lib.hid hb3; clear ho3 hg3 hb3)
        | (go_at_call 101; refine (focompact_any (zs := (zs ++ putIds cs).mergeSort fun x y => decide (x ≤ y)) (by rw [List.length_mergeSort]; exact HO3.out) (by rw [List.length_mergeSort]; exact HLN.out)).mono ?_; rintro e w4 ⟨v4, rfl, ho4, hg4⟩; have hb4 : Below w.heap.size w w4 := HB3.out.grown hg4 HB3.out.size (own_block HO3.out); have HO4 := Lib.hid ho4; have HB4 := Lib.hid hb4; clear ho4 hg4 hb4))
      go_ret
      have ho := HO4.out
      rw [sorted_ids HM.out HZ.out] at ho
      exact ⟨_, rfl, ho, HB4.out⟩
theorem foids_f {w : World} {a bn bk : Nat} {v : Value} {cs : List Chg} {l : List Ent} (h : Fold w a bn bk v cs l) (hn : l.length ≤ 1000000) (hcs : cs.length ≤ 1000000) :
    Calls Tryz.prog 48 #[.pointer (some ⟨a, 0, none⟩)] w (RetInts w (idsK (hist l cs))) := by
  refine (foids_own h hn hcs).mono ?_
  rintro e w' ⟨v', rfl, ho, hb⟩
  obtain ⟨a4, c4, rfl, hi4⟩ := own_ints ho
  exact ⟨a4, c4, rfl, hi4, hb⟩
end Go.Proofs.YtfgecjlccngddaaGreat
namespace Go.Proofs.YtfgecjlccngddaaGreat
set_option linter.unusedSimpArgs false
set_option linter.unusedVariables false
open Go.RowKit
set_option linter.unusedVariables false

def IsFold (w : World) (S : List Nat) (a : Addr) (L : List (List Ent)) : Prop :=
  ∃ ab bn bk v cs l, a = ⟨ab, 0, none⟩ ∧ S = foS ab bn bk v ∧ L = hist l cs ∧ Fold w ab bn bk v cs l
theorem IsFold.lt {w : World} {S : List Nat} {a : Addr} {L : List (List Ent)} (h : IsFold w S a L) : ∀ b ∈ S, b < w.heap.size := by
  obtain ⟨ab, bn, bk, v, cs, l, rfl, rfl, rfl, h⟩ := h
  exact h.lt
theorem IsFold.kept {w w' : World} {S S' : List Nat} {a : Addr} {L : List (List Ent)} (h : IsFold w S a L) (ha : Apart S' w w') (hs : ∀ b ∈ S, b ∉ S') : IsFold w' S a L := by
  obtain ⟨ab, bn, bk, v, cs, l, rfl, rfl, rfl, h⟩ := h
  exact ⟨ab, bn, bk, v, cs, l, rfl, rfl, rfl, h.apart ha hs⟩
/-- A call of a folder: it answers v, the folder is L' then, and nothing but its own blocks has turned. -/
def UpdO (w : World) (S : List Nat) (a : Addr) (L' : List (List Ent)) (v : Value) (e : Ending) (w' : World) : Prop :=
  e = .returned v ∧ ∃ S', IsFold w' S' a L' ∧ Apart S w w' ∧ ∀ b ∈ S', b ∈ S ∨ w.heap.size ≤ b
/-- A call that answers a folder of its own. -/
def NewO (w : World) (L : List (List Ent)) (e : Ending) (w' : World) : Prop :=
  ∃ a S, e = .returned (.pointer (some a)) ∧ IsFold w' S a L ∧ (∀ b ∈ S, w.heap.size ≤ b) ∧ Below w.heap.size w w'
/-- How much there may be. -/
def okL (M : Nat) (L : List (List Ent)) : Prop := L ≠ [] ∧ L.length ≤ M ∧ ∀ l ∈ L, l.length ≤ M
theorem okL_hist {l : List Ent} {cs : List Chg} (h : okL 500 (hist l cs)) : cs.length ≤ 1000000 ∧ (allE l cs).length ≤ 1000000 ∧ l.length ≤ 1000000 ∧ ∀ k ≤ cs.length, (allE l (cs.take k)).length ≤ 1000000 := by
  obtain ⟨_, h1, h2⟩ := h
  rw [hist_len] at h1
  have h3 : ∀ k ≤ cs.length, (allE l (cs.take k)).length ≤ 1000000 := fun k hk => by
    have hlt : k < (hist l cs).length := by rw [hist_len]; omega
    have := h2 _ (List.getElem_mem hlt)
    have e := hist_get cs l k hk
    rw [List.getD_eq_getElem?_getD, List.getElem?_eq_getElem hlt] at e
    rw [← e]
    show ((hist l cs)[k]'hlt).length ≤ 1000000
    omega
  refine ⟨by omega, ?_, h3 0 (Nat.zero_le _), h3⟩
  have := h3 cs.length (Nat.le_refl _)
  rwa [List.take_length] at this
theorem upd_more {ab bn bk : Nat} {v v' : Value} {w : World} (h : ∀ q, v'.ownBlock = some q → v.ownBlock = some q ∨ w.heap.size ≤ q) : ∀ b ∈ foS ab bn bk v', b ∈ foS ab bn bk v ∨ w.heap.size ≤ b := fun b hb => by
  rcases (foS_mem b).1 hb with g | g | g | g
  · exact .inl ((foS_mem b).2 (.inl g))
  · exact .inl ((foS_mem b).2 (.inr (.inl g)))
  · exact .inl ((foS_mem b).2 (.inr (.inr (.inl g))))
  · rcases h b g with g | g
    · exact .inl ((foS_mem b).2 (.inr (.inr (.inr g))))
    · exact .inr g
theorem fonew_any (w : World) : Calls Tryz.prog 63 #[] w (NewO w [[]]) := by
  refine (fonew_f w).mono ?_
  rintro e w' ⟨rfl, h, hb⟩
  refine ⟨_, _, rfl, ⟨_, _, _, _, [], [], rfl, rfl, rfl, h⟩, fun b hb' => ?_, hb⟩
  rcases (foS_mem b).1 hb' with rfl | rfl | rfl | g
  · omega
  · omega
  · omega
  · cases g
theorem foput_any {w : World} {S : List Nat} {a : Addr} {L : List (List Ent)} (h : IsFold w S a L) (hL : okL 500 L) (s : ByteArray) (hs : s.size ≤ maxLen) (n : Int) (h0 : -9223372036854775808 ≤ n) (h1 : n ≤ 9223372036854775807) :
    Calls Tryz.prog 93 #[.pointer (some a), .string s, .int .i64 n] w (UpdO w S a (putF L s n) (.bool (!(findE (nowL L) s).isSome))) := by
  obtain ⟨ab, bn, bk, v, cs, l, rfl, rfl, rfl, h⟩ := h
  obtain ⟨m1, m2, m3, m4⟩ := okL_hist hL
  refine (foput_f h m2 m1 s hs n h0 h1).mono ?_
  unfold putF
  rw [hist_now]
  rintro e w' ⟨rfl, ⟨hf, rfl⟩ | ⟨hf, v', hF, hA, hg⟩⟩
  · rw [if_pos hf]
    exact ⟨rfl, _, ⟨ab, bn, bk, v, cs, l, rfl, rfl, rfl, h⟩, Apart.refl _ _, fun b hb => .inl hb⟩
  · rw [if_neg (by rw [hf]; simp)]
    exact ⟨rfl, _, ⟨ab, bn, bk, v', _, l, rfl, rfl, by rw [hist_snoc]; rfl, hF⟩, hA, upd_more hg⟩
theorem fodrop_any {w : World} {S : List Nat} {a : Addr} {L : List (List Ent)} (h : IsFold w S a L) (hL : okL 500 L) (s : ByteArray) (hs : s.size ≤ maxLen) :
    Calls Tryz.prog 78 #[.pointer (some a), .string s] w (UpdO w S a (dropF L s) (.bool (findE (nowL L) s).isSome)) := by
  obtain ⟨ab, bn, bk, v, cs, l, rfl, rfl, rfl, h⟩ := h
  obtain ⟨m1, m2, m3, m4⟩ := okL_hist hL
  refine (fodrop_f h m2 m1 s hs).mono ?_
  unfold dropF
  rw [hist_now]
  rintro e w' ⟨rfl, ⟨hf, rfl⟩ | ⟨hf, v', hF, hA, hg⟩⟩
  · rw [if_neg (by rw [hf]; simp)]
    exact ⟨rfl, _, ⟨ab, bn, bk, v, cs, l, rfl, rfl, rfl, h⟩, Apart.refl _ _, fun b hb => .inl hb⟩
  · rw [if_pos hf]
    exact ⟨rfl, _, ⟨ab, bn, bk, v', _, l, rfl, rfl, by rw [hist_snoc]; rfl, hF⟩, hA, upd_more hg⟩
theorem fomove_any {w : World} {S : List Nat} {a : Addr} {L : List (List Ent)} (h : IsFold w S a L) (hL : okL 500 L) (s t : ByteArray) (hs : s.size ≤ maxLen) (ht : t.size ≤ maxLen) :
    Calls Tryz.prog 76 #[.pointer (some a), .string s, .string t] w (UpdO w S a (moveF L s t) (.bool (findE (nowL L) s).isSome)) := by
  obtain ⟨ab, bn, bk, v, cs, l, rfl, rfl, rfl, h⟩ := h
  obtain ⟨m1, m2, m3, m4⟩ := okL_hist hL
  refine (fomove_f h m2 m1 s t hs ht).mono ?_
  unfold moveF
  rw [hist_now]
  rintro e w' ⟨rfl, ⟨hf, rfl⟩ | ⟨hf, hne, v', hF, hA, hg⟩⟩
  · refine ⟨rfl, _, ⟨ab, bn, bk, v, cs, l, rfl, rfl, ?_, h⟩, Apart.refl _ _, fun b hb => .inl hb⟩
    cases hq : findE (allE l cs) s with
    | none => rfl
    | some m =>
      rcases hf with hf | hf
      · rw [hq] at hf; cases hf
      · show (if s = t then _ else _) = _
        rw [if_pos hf]
  · refine ⟨rfl, _, ⟨ab, bn, bk, v', _, l, rfl, rfl, ?_, hF⟩, hA, upd_more hg⟩
    obtain ⟨m, hm⟩ := Option.isSome_iff_exists.1 hf
    rw [hm, hist_snoc]
    show (if s = t then _ else _) = _
    rw [if_neg hne]
    have e : chgE (allE l cs) ⟨2, s, t, 0⟩ = withE (withoutE (withoutE (allE l cs) s) t) ⟨t, m⟩ := by
      show withE (withoutE (withoutE (allE l cs) s) t) ⟨t, (findE (allE l cs) s).getD 0⟩ = _
      rw [hm]
      rfl
    rw [e]
theorem fosync_any {w : World} {S : List Nat} {a : Addr} {L : List (List Ent)} (h : IsFold w S a L) (hL : okL 500 L) :
    Calls Tryz.prog 66 #[.pointer (some a)] w (UpdO w S a [nowL L] (.tuple #[])) := by
  obtain ⟨ab, bn, bk, v, cs, l, rfl, rfl, rfl, h⟩ := h
  obtain ⟨m1, m2, m3, m4⟩ := okL_hist hL
  refine (fosync_f h m4 m1).mono ?_
  rintro e w' ⟨rfl, hF, hA⟩
  exact ⟨rfl, _, ⟨ab, bn, bk, _, _, _, rfl, rfl, by rw [hist_now]; rfl, hF⟩, hA, upd_more (fun q hq => by cases hq)⟩
theorem focrash_any {w : World} {S : List Nat} {a : Addr} {L : List (List Ent)} (h : IsFold w S a L) (hL : okL 500 L) (n : Int) (h0 : -9223372036854775808 ≤ n) (h1 : n ≤ 9223372036854775807) :
    Calls Tryz.prog 102 #[.pointer (some a), .int .i64 n] w (UpdO w S a [L.getD (pickN n L.length) []] (.int .i64 (pickN n L.length))) := by
  obtain ⟨ab, bn, bk, v, cs, l, rfl, rfl, rfl, h⟩ := h
  obtain ⟨m1, m2, m3, m4⟩ := okL_hist hL
  have hp := pickN_lt n (cs.length + 1) (by omega)
  rw [hist_len, hist_get cs l _ (by omega)]
  refine (focrash_f h m4 m1 n h0 h1).mono ?_
  rintro e w' ⟨rfl, b, hb, hF, hA⟩
  refine ⟨rfl, _, ⟨ab, b, bk, _, _, _, rfl, rfl, rfl, hF⟩, hA, fun x hx => ?_⟩
  rcases (foS_mem x).1 hx with g | g | g | g
  · exact .inl ((foS_mem x).2 (.inl g))
  · exact .inr (by rw [g]; exact hb)
  · exact .inl ((foS_mem x).2 (.inr (.inr (.inl g))))
  · cases g
theorem fofind_any {w : World} {S : List Nat} {a : Addr} {L : List (List Ent)} (h : IsFold w S a L) (hL : okL 500 L) (s : ByteArray) (hs : s.size ≤ maxLen) :
    Calls Tryz.prog 91 #[.pointer (some a), .string s] w fun e w' => e = .returned (.tuple #[.int .i64 ((findE (nowL L) s).getD 0), .bool (findE (nowL L) s).isSome]) ∧ Below w.heap.size w w' := by
  obtain ⟨ab, bn, bk, v, cs, l, rfl, rfl, rfl, h⟩ := h
  rw [hist_now]
  refine (fofind_f h hs).mono ?_
  rintro e w' ⟨rfl, rfl⟩
  exact ⟨rfl, Below.refl _ _⟩
theorem fonow_any {w : World} {S : List Nat} {a : Addr} {L : List (List Ent)} (h : IsFold w S a L) (hL : okL 500 L) :
    Calls Tryz.prog 80 #[.pointer (some a)] w (RetEnts w (nowL L)) := by
  obtain ⟨ab, bn, bk, v, cs, l, rfl, rfl, rfl, h⟩ := h
  rw [hist_now]
  exact fonow_f h (okL_hist hL).2.1
theorem fowait_any {w : World} {S : List Nat} {a : Addr} {L : List (List Ent)} (h : IsFold w S a L) (hL : okL 500 L) :
    Calls Tryz.prog 124 #[.pointer (some a)] w fun e w' => e = .returned (.int .i64 ((L.length : Int) - 1)) ∧ Below w.heap.size w w' := by
  obtain ⟨ab, bn, bk, v, cs, l, rfl, rfl, rfl, h⟩ := h
  refine (fowait_f h).mono ?_
  rintro e w' ⟨rfl, rfl⟩
  rw [hist_len]
  exact ⟨ret_int (by omega), Below.refl _ _⟩
theorem foids_any {w : World} {S : List Nat} {a : Addr} {L : List (List Ent)} (h : IsFold w S a L) (hL : okL 500 L) :
    Calls Tryz.prog 48 #[.pointer (some a)] w (RetInts w (idsK L)) := by
  obtain ⟨ab, bn, bk, v, cs, l, rfl, rfl, rfl, h⟩ := h
  exact foids_f h (okL_hist hL).2.2.1 (okL_hist hL).1
theorem foids_row {w : World} {S : List Nat} {a : Addr} {L : List (List Ent)} (h : IsFold w S a L) (hL : okL 500 L) :
    Calls Tryz.prog 48 #[.pointer (some a)] w fun e w' => ∃ v', e = .returned v' ∧ w'.ownsRow w.heap.size 3 1 v' (idsK L).length ((idsK L).map (Value.int .i64)) ∧ Below w.heap.size w w' := by
  obtain ⟨ab, bn, bk, v, cs, l, rfl, rfl, rfl, h⟩ := h
  exact foids_own h (okL_hist hL).2.2.1 (okL_hist hL).1
theorem focopy_any {w : World} {S : List Nat} {a : Addr} {L : List (List Ent)} (h : IsFold w S a L) (hL : okL 500 L) :
    Calls Tryz.prog 34 #[.pointer (some a)] w (NewO w L) := by
  obtain ⟨ab, bn, bk, v, cs, l, rfl, rfl, rfl, h⟩ := h
  refine (focopy_f h (okL_hist hL).1).mono ?_
  rintro e w' ⟨a', nn, nk, v', rfl, hF, hS, hb⟩
  exact ⟨_, _, rfl, ⟨a', nn, nk, v', cs, l, rfl, rfl, rfl, hF⟩, hS, hb⟩
theorem IsFold.below {w w' : World} {S : List Nat} {a : Addr} {L : List (List Ent)} (h : IsFold w S a L) (hb : Below w.heap.size w w') : IsFold w' S a L :=
  h.kept (.of_below (S := []) hb) (by simp)
end Go.Proofs.YtfgecjlccngddaaGreat
