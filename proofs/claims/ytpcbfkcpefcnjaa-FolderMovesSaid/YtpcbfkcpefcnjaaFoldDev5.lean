/-
  Contracts of the program's folder (layer 9), fifth part: the names told; the numbers told; a copy; a new one.
-/
import Derived.Test.YtpcbfkcpefcnjaaFoldLib
namespace Go.Proofs.Ytpcbfkcpefcnjaa
open Go.RowKit
set_option linter.unusedVariables false

theorem fent_info : (Try.prog.info? 87).map (fun i => (i.zero, i.size, i.bytes)) = some (some (.agg #[.string ByteArray.empty, .int .i64 0]), 2, 24) := by kernel_rfl
/-- A row of names, as it is read. -/
def Strs (w : World) (ad : Addr) (l : List Ent) : Prop := ∀ (k : Nat) (h : k < l.length), w.cell? (ad.add k) = some (.string (l[k]).name)
theorem own_strs {w : World} {base : Nat} {t : TypeId} {g n cap : Nat} {l : List Ent} (h : w.ownsRow base t 1 (.slice (some ⟨g, 0, none⟩) n cap) n (l.map fun e => .string e.name)) : Strs w ⟨g, 0, none⟩ l := fun k hk => by
  refine h.cells (g := g) rfl k _ ?_
  rw [List.getElem?_map, List.getElem?_eq_getElem hk]
  rfl
theorem findE_at {l : List Ent} (h : rise l) (k : Nat) (hk : k < l.length) : (findE l l[k].name).getD 0 = l[k].id := by
  rw [findE_rise h _ (List.getElem_mem hk)]
  rfl
set_option maxRecDepth 100000 in
set_option maxHeartbeats 1600000 in
theorem foents_any {w : World} {b : Nat} {l : List Ent} (h : MapE w b l) (hl : okE l) (hn : l.length ≤ 1000000) :
    Calls Try.prog 41 #[.map (some b)] w (RetEnts w l) := by
  obtain ⟨i0, hi, hz0, hz1, hz2⟩ := info_parts fent_info
  have CK := Lib.hid (fokeys_any b w)
  have CS := Lib.hid (fosorted_any h hl hn)
  have H := Lib.hid h; have HL := Lib.hid hl
  clear h hl
  obtain ⟨n, hnn⟩ : ∃ n, l.length = n := ⟨_, rfl⟩
  rw [hnn] at hn CS
  have HN := Lib.hid hnn
  clear hnn
  go_enter Try.func41, Try.ntmps41
  go_wp2_with fail
  refine CK.out.mono ?_
  rintro e w1 ⟨rfl, rfl⟩
  go_wp2_with fail
  refine CS.out.mono ?_
  rintro e w1 ⟨v, rfl, hrow, hb⟩
  have hb0 : Below w.heap.size w w1 := ((Below.refl _ w).alloc (Nat.le_refl _) (.cells #[.map (some b)] 48)).trans (hb.mono (Nat.le_succ _))
  have hm1 : MapE w1 b l := H.out.keep (hb0.block b H.out.lt)
  have hform := own_form hrow
  have hblt := H.out.lt
  rcases hform with ⟨rfl, h0⟩ | ⟨g, cap, rfl, h1, h2⟩
  · -- no name
    subst h0
    have hnil : l = [] := List.length_eq_zero_iff.1 HN.out
    have HB := Lib.hid hb0
    clear hb hb0 hm1 hrow hblt CK CS
    go_wp2
    go_loopw [3, 10] (fun v i wr => i = .int .i64 0 ∧ v = .slice none 0 0 ∧ wr = w1) (fun _ _ _ => 0)
    case atStart => exact ⟨rfl, rfl, rfl⟩
    case round =>
      obtain ⟨rfl, rfl, rfl⟩ := hrel
      go_wp2
      go_ret
      rw [hnil]
      exact ⟨none, 0, rfl, fun k hk => absurd hk (by simp), HB.out⟩
  · have hst := own_strs hrow
    have hg1 : g < w1.heap.size := (hrow.lt g rfl).2
    obtain ⟨ad, had⟩ : ∃ ad : Addr, ad = ⟨g, 0, none⟩ := ⟨_, rfl⟩
    have HAD := Lib.hid had
    rw [← had] at hst ⊢
    clear had
    have hcap : (n : Int) ≤ (cap : Int) := by omega
    have hcm : (cap : Int) ≤ 9223372036854775807 := by unfold maxLen at h2; omega
    have HB0 := Lib.hid hb0; have HM1 := Lib.hid hm1; have HST := Lib.hid hst; have HG := Lib.hid hg1
    clear hb hb0 hm1 hrow hst hg1 hblt CK CS h1 h2
    go_wp2
    go_loopw [3, 10] (fun v i wr => ∃ k : Nat, k ≤ n ∧ i = .int .i64 k ∧ wr.ownsRow w1.heap.size 87 2 v k (Ent.flat (l.take k)) ∧ Below w1.heap.size w1 wr) (fun _ i _ => n - (intOf i).toNat)
    case atStart => exact ⟨0, Nat.zero_le _, rfl, World.ownsRow_nil _ _ _ _, Below.refl _ _⟩
    case round =>
      obtain ⟨k, hk, rfl, hown, hbel⟩ := hrel
      by_cases hlt : k < n
      · have hkl : k < l.length := by rw [HN.out]; exact hlt
        have hbk : (ad.add k).block = g := by rw [HAD.out]; exact add_block _ _
        have q0 := (hbel.cell (p := ad.add k) (by rw [hbk]; exact HG.out)).trans (HST.out k hkl)
        have hfit := (HL.out.2 _ (List.getElem_mem hkl)).1
        have hlook := (HM1.out.keep (hbel.block b HM1.out.lt)).look hfit
        rw [findE_at HL.out.1 k hkl] at hlook
        have htk := take_get l k hkl
        obtain ⟨x, hx⟩ : ∃ x, l[k]'hkl = x := ⟨_, rfl⟩
        rw [hx] at q0 hlook htk
        obtain ⟨nm, id⟩ := x
        simp only at q0 hlook
        have b0 : (0 : Int) ≤ (k : Int) := by omega
        have b1 : (k : Int) < (n : Int) := by omega
        have hsz : w1.heap.size ≤ wr.heap.size := hbel.size
        have HTK := Lib.hid htk; have HBEL := Lib.hid hbel; have HO := Lib.hid hown
        clear hx htk hfit hbk
        go_wp2_with (at_builtin; refine wpList_append_own _ rfl _ _ 53 rfl w1.heap.size 87 i0 _ 2 24 Try.underlying53 hi hz0 hz1 hz2 rfl (by decide) _ _ _ rfl (hown.alloc _) ⟨wr.heap.size, 0, none⟩ 1 1 [.string nm, .int .i64 id] rfl rfl (news_ent _ _ _ _) (one_ent _ _) (by unfold maxLen; omega) (by omega) (Nat.le_trans hsz (by simp)) ?_; intro v' w2 hown' hgrow _)
        have hb2 : Below w1.heap.size w1 w2 := (HBEL.out.alloc HBEL.out.size _).grown hgrow (Nat.le_trans HBEL.out.size (by simp)) (own_block HO.out)
        have ho2 : w2.ownsRow w1.heap.size 87 2 v' (k + 1) (Ent.flat (l.take (k + 1))) := by
          rw [HTK.out, Ent.flat_app]
          exact hown'
        have HO2 := Lib.hid ho2; have HB2 := Lib.hid hb2
        clear hown' hgrow hown hbel ho2 hb2 HO
        go_wp2
        go_roundw
        case rel => exact ⟨k + 1, by omega, by go_num, HO2.out, HB2.out⟩
        case measure => simp [intOf]; omega
      · obtain rfl : k = n := by omega
        rw [List.take_of_length_le (by rw [HN.out]; exact Nat.le_refl _)] at hown
        rw [← HN.out] at hown
        obtain ⟨ad2, cp, rfl, hr⟩ := own_ents hown
        have HR := Lib.hid (hr.more (B' := fun b => w.heap.size ≤ b ∧ b < _) (fun b hb => ⟨Nat.le_trans HB0.out.size hb.1, hb.2⟩)); have HBEL := Lib.hid hbel
        clear hr hown hbel
        go_wp2
        go_ret
        exact ⟨ad2, cp, rfl, HR.out, HB0.out.trans (HBEL.out.mono HB0.out.size)⟩
set_option maxRecDepth 100000 in
set_option maxHeartbeats 400000 in
theorem fonow_f {w : World} {a bn bk : Nat} {v : Value} {cs : List Chg} {l : List Ent} (h : Fold w a bn bk v cs l) (hn : (allE l cs).length ≤ 1000000) :
    Calls Try.prog 21 #[.pointer (some ⟨a, 0, none⟩)] w (RetEnts w (allE l cs)) := by
  obtain ⟨c0, c1, c2, f0, f1, f2⟩ := blk3 h.blk
  have CO := Lib.hid (foown_yes h)
  have CE := Lib.hid (foents_any h.now (okE_all cs h.oke h.may) hn)
  clear h hn
  go_enter Try.func21, Try.ntmps21
  go_wp2_with (first
    | (go_at_call 29; refine CO.out.mono ?_; rintro e w' ⟨rfl, rfl⟩)
    | (go_at_call 41; refine CE.out.mono ?_; rintro e w2 ⟨ad, cp, rfl, hr⟩))
  go_ret
  exact ⟨ad, cp, rfl, hr⟩
set_option maxRecDepth 100000 in
set_option maxHeartbeats 400000 in
theorem fokept_f {w : World} {a bn bk : Nat} {v : Value} {cs : List Chg} {l : List Ent} (h : Fold w a bn bk v cs l) (hn : l.length ≤ 1000000) :
    Calls Try.prog 22 #[.pointer (some ⟨a, 0, none⟩)] w (RetEnts w l) := by
  obtain ⟨c0, c1, c2, f0, f1, f2⟩ := blk3 h.blk
  have CO := Lib.hid (foown_yes h)
  have CE := Lib.hid (foents_any h.kept h.oke hn)
  clear h hn
  go_enter Try.func22, Try.ntmps22
  go_wp2_with (first
    | (go_at_call 29; refine CO.out.mono ?_; rintro e w' ⟨rfl, rfl⟩)
    | (go_at_call 41; refine CE.out.mono ?_; rintro e w2 ⟨ad, cp, rfl, hr⟩))
  go_ret
  exact ⟨ad, cp, rfl, hr⟩
end Go.Proofs.Ytpcbfkcpefcnjaa
