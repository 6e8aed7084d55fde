/-
  The ways down: to the last chunk, to the first, to that of a place. (gen_weld.py writes the drawn regions.)
-/
import Derived.Test.YtephlcdanokolaaWeldAr
namespace Go.Proofs.Ytephlcdanokolaa
open Go.RowKit
set_option linter.unusedVariables false
set_option linter.unusedSimpArgs false

def noneI (q : Int) (w : World) : Prop := True
def lastG (q : Int) (K : List Kid) (i : Nat) (q1 : Int) : Prop := i + 1 = K.length
def lastR (q : Int) (L A : List ByteArray) (s : ByteArray) (C : List ByteArray) (q' : Int) : Prop := C = []
def firstG (q : Int) (K : List Kid) (i : Nat) (q1 : Int) : Prop := i = 0
def firstR (q : Int) (L A : List ByteArray) (s : ByteArray) (C : List ByteArray) (q' : Int) : Prop := A = []
theorem last_way : Way lastG lastR :=
  ⟨fun q s _ => rfl, fun q K i q1 A s C q' h hg hr => by
    unfold lastG at hg; unfold lastR at hr ⊢
    rw [hr, hg, List.drop_length]; rfl⟩
theorem first_way : Way firstG firstR :=
  ⟨fun q s _ => rfl, fun q K i q1 A s C q' h hg hr => by
    unfold firstG at hg; unfold firstR at hr ⊢
    subst hg; rw [hr]; rfl⟩
set_option maxRecDepth 100000 in
theorem last_pick : Pick [] 64 #[] noneI lastG := by
  refine ⟨fun _ _ _ _ _ => trivial, fun q w g c h K _ _ _ _ h2 h8 => ?_⟩
  obtain ⟨n, hn⟩ : ∃ n, K.length = n + 1 := ⟨K.length - 1, by omega⟩
  show Calls Try.prog 64 #[.slice (some ⟨g, 0, none⟩) K.length c] w _
  have HN := Lib.hid hn
  rw [hn]
  rw [hn] at h8
  clear hn h2
  go_enter Try.func64, Try.ntmps64
  go_wp2
  go_ret
  exact ⟨n, q, rfl, by omega, HN.out.symm, trivial, Apart.refl _ _⟩
set_option maxRecDepth 100000 in
theorem first_pick : Pick [] 65 #[] noneI firstG := by
  refine ⟨fun _ _ _ _ _ => trivial, fun q w g c h K _ _ _ _ h2 h8 => ?_⟩
  show Calls Try.prog 65 #[.slice (some ⟨g, 0, none⟩) K.length c] w _
  go_enter Try.func65, Try.ntmps65
  go_wp2
  go_ret
  exact ⟨0, q, rfl, by omega, rfl, trivial, Apart.refl _ _⟩

/-- Numbers that an int has. -/
def i64P (q : Int) : Prop := -9223372036854775808 ≤ q ∧ q ≤ 9223372036854775807
/-- The place is in its variable. -/
def placeI (bt : Nat) (q : Int) (w : World) : Prop := Blk w bt #[.int .i64 q] 3 ∧ i64P q
def placeG (q : Int) (K : List Kid) (i : Nat) (q1 : Int) : Prop := q1 = q - (wholeL (flat (K.take i))).size ∧ (0 < i → 0 ≤ q1) ∧ ∀ h : i < K.length, i + 1 < K.length → q1 < (wholeL K[i].L).size
theorem flat_drop_none {K : List Kid} {n : Nat} (h : K.length ≤ n) : flat (K.drop n) = [] := by rw [List.drop_of_length_le h]; rfl
def cutR (q : Int) (L A : List ByteArray) (s : ByteArray) (C : List ByteArray) (q' : Int) : Prop := CutAt L q A s C q'
theorem place_way : Way placeG cutR := by
  refine ⟨fun q s _ => ⟨rfl, by have z : (wholeL []).size = 0 := rfl; omega, fun h => absurd rfl h, fun h => absurd rfl h⟩, fun q K i q1 A s C q' h hg hr => ?_⟩
  obtain ⟨g1, g2, g3⟩ := hg
  obtain ⟨r1, r2, r3, r4⟩ := hr
  have e := flat_pick h
  refine ⟨by rw [e, r1]; simp only [List.append_assoc], by rw [whole_szs]; omega, fun hn => ?_, fun hn => ?_⟩
  · by_cases hA : A = []
    · subst hA
      have : 0 < i := by
        rcases Nat.eq_zero_or_pos i with rfl | h0
        · exact absurd rfl hn
        · exact h0
      have := g2 this
      have z : (wholeL []).size = 0 := rfl
      omega
    · exact r3 hA
  · by_cases hC : C = []
    · subst hC
      have hi : i + 1 < K.length := by
        rcases Nat.lt_or_ge (i + 1) K.length with g | g
        · exact g
        · exact absurd (flat_drop_none g) hn
      have := g3 h hi
      rw [r1, whole_szs, whole_szs, whole_one] at this
      have z : (wholeL []).size = 0 := rfl
      omega
    · exact r4 hC
/-- On the way to the place. -/
structure SpI (bt : Nat) (w : World) (K : List Kid) (q : Int) (i : Nat) (q1 : Int) (wr : World) : Prop where
  blk : Blk wr bt #[.int .i64 q1] 3
  in' : i64P q1
  at' : q1 = q - (wholeL (flat (K.take i))).size
  lo : 0 < i → 0 ≤ q1
  ap : Apart [bt] w wr
theorem flat_take_size (K : List Kid) (k : Nat) (h : k < K.length) : (wholeL (flat (K.take (k + 1)))).size = (wholeL (flat (K.take k))).size + (wholeL K[k].L).size := by rw [flat_take K k h, whole_szs]
set_option maxRecDepth 100000 in
set_option maxHeartbeats 1600000 in
theorem place_pick (bt : Nat) : Pick [bt] 78 #[.pointer (some ⟨bt, 0, none⟩)] (placeI bt) placeG := by
  refine ⟨fun q w w' h hb => ⟨h.1.onto hb, h.2⟩, fun q w g c h M hgS hq hS hj h2 h8 => ?_⟩
  show Calls Try.prog 78 #[.slice (some ⟨g, 0, none⟩) M.length c, .pointer (some ⟨bt, 0, none⟩)] w _
  have hbt : bt < w.heap.size := hS bt (by simp)
  have hg : g ≠ bt := by simpa using hgS
  have hcf : ∀ (a b c : Int) (W : World), (Instr.field 50 (cntV a b c) 0).run Try.prog W = .ok (.int .i64 a) W := fun a b c W => by kernel_rfl
  obtain ⟨n, hn⟩ : ∃ n, M.length = n := ⟨_, rfl⟩
  rw [hn] at h2 h8 hj ⊢
  have HN := Lib.hid hn; have HJ := Lib.hid hj; have HS := Lib.hid hS; have HG := Lib.hid hg; have HGS := Lib.hid hgS
  have HQ0 := Lib.hid hq; have HBT := Lib.hid hbt
  clear hn hj hS hg hgS hq hbt
  have e1 : IntKind.i64.wrap ((n : Int) - 1) = (n : Int) - 1 := IntWalk.i64_in _ (by omega)
  go_enter Try.func78, Try.ntmps78
  go_wp2
  go_loopw [4] (fun v wr => ∃ (i : Nat) (q1 : Int), v = .int .i64 i ∧ i < n ∧ SpI bt w M q i q1 wr) (fun v _ => n - (intOf v).toNat)
  case atStart => exact ⟨0, q, rfl, by omega, HQ0.out.1, HQ0.out.2, by have z : (wholeL (flat (M.take 0))).size = 0 := rfl; omega, fun h => absurd h (Nat.lt_irrefl 0), Apart.refl _ _⟩
  case round =>
    obtain ⟨i, q1, rfl, hin, hI⟩ := hrel
    have hil : i < M.length := by rw [HN.out]; exact hin
    have hj := HJ.out.apartS HGS.out hI.ap
    have r0 := hj.cell hin
    rw [Nat.zero_add] at r0
    have hgl := hj.row.1
    obtain ⟨kv, -, hB⟩ := (hj.kids _ (List.getElem_mem hil)).cells
    have cc : ∀ W, Below wr.heap.size wr W → Calls Try.prog 29 #[pv M[i].b] W fun e w' => e = .returned (cntV (wholeL M[i].L).size (runes (wholeL M[i].L).data.toList) (lines (wholeL M[i].L).data.toList)) ∧ Below W.heap.size W w' := fun W hW => count_blk (hB.onto hW)
    have hsz := flat_take_size M i hil
    have hzz : (wholeL M[i].L).size ≤ 1000000 := by
      have := hj.size
      rw [flat_pick hil, whole_szs, whole_szs] at this
      omega
    have HEND := Lib.hid (fun (W : World) (hW : Below wr.heap.size wr W) (hh : i + 1 < n → q1 < (wholeL M[i].L).size) => (show ∃ (i' : Nat) (q1 : Int), Ending.returned (.int .i64 i) = .returned (.int .i64 i') ∧ i' < n ∧ placeG q M i' q1 ∧ placeI bt q1 W ∧ Apart [bt] w W from
      ⟨i, q1, rfl, hin, ⟨hI.at', hI.lo, fun _ h => hh (by rw [← HN.out]; exact h)⟩, ⟨hI.blk.onto hW, hI.in'⟩, hI.ap.trans (Apart.of_below hW : Apart [bt] wr W) (fun x hx => .inl hx)⟩))
    have HNX := Lib.hid (fun (W : World) (hW : Below wr.heap.size wr W) (hle : ((wholeL M[i].L).size : Int) ≤ q1) => (show SpI bt w M q (i + 1) (q1 - (wholeL M[i].L).size) (W.setCell ⟨bt, 0, none⟩ (.int .i64 (q1 - (wholeL M[i].L).size))) from
      ⟨(hI.blk.onto hW).set 0 _, by have := hI.in'; unfold i64P at this ⊢; omega, by rw [hsz]; have := hI.at'; omega, fun _ => by omega, (hI.ap.trans (Apart.of_below hW : Apart [bt] wr W) (fun x hx => .inl hx)).setCell (.inl (by simp)) _⟩))
    have HW1 := Lib.hid (fun hle : ((wholeL M[i].L).size : Int) ≤ q1 => (IntWalk.i64_in _ (by have := hI.in'; unfold i64P at this; omega) : IntKind.i64.wrap (q1 - ((wholeL M[i].L).size : Int)) = q1 - ((wholeL M[i].L).size : Int)))
    have HQ := Lib.hid (And.intro (fun W (hW : Below wr.heap.size wr W) => (hI.blk.onto hW).cell 0 (.int .i64 q1) rfl) (fun W (hW : Below wr.heap.size wr W) => (hW.cell (p := ⟨g, i, none⟩) hgl).trans r0))
    have HF := Lib.hid (fun W (hW : Below wr.heap.size wr W) => (hI.blk.onto hW).free 0)
    obtain ⟨xb, hxb⟩ : ∃ xb, M[i].b = xb := ⟨_, rfl⟩
    obtain ⟨z, hz⟩ : ∃ z, (wholeL M[i].L).size = z := ⟨_, rfl⟩
    obtain ⟨R, hR⟩ : ∃ R, runes (wholeL M[i].L).data.toList = R := ⟨_, rfl⟩
    obtain ⟨Y, hY⟩ : ∃ Y, lines (wholeL M[i].L).data.toList = Y := ⟨_, rfl⟩
    rw [hxb, hz, hR, hY] at cc
    rw [hxb] at HQ
    rw [hz] at HEND HNX HW1 hzz
    have CC := Lib.hid cc; have HGL := Lib.hid hgl
    have hcf' := hcf z R Y
    have b1 : (0 : Int) ≤ (i : Int) := by omega
    have b2 : (i : Int) < (n : Int) := by omega
    clear hj r0 hB cc hsz hI hil hxb hz hR hY hgl
    by_cases hlt : i + 1 < n
    · have t1 : decide ((i : Int) < (n : Int) - 1) = true := decide_eq_true (by omega)
      have t2 : (i : Int) < (n : Int) - 1 := by omega
      by_cases hge : (z : Int) ≤ q1
      · have t3 : decide ((z : Int) ≤ q1) = true := decide_eq_true hge
        have HN := Lib.hid (fun W (hW : Below wr.heap.size wr W) => HNX.out W hW hge)
        have e2 := HW1.out hge
        have E2 := Lib.hid e2
        clear e2
        go_wp2_with fail
        -- GEN NEXT
        refine wp_region_held_drew (S := (fun w' : World => Below wr.heap.size wr w' ∧ w'.cell? ⟨bt, 0, none⟩ = some (.int .i64 q1) ∧ w'.cell? ⟨g, i, none⟩ = some (pv xb))) (by kernel_rfl) ⟨(Below.refl _ _).drew, HQ.out.1 wr (Below.refl _ _), HQ.out.2 wr (Below.refl _ _)⟩ (fun hHeld => ?_)
        refine wpAnyH_take (i := 0) (v := ?_) (by simp only [List.getElem?_toArray, List.getElem?_cons_succ, List.getElem?_cons_zero]; rfl) (by kernel_rfl) (by kernel_rfl) (by kernel_rfl) (fun _ _ _ h => by exact h) (Or.inl ⟨by rfl, ?_⟩) (by assumption) ?_
        rotate_left
        · (intro w hSw; (try dsimp only at hSw); go_simp; try with_reducible rfl)
        try simp only [Act.put, List.setIfInBounds_toArray, List.set_cons_zero, List.set_cons_succ]
        refine wpAnyH_take (i := 1) (v := ?_) (by simp only [List.getElem?_toArray, List.getElem?_cons_succ, List.getElem?_cons_zero]; rfl) (by kernel_rfl) (by kernel_rfl) (by kernel_rfl) (fun _ _ _ h => by exact h) (Or.inl ⟨by rfl, ?_⟩) (by assumption) ?_
        rotate_left
        · (intro w hSw; (try dsimp only at hSw); go_simp; try with_reducible rfl)
        try simp only [Act.put, List.setIfInBounds_toArray, List.set_cons_zero, List.set_cons_succ]
        refine wpAnyH_take (i := 2) (v := ?_) (by simp only [List.getElem?_toArray, List.getElem?_cons_succ, List.getElem?_cons_zero]; rfl) (by kernel_rfl) (by kernel_rfl) (by kernel_rfl) (fun _ _ _ h => by exact h) (Or.inl ⟨by rfl, ?_⟩) (by assumption) ?_
        rotate_left
        · (intro w hSw; (try dsimp only at hSw); go_simp; try with_reducible rfl)
        try simp only [Act.put, List.setIfInBounds_toArray, List.set_cons_zero, List.set_cons_succ]
        refine wpAnyH_take (i := 3) (v := ?_) (by simp only [List.getElem?_toArray, List.getElem?_cons_succ, List.getElem?_cons_zero]; rfl) (by kernel_rfl) (by kernel_rfl) (by kernel_rfl) (fun _ _ _ h => by exact h) (Or.inl ⟨by rfl, ?_⟩) (by assumption) ?_
        rotate_left
        · (intro w hSw; (try dsimp only at hSw); go_simp; try with_reducible rfl)
        try simp only [Act.put, List.setIfInBounds_toArray, List.set_cons_zero, List.set_cons_succ]
        refine wpAnyH_take (i := 4) (v := ?_) (by simp only [List.getElem?_toArray, List.getElem?_cons_succ, List.getElem?_cons_zero]; rfl) (by kernel_rfl) (by kernel_rfl) (by kernel_rfl) (fun _ _ _ h => by exact h) (Or.inl ⟨by rfl, ?_⟩) (by assumption) ?_
        rotate_left
        · (intro w hSw; (try dsimp only at hSw); go_simp; try with_reducible rfl)
        try simp only [Act.put, List.setIfInBounds_toArray, List.set_cons_zero, List.set_cons_succ]
        refine wpAnyH_take (i := 5) (v := ?_) (by simp only [List.getElem?_toArray, List.getElem?_cons_succ, List.getElem?_cons_zero]; rfl) (by kernel_rfl) (by kernel_rfl) (by kernel_rfl) (fun _ _ _ h => by exact h) (Or.inl ⟨by rfl, ?_⟩) (by assumption) ?_
        rotate_left
        · (intro w hSw; (try dsimp only at hSw); go_simp; try with_reducible rfl)
        try simp only [Act.put, List.setIfInBounds_toArray, List.set_cons_zero, List.set_cons_succ]
        refine wpAnyH_take (i := 6) (v := ?_) (by simp only [List.getElem?_toArray, List.getElem?_cons_succ, List.getElem?_cons_zero]; rfl) (by kernel_rfl) (by kernel_rfl) (by kernel_rfl) (fun _ _ _ h => by exact h) (Or.inl ⟨by rfl, ?_⟩) (by assumption) ?_
        rotate_left
        · (intro w hSw; (try dsimp only at hSw); go_simp; try with_reducible rfl)
        try simp only [Act.put, List.setIfInBounds_toArray, List.set_cons_zero, List.set_cons_succ]
        refine wpAnyH_take (i := 7) (v := ?_) (by simp only [List.getElem?_toArray, List.getElem?_cons_succ, List.getElem?_cons_zero]; rfl) (by kernel_rfl) (by kernel_rfl) (by kernel_rfl) (fun _ _ _ h => by exact h) (Or.inl ⟨by rfl, ?_⟩) (by assumption) ?_
        rotate_left
        · (intro w hSw; (try dsimp only at hSw); go_simp; try with_reducible rfl)
        try simp only [Act.put, List.setIfInBounds_toArray, List.set_cons_zero, List.set_cons_succ]
        refine wpAnyH_take (i := 8) (v := ?_) (by simp only [List.getElem?_toArray, List.getElem?_cons_succ, List.getElem?_cons_zero]; rfl) (by kernel_rfl) (by kernel_rfl) (by kernel_rfl) (fun _ _ _ h => by exact h) (Or.inl ⟨by rfl, ?_⟩) (by assumption) ?_
        rotate_left
        · (intro w hSw; (try dsimp only at hSw); go_simp; try with_reducible rfl)
        try simp only [Act.put, List.setIfInBounds_toArray, List.set_cons_zero, List.set_cons_succ]
        refine wpAnyH_take (i := 9) (v := ?_) (by simp only [List.getElem?_toArray, List.getElem?_cons_succ, List.getElem?_cons_zero]; rfl) (by kernel_rfl) (by kernel_rfl) (by kernel_rfl) (fun _ _ _ h => by exact h) (Or.inl ⟨by rfl, ?_⟩) (by assumption) ?_
        rotate_left
        · (intro w hSw; (try dsimp only at hSw); go_simp; try with_reducible rfl)
        try simp only [Act.put, List.setIfInBounds_toArray, List.set_cons_zero, List.set_cons_succ]
        refine wpAnyH_take (i := 10) (v := ?_) (by simp only [List.getElem?_toArray, List.getElem?_cons_succ, List.getElem?_cons_zero]; rfl) (by kernel_rfl) (by kernel_rfl) (by kernel_rfl) (fun _ _ _ h => by exact h) (Or.inl ⟨by rfl, ?_⟩) (by assumption) ?_
        rotate_left
        · (intro w hSw; (try dsimp only at hSw); go_simp; try with_reducible rfl)
        try simp only [Act.put, List.setIfInBounds_toArray, List.set_cons_zero, List.set_cons_succ]
        refine wpAnyH_ready (rs := [11]) (by kernel_rfl) (by simp) ?_
        refine AllReadyH.cons (by simp only [List.getElem?_toArray, List.getElem?_cons_succ, List.getElem?_cons_zero]; rfl) (fun K hK => ?_) AllReadyH.nil
        go_simp
        (go_at_call 29; refine (CC.out _ hHeld.1).mono ?_; rintro e w2 ⟨rfl, hb2⟩; have HB2 := Lib.hid (hHeld.1.trans (hb2.mono hHeld.1.size)); clear hb2)
        try go_wp2_with fail
        refine hK.out _ _ ?_ (fun hHeld => ?_)
        · exact ⟨HB2.out, HQ.out.1 w2 HB2.out, HQ.out.2 w2 HB2.out⟩
        clear hK K
        try simp only [Act.put, List.setIfInBounds_toArray, List.set_cons_zero, List.set_cons_succ]
        refine wpAnyH_take (i := 12) (v := ?_) (by simp only [List.getElem?_toArray, List.getElem?_cons_succ, List.getElem?_cons_zero]; rfl) (by kernel_rfl) (by kernel_rfl) (by kernel_rfl) (fun _ _ _ h => by exact h) (Or.inl ⟨by rfl, ?_⟩) (by assumption) ?_
        rotate_left
        · (intro w hSw; (try dsimp only at hSw); go_simp; try with_reducible rfl)
        try simp only [Act.put, List.setIfInBounds_toArray, List.set_cons_zero, List.set_cons_succ]
        refine wpAnyH_take (i := 13) (v := ?_) (by simp only [List.getElem?_toArray, List.getElem?_cons_succ, List.getElem?_cons_zero]; rfl) (by kernel_rfl) (by kernel_rfl) (by kernel_rfl) (fun _ _ _ h => by exact h) (Or.inl ⟨by rfl, ?_⟩) (by assumption) ?_
        rotate_left
        · (intro w hSw; (try dsimp only at hSw); go_simp; try with_reducible rfl)
        try simp only [Act.put, List.setIfInBounds_toArray, List.set_cons_zero, List.set_cons_succ]
        refine wpAnyH_take (i := 14) (v := ?_) (by simp only [List.getElem?_toArray, List.getElem?_cons_succ, List.getElem?_cons_zero]; rfl) (by kernel_rfl) (by kernel_rfl) (by kernel_rfl) (fun _ _ _ h => by exact h) (Or.inl ⟨by rfl, ?_⟩) (by assumption) ?_
        rotate_left
        · (intro w hSw; (try dsimp only at hSw); go_simp; try with_reducible rfl)
        try simp only [Act.put, List.setIfInBounds_toArray, List.set_cons_zero, List.set_cons_succ]
        refine wpAnyH_done (by kernel_rfl) ?_ _
        -- END GEN NEXT
        have CD := Lib.hid (fun W (hW : Below w2.heap.size w2 W) => CC.out W (HB2.out.trans (hW.mono HB2.out.size)))
        have HZB := Lib.hid (fun W (hW : Below w2.heap.size w2 W) => HQ.out.1 W (HB2.out.trans (hW.mono HB2.out.size)))
        have HZF := Lib.hid (fun W (hW : Below w2.heap.size w2 W) => HF.out W (HB2.out.trans (hW.mono HB2.out.size)))
        have HG2 := Lib.hid (fun W (hW : Below w2.heap.size w2 W) => HQ.out.2 W (HB2.out.trans (hW.mono HB2.out.size)))
        have HG3 := Lib.hid (fun W (hW : Below w2.heap.size w2 W) => (World.cell?_of_block (w := W) (a := ⟨g, i, none⟩) (Below.heap_setCell W ⟨bt, 0, none⟩ (.int .i64 (q1 - z)) g HG.out)).trans (HG2.out W hW))
        have e2 := E2.out
        go_wp2_with fail
        -- GEN STORE
        refine wp_region_held_drew (S := (fun w' : World => Apart [bt] w2 w' ∧ w'.cell? ⟨g, i, none⟩ = some (pv xb))) (by kernel_rfl) ⟨(Apart.refl _ _).drewN 1, HG2.out w2 (Below.refl _ _)⟩ (fun hHeld => ?_)
        refine wpAnyH_take (i := 1) (v := ?_) (by simp only [List.getElem?_toArray, List.getElem?_cons_succ, List.getElem?_cons_zero]; rfl) (by kernel_rfl) (by kernel_rfl) (by kernel_rfl) (fun _ _ _ h => by exact h) (Or.inl ⟨by rfl, ?_⟩) (by assumption) ?_
        rotate_left
        · (intro w hSw; (try dsimp only at hSw); go_simp; try with_reducible rfl)
        try simp only [Act.put, List.setIfInBounds_toArray, List.set_cons_zero, List.set_cons_succ]
        refine wpAnyH_take (i := 2) (v := ?_) (by simp only [List.getElem?_toArray, List.getElem?_cons_succ, List.getElem?_cons_zero]; rfl) (by kernel_rfl) (by kernel_rfl) (by kernel_rfl) (fun _ _ _ h => by exact h) (Or.inl ⟨by rfl, ?_⟩) (by assumption) ?_
        rotate_left
        · (intro w hSw; (try dsimp only at hSw); go_simp; try with_reducible rfl)
        try simp only [Act.put, List.setIfInBounds_toArray, List.set_cons_zero, List.set_cons_succ]
        refine wpAnyH_take (i := 3) (v := ?_) (by simp only [List.getElem?_toArray, List.getElem?_cons_succ, List.getElem?_cons_zero]; rfl) (by kernel_rfl) (by kernel_rfl) (by kernel_rfl) (fun _ _ _ h => by exact h) (Or.inl ⟨by rfl, ?_⟩) (by assumption) ?_
        rotate_left
        · (intro w hSw; (try dsimp only at hSw); go_simp; try with_reducible rfl)
        try simp only [Act.put, List.setIfInBounds_toArray, List.set_cons_zero, List.set_cons_succ]
        refine wpAnyH_take (i := 4) (v := ?_) (by simp only [List.getElem?_toArray, List.getElem?_cons_succ, List.getElem?_cons_zero]; rfl) (by kernel_rfl) (by kernel_rfl) (by kernel_rfl) (fun _ _ _ h => by exact h) (Or.inl ⟨by rfl, ?_⟩) (by assumption) ?_
        rotate_left
        · (intro w hSw; (try dsimp only at hSw); go_simp; try with_reducible rfl)
        try simp only [Act.put, List.setIfInBounds_toArray, List.set_cons_zero, List.set_cons_succ]
        have z1 := HZB.out w2.drew (Below.refl w2.heap.size w2).drew
        refine wpAnyH_ready (rs := [0, 5]) (by kernel_rfl) (by simp) ?_
        refine AllReadyH.cons (by simp only [List.getElem?_toArray, List.getElem?_cons_succ, List.getElem?_cons_zero]; rfl) (fun K hK => ?_) (AllReadyH.cons (by simp only [List.getElem?_toArray, List.getElem?_cons_succ, List.getElem?_cons_zero]; rfl) (fun K hK => ?_) AllReadyH.nil)
        · go_simp
          try go_wp2_with fail
          refine hK.out _ _ ?_ (fun hHeld => ?_)
          · exact hHeld
          clear hK K
          try simp only [Act.put, List.setIfInBounds_toArray, List.set_cons_zero, List.set_cons_succ]
          refine wpAnyH_ready (rs := [5]) (by kernel_rfl) (by simp) ?_
          refine AllReadyH.cons (by simp only [List.getElem?_toArray, List.getElem?_cons_succ, List.getElem?_cons_zero]; rfl) (fun K hK => ?_) AllReadyH.nil
          go_simp
          (go_at_call 29; refine (CD.out _ (Below.refl w2.heap.size w2).drew).mono ?_; rintro e w3 ⟨rfl, hb3⟩; have HB3 := Lib.hid ((Below.refl w2.heap.size w2).drew.trans (hb3.mono (Below.refl w2.heap.size w2).drew.size)); have HX3 := Lib.hid hb3; clear hb3)
          try go_wp2_with fail
          refine hK.out _ _ ?_ (fun hHeld => ?_)
          · exact ⟨.of_below HB3.out, HG2.out w3 HB3.out⟩
          clear hK K
          try simp only [Act.put, List.setIfInBounds_toArray, List.set_cons_zero, List.set_cons_succ]
          refine wpAnyH_take (i := 6) (v := ?_) (by simp only [List.getElem?_toArray, List.getElem?_cons_succ, List.getElem?_cons_zero]; rfl) (by kernel_rfl) (by kernel_rfl) (by kernel_rfl) (fun _ _ _ h => by exact h) (Or.inl ⟨by rfl, ?_⟩) (by assumption) ?_
          rotate_left
          · (intro w hSw; (try dsimp only at hSw); go_simp; try with_reducible rfl)
          try simp only [Act.put, List.setIfInBounds_toArray, List.set_cons_zero, List.set_cons_succ]
          refine wpAnyH_take (i := 7) (v := ?_) (by simp only [List.getElem?_toArray, List.getElem?_cons_succ, List.getElem?_cons_zero]; rfl) (by kernel_rfl) (by kernel_rfl) (by kernel_rfl) (fun _ _ _ h => by exact h) (Or.inl ⟨by rfl, ?_⟩) (by assumption) ?_
          rotate_left
          · (intro w hSw; (try dsimp only at hSw); go_simp; try with_reducible rfl)
          try simp only [Act.put, List.setIfInBounds_toArray, List.set_cons_zero, List.set_cons_succ]
          have z2 := HZB.out w3 HB3.out
          have z3 := HZF.out w3 HB3.out
          refine wpAnyH_ready (rs := [8]) (by kernel_rfl) (by simp) ?_
          refine AllReadyH.cons (by simp only [List.getElem?_toArray, List.getElem?_cons_succ, List.getElem?_cons_zero]; rfl) (fun K hK => ?_) AllReadyH.nil
          go_simp
          skip
          try go_wp2_with fail
          refine hK.out _ _ ?_ (fun hHeld => ?_)
          · exact ⟨Apart.setCell (.of_below HB3.out) (.inl (by simp)) _, HG3.out w3 HB3.out⟩
          clear hK K
          try simp only [Act.put, List.setIfInBounds_toArray, List.set_cons_zero, List.set_cons_succ]
          refine wpAnyH_done (by kernel_rfl) ?_ _
          go_wp2_with fail
          go_roundw
          case rel => exact ⟨i + 1, _, by go_num, by omega, HN.out w3 (HB2.out.trans (HB3.out.mono HB2.out.size))⟩
          case measure => simp [intOf]; omega
        · go_simp
          (go_at_call 29; refine (CD.out _ (Below.refl w2.heap.size w2).drew).mono ?_; rintro e w3 ⟨rfl, hb3⟩; have HB3 := Lib.hid ((Below.refl w2.heap.size w2).drew.trans (hb3.mono (Below.refl w2.heap.size w2).drew.size)); have HX3 := Lib.hid hb3; clear hb3)
          try go_wp2_with fail
          refine hK.out _ _ ?_ (fun hHeld => ?_)
          · exact ⟨.of_below HB3.out, HG2.out w3 HB3.out⟩
          clear hK K
          try simp only [Act.put, List.setIfInBounds_toArray, List.set_cons_zero, List.set_cons_succ]
          refine wpAnyH_take (i := 6) (v := ?_) (by simp only [List.getElem?_toArray, List.getElem?_cons_succ, List.getElem?_cons_zero]; rfl) (by kernel_rfl) (by kernel_rfl) (by kernel_rfl) (fun _ _ _ h => by exact h) (Or.inl ⟨by rfl, ?_⟩) (by assumption) ?_
          rotate_left
          · (intro w hSw; (try dsimp only at hSw); go_simp; try with_reducible rfl)
          try simp only [Act.put, List.setIfInBounds_toArray, List.set_cons_zero, List.set_cons_succ]
          clear z1
          have z1 := HZB.out w3 HB3.out
          refine wpAnyH_ready (rs := [0]) (by kernel_rfl) (by simp) ?_
          refine AllReadyH.cons (by simp only [List.getElem?_toArray, List.getElem?_cons_succ, List.getElem?_cons_zero]; rfl) (fun K hK => ?_) AllReadyH.nil
          go_simp
          try go_wp2_with fail
          refine hK.out _ _ ?_ (fun hHeld => ?_)
          · exact hHeld
          clear hK K
          try simp only [Act.put, List.setIfInBounds_toArray, List.set_cons_zero, List.set_cons_succ]
          refine wpAnyH_take (i := 7) (v := ?_) (by simp only [List.getElem?_toArray, List.getElem?_cons_succ, List.getElem?_cons_zero]; rfl) (by kernel_rfl) (by kernel_rfl) (by kernel_rfl) (fun _ _ _ h => by exact h) (Or.inl ⟨by rfl, ?_⟩) (by assumption) ?_
          rotate_left
          · (intro w hSw; (try dsimp only at hSw); go_simp; try with_reducible rfl)
          try simp only [Act.put, List.setIfInBounds_toArray, List.set_cons_zero, List.set_cons_succ]
          have z2 := HZB.out w3 HB3.out
          have z3 := HZF.out w3 HB3.out
          refine wpAnyH_ready (rs := [8]) (by kernel_rfl) (by simp) ?_
          refine AllReadyH.cons (by simp only [List.getElem?_toArray, List.getElem?_cons_succ, List.getElem?_cons_zero]; rfl) (fun K hK => ?_) AllReadyH.nil
          go_simp
          skip
          try go_wp2_with fail
          refine hK.out _ _ ?_ (fun hHeld => ?_)
          · exact ⟨Apart.setCell (.of_below HB3.out) (.inl (by simp)) _, HG3.out w3 HB3.out⟩
          clear hK K
          try simp only [Act.put, List.setIfInBounds_toArray, List.set_cons_zero, List.set_cons_succ]
          refine wpAnyH_done (by kernel_rfl) ?_ _
          go_wp2_with fail
          go_roundw
          case rel => exact ⟨i + 1, _, by go_num, by omega, HN.out w3 (HB2.out.trans (HB3.out.mono HB2.out.size))⟩
          case measure => simp [intOf]; omega
        -- END GEN STORE
      · have t3 : decide ((z : Int) ≤ q1) = false := decide_eq_false hge
        have HE := Lib.hid (fun W (hW : Below wr.heap.size wr W) => HEND.out W hW (fun _ => by omega))
        clear HNX HEND HW1
        go_wp2_with fail
        -- GEN LAST
        refine wp_region_held_drew (S := (fun w' : World => Below wr.heap.size wr w' ∧ w'.cell? ⟨bt, 0, none⟩ = some (.int .i64 q1) ∧ w'.cell? ⟨g, i, none⟩ = some (pv xb))) (by kernel_rfl) ⟨(Below.refl _ _).drew, HQ.out.1 wr (Below.refl _ _), HQ.out.2 wr (Below.refl _ _)⟩ (fun hHeld => ?_)
        refine wpAnyH_take (i := 0) (v := ?_) (by simp only [List.getElem?_toArray, List.getElem?_cons_succ, List.getElem?_cons_zero]; rfl) (by kernel_rfl) (by kernel_rfl) (by kernel_rfl) (fun _ _ _ h => by exact h) (Or.inl ⟨by rfl, ?_⟩) (by assumption) ?_
        rotate_left
        · (intro w hSw; (try dsimp only at hSw); go_simp; try with_reducible rfl)
        try simp only [Act.put, List.setIfInBounds_toArray, List.set_cons_zero, List.set_cons_succ]
        refine wpAnyH_take (i := 1) (v := ?_) (by simp only [List.getElem?_toArray, List.getElem?_cons_succ, List.getElem?_cons_zero]; rfl) (by kernel_rfl) (by kernel_rfl) (by kernel_rfl) (fun _ _ _ h => by exact h) (Or.inl ⟨by rfl, ?_⟩) (by assumption) ?_
        rotate_left
        · (intro w hSw; (try dsimp only at hSw); go_simp; try with_reducible rfl)
        try simp only [Act.put, List.setIfInBounds_toArray, List.set_cons_zero, List.set_cons_succ]
        refine wpAnyH_take (i := 2) (v := ?_) (by simp only [List.getElem?_toArray, List.getElem?_cons_succ, List.getElem?_cons_zero]; rfl) (by kernel_rfl) (by kernel_rfl) (by kernel_rfl) (fun _ _ _ h => by exact h) (Or.inl ⟨by rfl, ?_⟩) (by assumption) ?_
        rotate_left
        · (intro w hSw; (try dsimp only at hSw); go_simp; try with_reducible rfl)
        try simp only [Act.put, List.setIfInBounds_toArray, List.set_cons_zero, List.set_cons_succ]
        refine wpAnyH_take (i := 3) (v := ?_) (by simp only [List.getElem?_toArray, List.getElem?_cons_succ, List.getElem?_cons_zero]; rfl) (by kernel_rfl) (by kernel_rfl) (by kernel_rfl) (fun _ _ _ h => by exact h) (Or.inl ⟨by rfl, ?_⟩) (by assumption) ?_
        rotate_left
        · (intro w hSw; (try dsimp only at hSw); go_simp; try with_reducible rfl)
        try simp only [Act.put, List.setIfInBounds_toArray, List.set_cons_zero, List.set_cons_succ]
        refine wpAnyH_take (i := 4) (v := ?_) (by simp only [List.getElem?_toArray, List.getElem?_cons_succ, List.getElem?_cons_zero]; rfl) (by kernel_rfl) (by kernel_rfl) (by kernel_rfl) (fun _ _ _ h => by exact h) (Or.inl ⟨by rfl, ?_⟩) (by assumption) ?_
        rotate_left
        · (intro w hSw; (try dsimp only at hSw); go_simp; try with_reducible rfl)
        try simp only [Act.put, List.setIfInBounds_toArray, List.set_cons_zero, List.set_cons_succ]
        refine wpAnyH_take (i := 5) (v := ?_) (by simp only [List.getElem?_toArray, List.getElem?_cons_succ, List.getElem?_cons_zero]; rfl) (by kernel_rfl) (by kernel_rfl) (by kernel_rfl) (fun _ _ _ h => by exact h) (Or.inl ⟨by rfl, ?_⟩) (by assumption) ?_
        rotate_left
        · (intro w hSw; (try dsimp only at hSw); go_simp; try with_reducible rfl)
        try simp only [Act.put, List.setIfInBounds_toArray, List.set_cons_zero, List.set_cons_succ]
        refine wpAnyH_take (i := 6) (v := ?_) (by simp only [List.getElem?_toArray, List.getElem?_cons_succ, List.getElem?_cons_zero]; rfl) (by kernel_rfl) (by kernel_rfl) (by kernel_rfl) (fun _ _ _ h => by exact h) (Or.inl ⟨by rfl, ?_⟩) (by assumption) ?_
        rotate_left
        · (intro w hSw; (try dsimp only at hSw); go_simp; try with_reducible rfl)
        try simp only [Act.put, List.setIfInBounds_toArray, List.set_cons_zero, List.set_cons_succ]
        refine wpAnyH_take (i := 7) (v := ?_) (by simp only [List.getElem?_toArray, List.getElem?_cons_succ, List.getElem?_cons_zero]; rfl) (by kernel_rfl) (by kernel_rfl) (by kernel_rfl) (fun _ _ _ h => by exact h) (Or.inl ⟨by rfl, ?_⟩) (by assumption) ?_
        rotate_left
        · (intro w hSw; (try dsimp only at hSw); go_simp; try with_reducible rfl)
        try simp only [Act.put, List.setIfInBounds_toArray, List.set_cons_zero, List.set_cons_succ]
        refine wpAnyH_take (i := 8) (v := ?_) (by simp only [List.getElem?_toArray, List.getElem?_cons_succ, List.getElem?_cons_zero]; rfl) (by kernel_rfl) (by kernel_rfl) (by kernel_rfl) (fun _ _ _ h => by exact h) (Or.inl ⟨by rfl, ?_⟩) (by assumption) ?_
        rotate_left
        · (intro w hSw; (try dsimp only at hSw); go_simp; try with_reducible rfl)
        try simp only [Act.put, List.setIfInBounds_toArray, List.set_cons_zero, List.set_cons_succ]
        refine wpAnyH_take (i := 9) (v := ?_) (by simp only [List.getElem?_toArray, List.getElem?_cons_succ, List.getElem?_cons_zero]; rfl) (by kernel_rfl) (by kernel_rfl) (by kernel_rfl) (fun _ _ _ h => by exact h) (Or.inl ⟨by rfl, ?_⟩) (by assumption) ?_
        rotate_left
        · (intro w hSw; (try dsimp only at hSw); go_simp; try with_reducible rfl)
        try simp only [Act.put, List.setIfInBounds_toArray, List.set_cons_zero, List.set_cons_succ]
        refine wpAnyH_take (i := 10) (v := ?_) (by simp only [List.getElem?_toArray, List.getElem?_cons_succ, List.getElem?_cons_zero]; rfl) (by kernel_rfl) (by kernel_rfl) (by kernel_rfl) (fun _ _ _ h => by exact h) (Or.inl ⟨by rfl, ?_⟩) (by assumption) ?_
        rotate_left
        · (intro w hSw; (try dsimp only at hSw); go_simp; try with_reducible rfl)
        try simp only [Act.put, List.setIfInBounds_toArray, List.set_cons_zero, List.set_cons_succ]
        refine wpAnyH_ready (rs := [11]) (by kernel_rfl) (by simp) ?_
        refine AllReadyH.cons (by simp only [List.getElem?_toArray, List.getElem?_cons_succ, List.getElem?_cons_zero]; rfl) (fun K hK => ?_) AllReadyH.nil
        go_simp
        (go_at_call 29; refine (CC.out _ hHeld.1).mono ?_; rintro e w2 ⟨rfl, hb2⟩; have HB2 := Lib.hid (hHeld.1.trans (hb2.mono hHeld.1.size)); clear hb2)
        try go_wp2_with fail
        refine hK.out _ _ ?_ (fun hHeld => ?_)
        · exact ⟨HB2.out, HQ.out.1 w2 HB2.out, HQ.out.2 w2 HB2.out⟩
        clear hK K
        try simp only [Act.put, List.setIfInBounds_toArray, List.set_cons_zero, List.set_cons_succ]
        refine wpAnyH_take (i := 12) (v := ?_) (by simp only [List.getElem?_toArray, List.getElem?_cons_succ, List.getElem?_cons_zero]; rfl) (by kernel_rfl) (by kernel_rfl) (by kernel_rfl) (fun _ _ _ h => by exact h) (Or.inl ⟨by rfl, ?_⟩) (by assumption) ?_
        rotate_left
        · (intro w hSw; (try dsimp only at hSw); go_simp; try with_reducible rfl)
        try simp only [Act.put, List.setIfInBounds_toArray, List.set_cons_zero, List.set_cons_succ]
        refine wpAnyH_take (i := 13) (v := ?_) (by simp only [List.getElem?_toArray, List.getElem?_cons_succ, List.getElem?_cons_zero]; rfl) (by kernel_rfl) (by kernel_rfl) (by kernel_rfl) (fun _ _ _ h => by exact h) (Or.inl ⟨by rfl, ?_⟩) (by assumption) ?_
        rotate_left
        · (intro w hSw; (try dsimp only at hSw); go_simp; try with_reducible rfl)
        try simp only [Act.put, List.setIfInBounds_toArray, List.set_cons_zero, List.set_cons_succ]
        refine wpAnyH_take (i := 14) (v := ?_) (by simp only [List.getElem?_toArray, List.getElem?_cons_succ, List.getElem?_cons_zero]; rfl) (by kernel_rfl) (by kernel_rfl) (by kernel_rfl) (fun _ _ _ h => by exact h) (Or.inl ⟨by rfl, ?_⟩) (by assumption) ?_
        rotate_left
        · (intro w hSw; (try dsimp only at hSw); go_simp; try with_reducible rfl)
        try simp only [Act.put, List.setIfInBounds_toArray, List.set_cons_zero, List.set_cons_succ]
        refine wpAnyH_done (by kernel_rfl) ?_ _
        -- END GEN LAST
        go_wp2_with fail
        go_ret
        exact HE.out _ HB2.out
    · have t1 : decide ((i : Int) < (n : Int) - 1) = false := decide_eq_false (by omega)
      have t2 : ¬ (i : Int) < (n : Int) - 1 := by omega
      have HE := Lib.hid (fun W (hW : Below wr.heap.size wr W) => HEND.out W hW (fun h => absurd h hlt))
      clear HNX HEND HW1
      go_wp2_with fail
      -- GEN STOP
      refine wp_region_held_drew (S := (fun w' : World => Below wr.heap.size wr w' ∧ w'.cell? ⟨bt, 0, none⟩ = some (.int .i64 q1) ∧ w'.cell? ⟨g, i, none⟩ = some (pv xb))) (by kernel_rfl) ⟨(Below.refl _ _).drew, HQ.out.1 wr (Below.refl _ _), HQ.out.2 wr (Below.refl _ _)⟩ (fun hHeld => ?_)
      refine wpAnyH_take (i := 0) (v := ?_) (by simp only [List.getElem?_toArray, List.getElem?_cons_succ, List.getElem?_cons_zero]; rfl) (by kernel_rfl) (by kernel_rfl) (by kernel_rfl) (fun _ _ _ h => by exact h) (Or.inl ⟨by rfl, ?_⟩) (by assumption) ?_
      rotate_left
      · (intro w hSw; (try dsimp only at hSw); go_simp; try with_reducible rfl)
      try simp only [Act.put, List.setIfInBounds_toArray, List.set_cons_zero, List.set_cons_succ]
      refine wpAnyH_take (i := 1) (v := ?_) (by simp only [List.getElem?_toArray, List.getElem?_cons_succ, List.getElem?_cons_zero]; rfl) (by kernel_rfl) (by kernel_rfl) (by kernel_rfl) (fun _ _ _ h => by exact h) (Or.inl ⟨by rfl, ?_⟩) (by assumption) ?_
      rotate_left
      · (intro w hSw; (try dsimp only at hSw); go_simp; try with_reducible rfl)
      try simp only [Act.put, List.setIfInBounds_toArray, List.set_cons_zero, List.set_cons_succ]
      refine wpAnyH_take (i := 2) (v := ?_) (by simp only [List.getElem?_toArray, List.getElem?_cons_succ, List.getElem?_cons_zero]; rfl) (by kernel_rfl) (by kernel_rfl) (by kernel_rfl) (fun _ _ _ h => by exact h) (Or.inl ⟨by rfl, ?_⟩) (by assumption) ?_
      rotate_left
      · (intro w hSw; (try dsimp only at hSw); go_simp; try with_reducible rfl)
      try simp only [Act.put, List.setIfInBounds_toArray, List.set_cons_zero, List.set_cons_succ]
      refine wpAnyH_take (i := 3) (v := ?_) (by simp only [List.getElem?_toArray, List.getElem?_cons_succ, List.getElem?_cons_zero]; rfl) (by kernel_rfl) (by kernel_rfl) (by kernel_rfl) (fun _ _ _ h => by exact h) (Or.inl ⟨by rfl, ?_⟩) (by assumption) ?_
      rotate_left
      · (intro w hSw; (try dsimp only at hSw); go_simp; try with_reducible rfl)
      try simp only [Act.put, List.setIfInBounds_toArray, List.set_cons_zero, List.set_cons_succ]
      refine wpAnyH_take (i := 4) (v := ?_) (by simp only [List.getElem?_toArray, List.getElem?_cons_succ, List.getElem?_cons_zero]; rfl) (by kernel_rfl) (by kernel_rfl) (by kernel_rfl) (fun _ _ _ h => by exact h) (Or.inl ⟨by rfl, ?_⟩) (by assumption) ?_
      rotate_left
      · (intro w hSw; (try dsimp only at hSw); go_simp; try with_reducible rfl)
      try simp only [Act.put, List.setIfInBounds_toArray, List.set_cons_zero, List.set_cons_succ]
      refine wpAnyH_take (i := 5) (v := ?_) (by simp only [List.getElem?_toArray, List.getElem?_cons_succ, List.getElem?_cons_zero]; rfl) (by kernel_rfl) (by kernel_rfl) (by kernel_rfl) (fun _ _ _ h => by exact h) (Or.inl ⟨by rfl, ?_⟩) (by assumption) ?_
      rotate_left
      · (intro w hSw; (try dsimp only at hSw); go_simp; try with_reducible rfl)
      try simp only [Act.put, List.setIfInBounds_toArray, List.set_cons_zero, List.set_cons_succ]
      refine wpAnyH_take (i := 6) (v := undef) (by simp only [List.getElem?_toArray, List.getElem?_cons_succ, List.getElem?_cons_zero]; rfl) (by kernel_rfl) (by kernel_rfl) (by kernel_rfl) (fun _ _ _ h => by exact h) (Or.inr ⟨by rfl, rfl⟩) (by assumption) ?_
      try simp only [Act.put, List.setIfInBounds_toArray, List.set_cons_zero, List.set_cons_succ]
      refine wpAnyH_take (i := 7) (v := undef) (by simp only [List.getElem?_toArray, List.getElem?_cons_succ, List.getElem?_cons_zero]; rfl) (by kernel_rfl) (by kernel_rfl) (by kernel_rfl) (fun _ _ _ h => by exact h) (Or.inr ⟨by rfl, rfl⟩) (by assumption) ?_
      try simp only [Act.put, List.setIfInBounds_toArray, List.set_cons_zero, List.set_cons_succ]
      refine wpAnyH_take (i := 8) (v := undef) (by simp only [List.getElem?_toArray, List.getElem?_cons_succ, List.getElem?_cons_zero]; rfl) (by kernel_rfl) (by kernel_rfl) (by kernel_rfl) (fun _ _ _ h => by exact h) (Or.inr ⟨by rfl, rfl⟩) (by assumption) ?_
      try simp only [Act.put, List.setIfInBounds_toArray, List.set_cons_zero, List.set_cons_succ]
      refine wpAnyH_take (i := 9) (v := undef) (by simp only [List.getElem?_toArray, List.getElem?_cons_succ, List.getElem?_cons_zero]; rfl) (by kernel_rfl) (by kernel_rfl) (by kernel_rfl) (fun _ _ _ h => by exact h) (Or.inr ⟨by rfl, rfl⟩) (by assumption) ?_
      try simp only [Act.put, List.setIfInBounds_toArray, List.set_cons_zero, List.set_cons_succ]
      refine wpAnyH_take (i := 10) (v := undef) (by simp only [List.getElem?_toArray, List.getElem?_cons_succ, List.getElem?_cons_zero]; rfl) (by kernel_rfl) (by kernel_rfl) (by kernel_rfl) (fun _ _ _ h => by exact h) (Or.inr ⟨by rfl, rfl⟩) (by assumption) ?_
      try simp only [Act.put, List.setIfInBounds_toArray, List.set_cons_zero, List.set_cons_succ]
      refine wpAnyH_take (i := 11) (v := undef) (by simp only [List.getElem?_toArray, List.getElem?_cons_succ, List.getElem?_cons_zero]; rfl) (by kernel_rfl) (by kernel_rfl) (by kernel_rfl) (fun _ _ _ h => by exact h) (Or.inr ⟨by rfl, rfl⟩) (by assumption) ?_
      try simp only [Act.put, List.setIfInBounds_toArray, List.set_cons_zero, List.set_cons_succ]
      refine wpAnyH_take (i := 12) (v := undef) (by simp only [List.getElem?_toArray, List.getElem?_cons_succ, List.getElem?_cons_zero]; rfl) (by kernel_rfl) (by kernel_rfl) (by kernel_rfl) (fun _ _ _ h => by exact h) (Or.inr ⟨by rfl, rfl⟩) (by assumption) ?_
      try simp only [Act.put, List.setIfInBounds_toArray, List.set_cons_zero, List.set_cons_succ]
      refine wpAnyH_take (i := 13) (v := undef) (by simp only [List.getElem?_toArray, List.getElem?_cons_succ, List.getElem?_cons_zero]; rfl) (by kernel_rfl) (by kernel_rfl) (by kernel_rfl) (fun _ _ _ h => by exact h) (Or.inr ⟨by rfl, rfl⟩) (by assumption) ?_
      try simp only [Act.put, List.setIfInBounds_toArray, List.set_cons_zero, List.set_cons_succ]
      refine wpAnyH_take (i := 14) (v := ?_) (by simp only [List.getElem?_toArray, List.getElem?_cons_succ, List.getElem?_cons_zero]; rfl) (by kernel_rfl) (by kernel_rfl) (by kernel_rfl) (fun _ _ _ h => by exact h) (Or.inl ⟨by rfl, ?_⟩) (by assumption) ?_
      rotate_left
      · (intro w hSw; (try dsimp only at hSw); go_simp; try with_reducible rfl)
      try simp only [Act.put, List.setIfInBounds_toArray, List.set_cons_zero, List.set_cons_succ]
      refine wpAnyH_done (by kernel_rfl) ?_ _
      -- END GEN STOP
      go_wp2_with fail
      go_ret
      exact HE.out _ (Below.refl _ _).drew
end Go.Proofs.Ytephlcdanokolaa
