/-
  Contract of Tight: a tree whose chunks are tight is told to be.
-/
import Derived.Test.YtephlcdanokolaaWeldLay
import Derived.Laws.EntriesVeiled
namespace Go.Proofs.Ytephlcdanokolaa
open Go.RowKit
set_option linter.unusedVariables false
set_option linter.unusedSimpArgs false

/-- The closure, and what it captures: what was seen, itself. -/
abbrev tightV (bs bf : Nat) : Value := .func (.func 49) #[] #[.pointer (some ⟨bs, 0, none⟩), .pointer (some ⟨bf, 0, none⟩)]
structure TBox (w : World) (m bs bf : Nat) : Prop where
  c1 : w.cell? ⟨bs, 0, none⟩ = some (.map (some m))
  c2 : w.cell? ⟨bf, 0, none⟩ = some (tightV bs bf)
  n1 : bs ≠ m
  n2 : bf ≠ m
theorem TBox.apart {w w' : World} {m bs bf : Nat} (h : TBox w m bs bf) (ha : Apart [m] w w') : TBox w' m bs bf :=
  ⟨(ha.cell (p := ⟨bs, 0, none⟩) (World.block_lt_of_cell? w _ h.c1) (by simpa using h.n1)).trans h.c1, (ha.cell (p := ⟨bf, 0, none⟩) (World.block_lt_of_cell? w _ h.c2) (by simpa using h.n2)).trans h.c2, h.n1, h.n2⟩
def WtC (h : Nat) : Prop := ∀ (b : Nat) (L : List ByteArray) (w : World) (B : Nat → Prop) (N m bs bf : Nat) (ks : List Nat), KnotW w B h b L → (∀ i, B i → i < N) → Seen w N m ks → TBox w m bs bf → TightP L →
  Calls Try.prog 49 #[pv b, .pointer (some ⟨bs, 0, none⟩), .pointer (some ⟨bf, 0, none⟩)] w (RetSound w N m)
theorem two_tight {x y : ByteArray} (hx : fitsP x) (hy : fitsP y) (hz : 16 < x.size + y.size) : TightP [x, y] := (tight_cons_iff x [y]).2 ⟨hx, fun _ => hz, tight_one hy⟩
theorem pair_tight {x y : ByteArray} (hx : fitsP x) (hy : fitsP y) (hz : 16 < x.size + y.size) (w : World) :
    Calls Try.prog 51 #[.slice (some ⟨w.heap.size, 0, none⟩) (2 : Nat) (2 : Nat)] (w.alloc (.cells #[.string x, .string y] 9)) fun e w' => e = .returned (.bool true) ∧ Below w.heap.size w w' := by
  have h := strs_two (w := w) (x := x) (y := y) (t := 9) (Below.refl _ _)
  refine (tight_any (some ⟨w.heap.size, 0, none⟩) [x, y] 2 (w.alloc (.cells #[.string x, .string y] 9)) h (by simp) (fun k hk => ?_)).mono ?_
  · match k, hk with
    | 0, _ => have := hx.2.1; show x.size ≤ _; omega
    | 1, _ => have := hy.2.1; show y.size ≤ _; omega
  · rintro e w' ⟨b, rfl, hb, hbel⟩
    rw [hb.2 (two_tight hx hy hz)]
    exact ⟨rfl, ((Below.refl _ _).alloc (Nat.le_refl _) _).trans (hbel.mono (by simp))⟩
/-- What is tight of a tree, of what stands under it. -/
theorem kids_tight {K : List Kid} (hT : TightP (flat K)) : ∀ i (h : i < K.length), TightP K[i].L := fun i h => by
  rw [flat_pick' h] at hT
  exact ((tight_app _ _).1 ((tight_app _ _).1 hT).2.1).1
theorem kids_seam {K : List Kid} (hT : TightP (flat K)) (hne : ∀ k ∈ K, k.L ≠ []) : ∀ j (h : j + 1 < K.length), 16 < (lstL (K[j]'(by omega)).L).size + (fstL K[j + 1].L).size := fun j h => by
  have e : flat K = flat (K.take j) ++ ((K[j]'(by omega)).L ++ (K[j + 1].L ++ flat (K.drop (j + 2)))) := by
    rw [flat_pick' (show j < K.length by omega)]
    rw [List.drop_eq_getElem_cons h, ← List.singleton_append, flat_app, flat_one]
  rw [e] at hT
  have := ((tight_app _ _).1 ((tight_app _ _).1 hT).2.1).2.2 (hne _ (List.getElem_mem _)) (by simp [hne _ (List.getElem_mem h)])
  rwa [fstL_app (hne _ (List.getElem_mem h))] at this

set_option maxRecDepth 100000 in
set_option maxHeartbeats 800000 in
theorem wt_seen {w : World} {b N m bs bf : Nat} {ks : List Nat} {cb : Array Value} {tb : TypeId} (hb : Blk w b cb tb) (hs : Seen w N m ks) (ht : TBox w m bs bf) (hm : b ∈ ks) :
    Calls Try.prog 49 #[pv b, .pointer (some ⟨bs, 0, none⟩), .pointer (some ⟨bf, 0, none⟩)] w (RetSound w N m) := by
  have hlook := hs.look hb
  rw [decide_eq_true hm] at hlook
  have c1 := ht.c1
  have HS := Lib.hid hs
  clear hs hb hm ht
  go_enter Try.func49, Try.ntmps49
  go_wp2
  go_ret
  exact ⟨rfl, ⟨_, HS.out.on ((Below.refl _ _).alloc (Nat.le_refl _) _)⟩, (Apart.refl _ _).alloc _⟩
set_option maxRecDepth 100000 in
set_option maxHeartbeats 800000 in
theorem wt_zero : WtC 0 := by
  intro b L w B N m bs bf ks hk hB hs ht hT
  obtain ⟨kv, -, hblk⟩ := hk.cells
  by_cases hm : b ∈ ks
  · exact wt_seen hblk hs ht hm
  · have hlook := hs.look hblk
    rw [decide_eq_false hm] at hlook
    have hbel : Below w.heap.size w (w.alloc (.cells #[] 73)) := (Below.refl _ _).alloc (Nat.le_refl _) _
    obtain ⟨w1, hput, hs1, ha1⟩ := (hs.on hbel).put (hblk.onto hbel) (hB _ hk.lt) hm
    have hlt := hs.lt
    have hNm := hs.2.1
    have ha : Apart [m] w w1 := (Apart.of_below hbel).trans ha1 (by simp)
    have hk1 := hk.apart hB hNm hlt ha
    obtain ⟨_, s, _, _, hb1⟩ := hk1
    have ck := kids_leaf hb1
    have c1 := ht.c1
    have c1' : (w.alloc (.cells #[] 73)).cell? ⟨bs, 0, none⟩ = some (.map (some m)) := (hbel.cell (p := ⟨bs, 0, none⟩) (World.block_lt_of_cell? w _ c1)).trans c1
    have CK := Lib.hid ck; have HS1 := Lib.hid hs1; have HA := Lib.hid ha
    clear hs hblk hm hbel hs1 ha1 hk ha ck hb1 hB hNm hT ht
    go_enter Try.func49, Try.ntmps49
    go_wp2_with fail
    refine CK.out.mono ?_; rintro e w2 ⟨rfl, hb2⟩
    have HB2 := Lib.hid hb2
    clear hb2
    go_wp2
    go_loopw [24] (fun i wr => i = .int .i64 0 ∧ wr = w2) (fun i _ => 0)
    case atStart => exact ⟨rfl, rfl⟩
    case round =>
      obtain ⟨rfl, rfl⟩ := hrel
      go_wp2
      go_ret
      exact ⟨rfl, ⟨_, HS1.out.on HB2.out⟩, HA.out.trans (S' := []) (.of_below HB2.out) (by simp)⟩
set_option maxRecDepth 100000 in
set_option maxHeartbeats 1600000 in
theorem wt_succ {h : Nat} (hh : h ≤ 899) (ih : WtC h) : WtC (h + 1) := by
  intro b L w B N m bs bf ks hk hB hs ht hT
  obtain ⟨kv, -, hblk⟩ := hk.cells
  by_cases hm : b ∈ ks
  · exact wt_seen hblk hs ht hm
  · have hlook := hs.look hblk
    rw [decide_eq_false hm] at hlook
    have hbel : Below w.heap.size w (w.alloc (.cells #[] 73)) := (Below.refl _ _).alloc (Nat.le_refl _) _
    obtain ⟨w1, hput, hs1, ha1⟩ := (hs.on hbel).put (hblk.onto hbel) (hB _ hk.lt) hm
    have hlt := hs.lt
    have hNm := hs.2.1
    have ha : Apart [m] w w1 := (Apart.of_below hbel).trans ha1 (by simp)
    have hk1 := hk.apart hB hNm hlt ha
    obtain ⟨K, g, c, hn, rfl, hg⟩ := hk1.node
    have ck := kids_own hn
    have ht1 := ht.apart ha
    obtain ⟨n, hkn⟩ : ∃ n, K.length = n := ⟨_, rfl⟩
    have h8 := hn.eight
    have h2 := hn.two
    rw [hkn] at h8 h2
    have c1 := ht.c1
    have c1' : (w.alloc (.cells #[] 73)).cell? ⟨bs, 0, none⟩ = some (.map (some m)) := (hbel.cell (p := ⟨bs, 0, none⟩) (World.block_lt_of_cell? w _ c1)).trans c1
    have htk := kids_tight hT
    have hse := kids_seam hT fun k hk => (hn.kids k hk).ne
    have CK := Lib.hid ck; have HS1 := Lib.hid hs1; have HA := Lib.hid ha; have HN := Lib.hid hn; have HK := Lib.hid hkn; have HIH := Lib.hid ih; have HT1 := Lib.hid ht1; have HTK := Lib.hid htk; have HSE := Lib.hid hse
    have HBB := Lib.hid hB; have HNM := Lib.hid hNm; have HM1 := Lib.hid hs1.lt
    clear hs hblk hm hbel hs1 ha1 hk ha ck hB hNm hn hk1 hkn ih hg hlt ht ht1 htk hse hT
    go_enter Try.func49, Try.ntmps49
    go_wp2_with fail
    refine CK.out.mono ?_; rintro e w2 ⟨v, rfl, ho, hb2⟩
    obtain ⟨g', c', rfl, -, hg', hr⟩ := own_row ho (by rw [HK.out]; omega)
    rw [HK.out]
    have HB2 := Lib.hid hb2; have HR := Lib.hid hr
    have HGM := Lib.hid (show g' ≠ m by have := HM1.out; omega)
    clear ho hb2 hg' hr
    go_wp2
    go_loopw [24] (fun i wr => ∃ k : Nat, k ≤ n ∧ i = .int .i64 k ∧ (∃ ks, Seen wr N m ks) ∧ Apart [m] w2 wr) (fun i _ => n - (intOf i).toNat)
    case atStart => exact ⟨0, Nat.zero_le _, rfl, ⟨_, HS1.out.on HB2.out⟩, Apart.refl _ _⟩
    case round =>
      obtain ⟨k, hk, rfl, ⟨ks2, hs2⟩, ha2⟩ := hrel
      have ha1 : Apart [m] w1 wr := (Apart.of_below HB2.out : Apart [m] w1 w2).trans ha2 (fun x hx => .inl hx)
      by_cases hlt : k < n
      · have hkl : k < K.length := by rw [HK.out]; exact hlt
        have hrw : PRow wr g' 0 (ptrs K) := HR.out.keep ha2.size (ha2.block g' HR.out.1 (by simpa using HGM.out))
        have q0 := hrw.2 k (by rw [ptrs_len]; exact hkl)
        rw [show (ptrs K)[k]'(by rw [ptrs_len]; exact hkl) = pv K[k].b by simp [ptrs], Nat.zero_add] at q0
        have hkid := (HN.out.kids K[k] (List.getElem_mem hkl)).apart HBB.out HNM.out HM1.out ha1
        have htb := HT1.out.apart ha1
        have cf := htb.c2
        have hih : ∀ W, Below wr.heap.size wr W → Calls Try.prog 49 #[pv K[k].b, .pointer (some ⟨bs, 0, none⟩), .pointer (some ⟨bf, 0, none⟩)] W (RetSound W N m) := fun W hW =>
          HIH.out K[k].b K[k].L W B N m bs bf ks2 (hkid.below hW fun i hi => by have := HBB.out i hi; have := HNM.out; have := HM1.out; have := ha1.size; omega) HBB.out (hs2.on hW) (htb.apart (.of_below hW)) (HTK.out k hkl)
        have hcf : ∀ W, Below wr.heap.size wr W → W.cell? ⟨bf, 0, none⟩ = some (tightV bs bf) := fun W hW => (hW.cell (p := ⟨bf, 0, none⟩) (World.block_lt_of_cell? wr _ cf)).trans cf
        have HN2 := Lib.hid (fun W W' (hW : Below wr.heap.size wr W) (h : Apart [m] W W') => (ha2.trans (Apart.of_below hW : Apart [m] wr W) (fun x hx => .inl hx)).trans h (fun x hx => .inl hx))
        by_cases hk0 : k = 0
        · subst hk0
          have ci := hih wr (Below.refl _ _)
          obtain ⟨bk, hbk⟩ : ∃ bk, K[0].b = bk := ⟨_, rfl⟩
          rw [hbk] at q0 ci
          have CI := Lib.hid ci
          have HA2 := Lib.hid ha2
          clear ci ha2 ha1 hs2 hkid htb hih hcf hbk hkl hrw
          go_wp2_with fail
          refine CI.out.mono ?_; rintro e w3 ⟨rfl, hs3, ha3⟩
          have HS3 := Lib.hid hs3; have HA3 := Lib.hid (HA2.out.trans ha3 (fun x hx => .inl hx))
          clear hs3 ha3
          go_wp2
          go_roundw
          case rel => exact ⟨1, by omega, by go_num, HS3.out, HA3.out⟩
          case measure => simp [intOf]; omega
        · obtain ⟨j, rfl⟩ : ∃ j, k = j + 1 := ⟨k - 1, by omega⟩
          have q1 := hrw.2 j (by rw [ptrs_len]; omega)
          rw [show (ptrs K)[j]'(by rw [ptrs_len]; omega) = pv (K[j]'(by omega)).b by simp [ptrs], Nat.zero_add] at q1
          have hkj := (HN.out.kids (K[j]'(by omega)) (List.getElem_mem _)).apart HBB.out HNM.out HM1.out ha1
          obtain ⟨kv1, -, hB1⟩ := hkj.cells
          obtain ⟨kv2, -, hB2⟩ := hkid.cells
          have cl := last_blk hB1
          have cfs := fun W (hW : Below wr.heap.size wr W) => first_blk (hB2.onto hW)
          have f1 : fitsP (lstL (K[j]'(by omega)).L) := by rw [lstL_get hkj.many]; exact hkj.chunks.1 _ (List.getElem_mem _)
          have f2 : fitsP (fstL K[j + 1].L) := by rw [fstL_get hkid.many]; exact hkid.chunks.1 _ (List.getElem_mem _)
          have cp := fun W => pair_tight f1 f2 (HSE.out j hkl) W
          obtain ⟨bk, hbk⟩ : ∃ bk, K[j + 1].b = bk := ⟨_, rfl⟩
          obtain ⟨bj, hbj⟩ : ∃ bj, (K[j]'(by omega)).b = bj := ⟨_, rfl⟩
          obtain ⟨x, hx⟩ : ∃ x, lstL (K[j]'(by omega)).L = x := ⟨_, rfl⟩
          obtain ⟨y, hy⟩ : ∃ y, fstL K[j + 1].L = y := ⟨_, rfl⟩
          rw [hbk] at q0 hih cfs
          rw [hbj] at q1 cl
          rw [hx] at cl cp
          rw [hy] at cfs cp
          have CI := Lib.hid hih; have CL := Lib.hid cl; have CF := Lib.hid cfs; have CP := Lib.hid cp; have HCF := Lib.hid hcf
          have b1 : j + 1 ≤ 8 := by omega
          have b2 : (0 : Int) < (j : Int) + 1 := by omega
          have b3 : (j : Int) < (n : Int) := by omega
          clear ha2 ha1 hs2 hkid hkj htb hih hcf hbk hbj hx hy hkl hrw hB1 hB2 cl cfs f1 f2 cp cf
          go_wp2_with fail
          refine CL.out.mono ?_; rintro e w3 ⟨rfl, hb3⟩
          have HB3 := Lib.hid hb3
          clear hb3
          go_wp2_with fail
          refine (onward HB3.out (CF.out _ HB3.out)).mono ?_; rintro e w4 ⟨rfl, hb4⟩
          have HB4 := Lib.hid hb4
          clear hb4
          go_wp2_with fail
          refine (CP.out w4).mono ?_; rintro e w5 ⟨rfl, hb5⟩
          have HB5 := Lib.hid (HB4.out.trans (hb5.mono HB4.out.size))
          have cf5 := HCF.out w5 HB5.out
          clear hb5
          go_wp2_with fail
          refine (CI.out w5 HB5.out).mono ?_; rintro e w6 ⟨rfl, hs6, ha6⟩
          have HS6 := Lib.hid hs6; have HA6 := Lib.hid (HN2.out w5 w6 HB5.out ha6)
          clear hs6 ha6
          go_wp2
          go_roundw
          case rel => exact ⟨j + 1 + 1, by omega, by go_num, HS6.out, HA6.out⟩
          case measure => simp [intOf]; omega
      · have HS2 := Lib.hid hs2; have HA2 := Lib.hid ha1
        clear hs2 ha2 ha1
        go_wp2
        go_ret
        exact ⟨rfl, ⟨_, HS2.out⟩, HA.out.trans HA2.out (fun x hx => .inl hx)⟩
theorem wt_any (h : Nat) (hh : h ≤ 900) : WtC h := by
  induction h with
  | zero => exact wt_zero
  | succ h ih => exact wt_succ (by omega) (ih (by omega))
/-- The world when what Tight needs is laid: the map, its variable, the closure's. -/
abbrev laidW (w : World) : World := ((w.alloc (.map #[] 0)).alloc (.cells #[.map (some w.heap.size)] 72)).alloc (.cells #[tightV (w.heap.size + 1) (w.heap.size + 1 + 1)] 60)
theorem laid_below (w : World) : Below w.heap.size w (laidW w) := (((Below.refl _ _).alloc (Nat.le_refl _) _).alloc (by simp) _).alloc (by simp; omega) _
theorem laid_box (w : World) : TBox (laidW w) w.heap.size (w.heap.size + 1) (w.heap.size + 1 + 1) := by
  have e1 : (w.alloc (.map #[] 0)).heap.size = w.heap.size + 1 := by simp
  have e2 : ((w.alloc (.map #[] 0)).alloc (.cells #[.map (some w.heap.size)] 72)).heap.size = w.heap.size + 1 + 1 := by simp
  have h1 := (Blk.new (w.alloc (.map #[] 0)) #[.map (some w.heap.size)] 72).alloc (.cells #[tightV (w.heap.size + 1) (w.heap.size + 1 + 1)] 60)
  have h2 := Blk.new ((w.alloc (.map #[] 0)).alloc (.cells #[.map (some w.heap.size)] 72)) #[tightV (w.heap.size + 1) (w.heap.size + 1 + 1)] 60
  rw [e1] at h1
  rw [e2] at h2
  exact ⟨h1.cell 0 _ rfl, h2.cell 0 _ rfl, by omega, by omega⟩
theorem laid_map (w : World) : (laidW w).heap[w.heap.size]? = some (.map #[] 0) := by
  have h := (MapKept.heap_alloc w (.map #[] 0)).1
  have hb : Below (w.heap.size + 1) (w.alloc (.map #[] 0)) (laidW w) := ((Below.refl _ _).alloc (by simp) _).alloc (by simp) _
  exact (hb.block w.heap.size (by omega)).trans h
set_option maxRecDepth 100000 in
set_option maxHeartbeats 800000 in
theorem wtight_any {S : List Nat} {w : World} {h b : Nat} {L : List ByteArray} (k : KnotW w (Off S w) h b L) (hh : h ≤ 900) (hz : (wholeL L).size ≤ 1000000) (hT : TightP L) :
    Calls Try.prog 36 #[pv b] w fun e w' => e = .returned (.bool true) ∧ Below w.heap.size w w' := by
  have hmf : ∀ (fn : Fn) (first cap : Array Value) (w : World), (Instr.makeFunc fn first cap).run Try.prog w = .ok (.func fn first cap) w := fun _ _ _ _ => rfl
  have hmk := run_makeMap (P := Try.prog) 72 w
  have hb := laid_below w
  have k0 : KnotW w (· < w.heap.size) h b L := k.weak fun i hi => hi.1
  have kl := k0.below hb fun i hi => hi
  have cr : Calls Try.prog 35 #[pv b] (laidW w) fun e w' => e = .returned (.bool true) ∧ Below (laidW w).heap.size (laidW w) w' := right_any (kl.weak fun i hi => Nat.lt_of_lt_of_le hi hb.size) hh hz
  have hs : Seen (laidW w) w.heap.size w.heap.size [] := ⟨⟨#[], 0, laid_map w, rfl⟩, Nat.le_refl _, fun k hk => absurd hk (by simp)⟩
  have ct : ∀ W, Below (laidW w).heap.size (laidW w) W → Calls Try.prog 49 #[pv b, .pointer (some ⟨w.heap.size + 1, 0, none⟩), .pointer (some ⟨w.heap.size + 1 + 1, 0, none⟩)] W (RetSound W w.heap.size w.heap.size) := fun W hW =>
    wt_any h hh b L W (· < w.heap.size) w.heap.size w.heap.size _ _ [] (kl.below hW fun i hi => Nat.lt_of_lt_of_le hi hb.size) (fun i hi => hi) (hs.on hW) ((laid_box w).apart (.of_below hW)) hT
  have hc : ∀ W, Below (laidW w).heap.size (laidW w) W → W.cell? ⟨w.heap.size + 1 + 1, 0, none⟩ = some (tightV (w.heap.size + 1) (w.heap.size + 1 + 1)) := fun W hW => (hW.cell (p := ⟨w.heap.size + 1 + 1, 0, none⟩) (World.block_lt_of_cell? _ _ (laid_box w).c2)).trans (laid_box w).c2
  have CR := Lib.hid cr; have CT := Lib.hid ct; have HC := Lib.hid hc; have HB := Lib.hid hb
  clear k hz hT k0 kl cr hs ct hc hb
  go_enter Try.func36, Try.ntmps36
  go_wp2_with fail
  refine CR.out.mono ?_; rintro e w2 ⟨rfl, hb2⟩
  have q := HC.out w2 hb2
  have HB2 := Lib.hid hb2
  clear hb2
  go_wp2_with fail
  refine (CT.out w2 HB2.out).mono ?_; rintro e w3 ⟨rfl, -, ha⟩
  have HR := Lib.hid ((HB.out.trans (HB2.out.mono HB.out.size)).trans (ha.to_below (B := w.heap.size) (by simp) (Nat.le_trans HB.out.size HB2.out.size)))
  clear ha
  go_wp2
  go_ret
  exact ⟨rfl, HR.out⟩
/-- nil as a key, of a map without any. -/
theorem nil_look {w : World} {m clock : Nat} (h1 : w.heap[m]? = some (.map #[] clock)) :
    (Instr.lookup 72 (.map (some m)) (.pointer none) true).run Try.prog w = .ok (.tuple #[.agg #[], .bool false]) w := by
  have hz := Try.zeroValue73 w
  have hu : (underlying 44).run Try.prog w = .ok (.pointer 89) w := run_underlying Try.underlying44 w
  have hck : ∀ (c : Bool) (n : Nat), (Instr.checkKey c (n + 1) 44 (.pointer none)).run Try.prog w = .ok () w := fun c n => by simp [Instr.checkKey, hu]
  have hck' := hck true 9999
  have hck2 := hck false 9999
  have hf : (Instr.findKey 44 (.pointer none) []).run Try.prog w = .ok none w := by
    unfold Instr.findKey
    simp [hu, Instr.findNow]
  simp [Instr.lookup, run_underlying Try.underlying72, MapKept.run_getObj_map h1, hck', hck2, hf, hz, Result.andThen]
theorem nil_put {w : World} {m clock : Nat} (h1 : w.heap[m]? = some (.map #[] clock)) :
    ∃ w', (Instr.mapUpdate 72 (.map (some m)) (.pointer none) (.agg #[])).run Try.prog w = .ok () w' ∧ Apart [m] w w' := by
  have hu : (underlying 44).run Try.prog w = .ok (.pointer 89) w := run_underlying Try.underlying44 w
  have hck : ∀ (c : Bool) (n : Nat), (Instr.checkKey c (n + 1) 44 (.pointer none)).run Try.prog w = .ok () w := fun c n => by simp [Instr.checkKey, hu]
  have hck' := hck true 9999
  have hck2 := hck false 9999
  have hf : (Instr.findKey 44 (.pointer none) []).run Try.prog w = .ok none w := by
    unfold Instr.findKey
    simp [hu, Instr.findNow]
  have ho : ∀ i, i ≠ m → (ChangeMaps.setBlock w m (.map (#[].push { key := .pointer none, val := .agg #[], born := clock }) (clock + 1))).heap[i]? = w.heap[i]? := fun i hi => ChangeMaps.heap_setBlock_other h1 _ hi
  have hz : (ChangeMaps.setBlock w m (.map (#[].push { key := .pointer none, val := .agg #[], born := clock }) (clock + 1))).heap.size = w.heap.size := by simp [ChangeMaps.setBlock]
  refine ⟨ChangeMaps.setBlock w m (.map (#[].push { key := .pointer none, val := .agg #[], born := clock }) (clock + 1)), ?_, ⟨rfl, rfl, rfl, Nat.le_of_eq hz.symm, fun k hk hn => ho k fun e => hn (by simp [e])⟩⟩
  simp [Instr.mapUpdate, run_underlying Try.underlying72, MapKept.run_getObj_map h1, hck', hck2, hf, MapKept.run_setObj_map _ h1, Result.andThen, ChangeMaps.setBlock]
set_option maxRecDepth 100000 in
set_option maxHeartbeats 800000 in
theorem wt_nil {w : World} {m clock bs bf : Nat} (h1 : w.heap[m]? = some (.map #[] clock)) (ht : TBox w m bs bf) :
    Calls Try.prog 49 #[.pointer none, .pointer (some ⟨bs, 0, none⟩), .pointer (some ⟨bf, 0, none⟩)] w fun e w' => e = .returned (.bool true) ∧ Apart [m] w w' := by
  have hlook := nil_look h1
  have hbel : Below w.heap.size w (w.alloc (.cells #[] 73)) := (Below.refl _ _).alloc (Nat.le_refl _) _
  have hlt := (Array.getElem?_eq_some_iff.1 h1).1
  obtain ⟨w1, hput, ha1⟩ := nil_put ((hbel.block m hlt).trans h1)
  have ha : Apart [m] w w1 := (Apart.of_below hbel).trans ha1 (by simp)
  have c1 := ht.c1
  have c1' : (w.alloc (.cells #[] 73)).cell? ⟨bs, 0, none⟩ = some (.map (some m)) := (hbel.cell (p := ⟨bs, 0, none⟩) (World.block_lt_of_cell? w _ c1)).trans c1
  have ck := kids_nil w1
  have CK := Lib.hid ck; have HA := Lib.hid ha
  clear h1 ht hbel hlt ha1 ha ck
  go_enter Try.func49, Try.ntmps49
  go_wp2_with fail
  refine CK.out.mono ?_; rintro e w2 ⟨rfl, hb2⟩
  have HB2 := Lib.hid hb2
  clear hb2
  go_wp2
  go_loopw [24] (fun i wr => i = .int .i64 0 ∧ wr = w2) (fun i _ => 0)
  case atStart => exact ⟨rfl, rfl⟩
  case round =>
    obtain ⟨rfl, rfl⟩ := hrel
    go_wp2
    go_ret
    exact ⟨rfl, HA.out.trans (S' := []) (.of_below HB2.out) (by simp)⟩
set_option maxRecDepth 100000 in
set_option maxHeartbeats 800000 in
theorem wtight_nil (w : World) : Calls Try.prog 36 #[.pointer none] w fun e w' => e = .returned (.bool true) ∧ Below w.heap.size w w' := by
  have hmf : ∀ (fn : Fn) (first cap : Array Value) (w : World), (Instr.makeFunc fn first cap).run Try.prog w = .ok (.func fn first cap) w := fun _ _ _ _ => rfl
  have hmk := run_makeMap (P := Try.prog) 72 w
  have hb := laid_below w
  have hlt : w.heap.size < (laidW w).heap.size := (Array.getElem?_eq_some_iff.1 (laid_map w)).1
  have cr : Calls Try.prog 35 #[.pointer none] (laidW w) fun e w' => e = .returned (.bool true) ∧ Below (laidW w).heap.size (laidW w) w' := right_nil _
  have ct : ∀ W, Below (laidW w).heap.size (laidW w) W → Calls Try.prog 49 #[.pointer none, .pointer (some ⟨w.heap.size + 1, 0, none⟩), .pointer (some ⟨w.heap.size + 1 + 1, 0, none⟩)] W fun e w' => e = .returned (.bool true) ∧ Apart [w.heap.size] W w' := fun W hW =>
    wt_nil ((hW.block _ hlt).trans (laid_map w)) ((laid_box w).apart (.of_below hW))
  have hc : ∀ W, Below (laidW w).heap.size (laidW w) W → W.cell? ⟨w.heap.size + 1 + 1, 0, none⟩ = some (tightV (w.heap.size + 1) (w.heap.size + 1 + 1)) := fun W hW => (hW.cell (p := ⟨w.heap.size + 1 + 1, 0, none⟩) (World.block_lt_of_cell? _ _ (laid_box w).c2)).trans (laid_box w).c2
  have CR := Lib.hid cr; have CT := Lib.hid ct; have HC := Lib.hid hc; have HB := Lib.hid hb
  clear cr ct hc hb hlt
  go_enter Try.func36, Try.ntmps36
  go_wp2_with fail
  refine CR.out.mono ?_; rintro e w2 ⟨rfl, hb2⟩
  have q := HC.out w2 hb2
  have HB2 := Lib.hid hb2
  clear hb2
  go_wp2_with fail
  refine (CT.out w2 HB2.out).mono ?_; rintro e w3 ⟨rfl, ha⟩
  have HR := Lib.hid ((HB.out.trans (HB2.out.mono HB.out.size)).trans (ha.to_below (B := w.heap.size) (by simp) (Nat.le_trans HB.out.size HB2.out.size)))
  clear ha
  go_wp2
  go_ret
  exact ⟨rfl, HR.out⟩
end Go.Proofs.Ytephlcdanokolaa
