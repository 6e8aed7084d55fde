/-
  Contracts of the program's folder (layer 9), fourth part: what waits lasts; Sync, Crash.
-/
import Derived.Test.YtpcbfkcpefcnjaaFoldDev3
namespace Go.Proofs.Ytpcbfkcpefcnjaa
open Go.RowKit
set_option linter.unusedVariables false

/-- A row of changes, as it is read. -/
def Chgs (w : World) (ad : Addr) (cs : List Chg) : Prop :=
  ∀ (k : Nat) (h : k < cs.length), w.cell? (ad.add (k * 4)) = some (.int .i64 (cs[k]).kind) ∧ w.cell? ⟨(ad.add (k * 4)).block, (ad.add (k * 4)).off + 1, none⟩ = some (.string (cs[k]).name) ∧
    w.cell? ⟨(ad.add (k * 4)).block, (ad.add (k * 4)).off + 2, none⟩ = some (.string (cs[k]).dest) ∧ w.cell? ⟨(ad.add (k * 4)).block, (ad.add (k * 4)).off + 3, none⟩ = some (.int .i64 (cs[k]).id)
theorem add_flat (g m : Nat) : (⟨g, 0, none⟩ : Addr).add m = ⟨g, m, none⟩ := by unfold Addr.add; split <;> simp_all
theorem own_chgs {w : World} {base : Nat} {t : TypeId} {g n cap : Nat} {cs : List Chg} (h : w.ownsRow base t 4 (.slice (some ⟨g, 0, none⟩) n cap) n (Chg.flat cs)) : Chgs w ⟨g, 0, none⟩ cs := fun k hk => by
  obtain ⟨h0, h1, h2, h3⟩ := Chg.flat_get cs k hk
  have hc := h.cells (g := g) rfl
  have e0 := hc _ _ h0
  have e1 := hc _ _ h1
  have e2 := hc _ _ h2
  have e3 := hc _ _ h3
  rw [add_flat] at e0 e1 e2 e3 ⊢
  exact ⟨e0, e1, e2, e3⟩
theorem own_form {w : World} {base : Nat} {t : TypeId} {sz n : Nat} {v : Value} {xs : List Value} (h : w.ownsRow base t sz v n xs) : v = .slice none 0 0 ∧ n = 0 ∨ ∃ g cap, v = .slice (some ⟨g, 0, none⟩) n cap ∧ n ≤ cap ∧ cap ≤ maxLen := by
  rcases h.2 with h | ⟨g, cap, cur, rfl, hb, hg, h1, h2, r⟩
  · exact .inl h
  · exact .inr ⟨g, cap, rfl, h1, h2⟩
/-- What settle leaves. -/
def Settled (w : World) (a bn bk : Nat) (v : Value) (cs : List Chg) (l : List Ent) (n : Nat) (e : Ending) (w' : World) : Prop :=
  e = .returned (.tuple #[]) ∧ w'.heap[a]? = some (.cells #[.map (some bn), .map (some bk), .slice none 0 0] 51 (0, 0)) ∧ MapE w' bn (allE l cs) ∧ MapE w' bk (allE l (cs.take n)) ∧ Apart [a, bk] w w'
theorem set_third {w : World} {a : Nat} {x y z : Value} {t : TypeId} (h : w.heap[a]? = some (.cells #[x, y, z] t (0, 0))) (u : Value) : (w.setCell ⟨a, 2, none⟩ u).heap[a]? = some (.cells #[x, y, u] t (0, 0)) := by
  simp [World.setCell, Array.getElem?_modify, h]
theorem set_first {w : World} {a : Nat} {x y z : Value} {t : TypeId} (h : w.heap[a]? = some (.cells #[x, y, z] t (0, 0))) (u : Value) : (w.setCell ⟨a, 0, none⟩ u).heap[a]? = some (.cells #[u, y, z] t (0, 0)) := by
  simp [World.setCell, Array.getElem?_modify, h]
set_option maxRecDepth 100000 in
set_option maxHeartbeats 400000 in
theorem fosettle_nil {w : World} {a bn bk : Nat} {l : List Ent} (h : Fold w a bn bk (.slice none 0 0) [] l) :
    Calls Try.prog 30 #[.pointer (some ⟨a, 0, none⟩), .int .i64 0] w (Settled w a bn bk (.slice none 0 0) [] l 0) := by
  obtain ⟨c0, c1, c2, f0, f1, f2⟩ := blk3 h.blk
  obtain ⟨n1, n2, n3, n4, n5⟩ := h.ab
  have he : ∀ u k, k ≠ a → (w.setCell ⟨a, 2, none⟩ u).heap[k]? = w.heap[k]? := fun u k hk => Below.heap_setCell _ _ _ k (fun q => hk q)
  have H := Lib.hid h; have N := Lib.hid (⟨n1, n2⟩ : a ≠ bn ∧ a ≠ bk); have HE := Lib.hid he
  clear h n1 n2 n3 n4 n5 he
  go_enter Try.func30, Try.ntmps30
  go_wp2
  go_loopw [13] (fun i wr => i = .int .i64 0 ∧ wr = w) (fun _ _ => 0)
  case atStart => exact ⟨rfl, rfl⟩
  case round =>
    obtain ⟨rfl, rfl⟩ := hrel
    go_wp2
    go_end0
    refine ⟨rfl, set_third H.out.blk _, H.out.now.keep (HE.out _ bn (fun q => N.out.1 q.symm)), H.out.kept.keep (HE.out _ bk (fun q => N.out.2 q.symm)), (Apart.refl _ _).setCell (.inl ?_) _⟩
    exact List.mem_cons_self
/-- What stands when a change was made in what lasts. -/
theorem settle_on {w wr w3 : World} {a bn bk g n cap : Nat} {cs : List Chg} {l : List Ent} {c : Chg} (h : Fold w a bn bk (.slice (some ⟨g, 0, none⟩) n cap) cs l) (hr : Apart [bk] w wr) (ha : Apart [bk] (wr.alloc (.cells c.cells 60)) w3) : Apart [bk] w w3 :=
  (hr.trans ((Apart.refl [bk] wr).alloc _) (fun x hx => .inl hx)).trans ha (fun x hx => .inl hx)
theorem settle_cells {w wr : World} {a bn bk g n cap : Nat} {cs : List Chg} {l : List Ent} (h : Fold w a bn bk (.slice (some ⟨g, 0, none⟩) n cap) cs l) (hr : Apart [bk] w wr) :
    wr.heap[a]? = some (.cells #[.map (some bn), .map (some bk), .slice (some ⟨g, 0, none⟩) n cap] 51 (0, 0)) ∧ wr.heap[g]? = w.heap[g]? ∧ MapE wr bn (allE l cs) := by
  obtain ⟨n1, n2, n3, n4, n5⟩ := h.ab
  have hlg := (h.row.lt g rfl).2
  exact ⟨(hr.block a (lt_of_block h.blk) (fun q => n2 (List.mem_singleton.1 q))).trans h.blk, hr.block g hlg (fun q => n5 (by rw [← List.mem_singleton.1 q]; rfl)), h.now.keep (hr.block bn h.now.lt (fun q => h.ne (List.mem_singleton.1 q)))⟩
set_option maxRecDepth 100000 in
set_option maxHeartbeats 1600000 in
theorem fosettle_row {w : World} {a bn bk g n cap : Nat} {cs : List Chg} {l : List Ent} (h : Fold w a bn bk (.slice (some ⟨g, 0, none⟩) n cap) cs l) (hn : n = cs.length) (hcap : n ≤ cap) (hcm : cap ≤ maxLen) (m : Nat) (hm : m ≤ n) (hM : ∀ k ≤ n, (allE l (cs.take k)).length ≤ 1000000) (hcs : n ≤ 1000000) :
    Calls Try.prog 30 #[.pointer (some ⟨a, 0, none⟩), .int .i64 m] w (Settled w a bn bk (.slice (some ⟨g, 0, none⟩) n cap) cs l m) := by
  obtain ⟨c0, c1, c2, f0, f1, f2⟩ := blk3 h.blk
  have hrow : Chgs w ⟨g, 0, none⟩ cs := by have := h.row; rw [← hn] at this; exact own_chgs this
  have hgl : g < w.heap.size := (h.row.lt g rfl).2
  obtain ⟨ad, had⟩ : ∃ ad : Addr, ad = ⟨g, 0, none⟩ := ⟨_, rfl⟩
  have HAD := Lib.hid had
  rw [← had] at hrow
  have H := Lib.hid h; have HROW := Lib.hid hrow; have HM := Lib.hid hM; have HN := Lib.hid hn; have HG := Lib.hid hgl
  have c2' : w.cell? ⟨a, 2, none⟩ = some (.slice (some ad) n cap) := by rw [had]; exact c2
  have b0 : (0 : Int) ≤ (m : Int) := by omega
  have b1 : (m : Int) ≤ (cap : Int) := by omega
  have b2 : (cap : Int) ≤ 9223372036854775807 := by unfold maxLen at hcm; omega
  clear h hrow hM hn c2 hgl had hcm
  go_enter Try.func30, Try.ntmps30
  go_wp2
  go_loopw [13] (fun i wr => ∃ k : Nat, k ≤ m ∧ i = .int .i64 k ∧ MapE wr bk (allE l (cs.take k)) ∧ Apart [bk] w wr) (fun i _ => m - (intOf i).toNat)
  case atStart => exact ⟨0, Nat.zero_le _, rfl, H.out.kept, Apart.refl _ _⟩
  case round =>
    obtain ⟨k, hk, rfl, hmap, hap⟩ := hrel
    obtain ⟨s1, s2, s3⟩ := settle_cells H.out hap
    by_cases hlt : k < m
    · have hkl : k < cs.length := by rw [← HN.out]; omega
      have hrr : Chgs wr ad cs := fun i hi => by
        obtain ⟨e0, e1, e2, e3⟩ := HROW.out i hi
        have hbk : (ad.add (i * 4)).block = g := by rw [HAD.out]; exact add_block _ _
        have hq : ∀ p : Addr, p.block = g → wr.cell? p = w.cell? p := fun p hp => World.cell?_of_block (by rw [hp]; exact s2)
        exact ⟨(hq (ad.add (i * 4)) hbk).trans e0, (hq ⟨(ad.add (i * 4)).block, (ad.add (i * 4)).off + 1, none⟩ hbk).trans e1, (hq ⟨(ad.add (i * 4)).block, (ad.add (i * 4)).off + 2, none⟩ hbk).trans e2, (hq ⟨(ad.add (i * 4)).block, (ad.add (i * 4)).off + 3, none⟩ hbk).trans e3⟩
      obtain ⟨e0, e1, e2, e3⟩ := hrr k hkl
      have hstep := allE_succ l cs k hkl
      have hmay := mays_get cs H.out.may k hkl
      have hok := okE_all (cs.take k) H.out.oke (mays_take cs H.out.may k)
      obtain ⟨x, hx⟩ : ∃ x, cs[k]'hkl = x := ⟨_, rfl⟩
      rw [hx] at e0 e1 e2 e3 hstep hmay
      obtain ⟨kd, s, d, id⟩ := x
      simp only at e0 e1 e2 e3
      obtain ⟨d0, d1, d2, g0, g1, g2⟩ := blk3 s1
      have b3 : (0 : Int) ≤ (k : Int) := by omega
      have b4 : (k : Int) < (m : Int) := by omega
      have CM := Lib.hid (comake_any (w := (wr.alloc (.cells #[.int .i64 kd, .string s, .string d, .int .i64 id] 60)).drew) (hmap.box (.cells #[.int .i64 kd, .string s, .string d, .int .i64 id] 60)) hok (HM.out k (by omega)) ⟨kd, s, d, id⟩ hmay)
      have S1 := Lib.hid s1; have HAP := Lib.hid hap; have HST := Lib.hid hstep
      clear hrr hx hmay hok hmap s1 s2 s3 hap hstep c0 c1 c2' f0 f1 f2
      go_wp2
      have hb0 : (wr.alloc (.cells #[.int .i64 kd, .string s, .string d, .int .i64 id] 60)).heap[a]? = some (.cells #[.map (some bn), .map (some bk), .slice (some ⟨g, 0, none⟩) n cap] 51 (0, 0)) := (Below.heap_alloc _ _ a (lt_of_block S1.out)).trans S1.out
      have hb1 : (wr.alloc (.cells #[.int .i64 kd, .string s, .string d, .int .i64 id] 60)).heap[wr.heap.size]? = some (.cells #[.int .i64 kd, .string s, .string d, .int .i64 id] 60 (0, 0)) := (MapKept.heap_alloc wr _).1
      clear d0 d1 d2 g0 g1 g2
      obtain ⟨d0, d1, d2, g0, g1, g2⟩ := blk3 hb0
      obtain ⟨x0, x1, x2, x3, y0, y1, y2, y3⟩ := blk4 hb1
      clear hb0 hb1 e0 e1 e2 e3
      obtain ⟨w1, hw1⟩ : ∃ w1, w1 = wr.alloc (.cells #[.int .i64 kd, .string s, .string d, .int .i64 id] 60) := ⟨_, rfl⟩
      have HW1 := Lib.hid hw1
      rw [← hw1] at d0 d1 d2 g0 g1 g2 x0 x1 x2 x3 y0 y1 y2 y3 CM ⊢
      clear hw1
      go_still_tail 5, (by kernel_rfl)
      change wpList _ _ _ _ _ w1.drew
      go_wp2_with fail
      refine CM.out.mono ?_
      rintro e w3 ⟨rfl, hm3, ha3⟩
      clear d0 d1 d2 g0 g1 g2 x0 x1 x2 x3 y0 y1 y2 y3
      rw [HW1.out] at ha3
      have ha4 : Apart [bk] w w3 := settle_on (c := ⟨kd, s, d, id⟩) H.out HAP.out ⟨ha3.os, ha3.tape, ha3.output, ha3.size, ha3.block⟩
      rw [← HST.out] at hm3
      have HM3 := Lib.hid hm3; have HA4 := Lib.hid ha4
      clear hm3 ha3 ha4 CM
      go_wp2
      go_roundw
      case rel => exact ⟨k + 1, by omega, by go_num, HM3.out, HA4.out⟩
      case measure => simp [intOf]; omega
    · obtain rfl : k = m := by omega
      have he : ∀ u i, i ≠ a → (wr.setCell ⟨a, 2, none⟩ u).heap[i]? = wr.heap[i]? := fun u i hi => Below.heap_setCell _ _ _ i (fun q => hi q)
      obtain ⟨n1, n2, n3, n4, n5⟩ := H.out.ab
      obtain ⟨d0, d1, d2, g0, g1, g2⟩ := blk3 s1
      have hap : Apart [a, bk] w wr := hap.more (fun x hx => by rw [List.mem_singleton.1 hx]; simp)
      have S1 := Lib.hid s1; have S3 := Lib.hid s3; have HMAP := Lib.hid hmap; have HAP := Lib.hid hap; have N := Lib.hid (⟨n1, n2⟩ : a ≠ bn ∧ a ≠ bk); have HE := Lib.hid he
      clear s1 s2 s3 hmap hap n1 n2 n3 n4 n5 he c0 c1 c2' f0 f1 f2
      go_wp2
      go_end0
      exact ⟨rfl, set_third S1.out _, S3.out.keep (HE.out _ bn (fun q => N.out.1 q.symm)), HMAP.out.keep (HE.out _ bk (fun q => N.out.2 q.symm)), HAP.out.setCell (p := ⟨a, 2, none⟩) (.inl List.mem_cons_self) _⟩
theorem fosettle_any {w : World} {a bn bk : Nat} {v : Value} {cs : List Chg} {l : List Ent} (h : Fold w a bn bk v cs l) (m : Nat) (hm : m ≤ cs.length) (hM : ∀ k ≤ cs.length, (allE l (cs.take k)).length ≤ 1000000) (hcs : cs.length ≤ 1000000) :
    Calls Try.prog 30 #[.pointer (some ⟨a, 0, none⟩), .int .i64 m] w (Settled w a bn bk v cs l m) := by
  rcases own_form h.row with ⟨rfl, h0⟩ | ⟨g, cap, rfl, h1, h2⟩
  · have hnil : cs = [] := List.length_eq_zero_iff.1 h0
    subst hnil
    obtain rfl : m = 0 := by simpa using hm
    exact fosettle_nil h
  · exact fosettle_row h rfl h1 h2 m hm hM hcs

/-- The remainder that is no less than 0. -/
theorem tmod_pick (n : Int) (m : Nat) (hm : 0 < m) : (if n.tmod m < 0 then n.tmod m + m else n.tmod m) = (pickN n m : Nat) := by
  obtain ⟨h1, h2⟩ := tmod_bounds n m hm
  have h3 := Int.emod_nonneg n (show (m : Int) ≠ 0 by omega)
  have h4 := Int.emod_lt_of_pos n (show (0 : Int) < m by omega)
  have h5 : n.tmod m = n % m ∨ n.tmod m = n % m - m := by
    rcases Int.lt_or_le n 0 with g | g
    · by_cases hd : n % m = 0
      · left
        rw [hd]
        exact Int.tmod_eq_zero_of_dvd (Int.dvd_of_emod_eq_zero hd)
      · right
        have := Int.tmod_eq_emod (a := n) (b := m)
        have hnd : ¬ (m : Int) ∣ n := fun q => hd (Int.emod_eq_zero_of_dvd q)
        rw [this, if_neg (by rintro (q | q); omega; exact hnd q)]
        simp
    · left
      exact Int.tmod_eq_emod_of_nonneg g
  have hp : ((pickN n m : Nat) : Int) = n % m := by unfold pickN; omega
  rw [hp]
  split <;> omega
set_option maxRecDepth 100000 in
set_option maxHeartbeats 400000 in
theorem fomod_any (n : Int) (h0 : -9223372036854775808 ≤ n) (h1 : n ≤ 9223372036854775807) (m : Nat) (hm : 0 < m) (hm2 : m ≤ 1000001) (w : World) :
    Calls Try.prog 40 #[.int .i64 n, .int .i64 m] w fun e w' => e = .returned (.int .i64 (pickN n m : Nat)) ∧ w = w' := by
  have hp := tmod_pick n m hm
  obtain ⟨b1, b2⟩ := tmod_bounds n m hm
  have hz : ((m : Int) == 0) = false := by simp; omega
  have hz2 : ¬ (m : Int) = 0 := by omega
  obtain ⟨r, hr⟩ : ∃ r, n.tmod m = r := ⟨_, rfl⟩
  rw [hr] at hp b1 b2
  by_cases hlt : r < 0
  · rw [if_pos hlt] at hp
    have y1 : IntKind.i64.wrap (r + m) = r + m := IntWalk.i64_in _ (by omega)
    have HP := Lib.hid hp
    clear hp
    go_enter Try.func40, Try.ntmps40
    go_wp2
    go_ret
    exact ⟨by rw [← HP.out]; rfl, rfl⟩
  · rw [if_neg hlt] at hp
    have HP := Lib.hid hp
    clear hp
    go_enter Try.func40, Try.ntmps40
    go_wp2
    go_ret
    exact ⟨by rw [← HP.out]; rfl, rfl⟩

theorem settled_fold {w w' : World} {a bn bk : Nat} {v : Value} {cs : List Chg} {l : List Ent} {e : Ending} (h : Fold w a bn bk v cs l) (hs : Settled w a bn bk v cs l cs.length e w') :
    Fold w' a bn bk (.slice none 0 0) [] (allE l cs) ∧ Apart (foS a bn bk v) w w' := by
  obtain ⟨_, h1, h2, h3, h4⟩ := hs
  rw [List.take_length] at h3
  exact ⟨⟨h1, h2, h3, World.ownsRow_nil _ _ _ _, h.ne, okE_all cs h.oke h.may, trivial, fun _ => rfl⟩, h4.more (fun x hx => by
    rw [foS_mem]
    rcases List.mem_cons.1 hx with rfl | hx
    · exact .inl rfl
    · exact .inr (.inr (.inl (List.mem_singleton.1 hx))))⟩
set_option maxRecDepth 100000 in
set_option maxHeartbeats 400000 in
theorem fosync_f {w : World} {a bn bk : Nat} {v : Value} {cs : List Chg} {l : List Ent} (h : Fold w a bn bk v cs l) (hM : ∀ k ≤ cs.length, (allE l (cs.take k)).length ≤ 1000000) (hcs : cs.length ≤ 1000000) :
    Calls Try.prog 11 #[.pointer (some ⟨a, 0, none⟩)] w fun e w' => e = .returned (.tuple #[]) ∧ Fold w' a bn bk (.slice none 0 0) [] (allE l cs) ∧ Apart (foS a bn bk v) w w' := by
  have CO := Lib.hid (foown_yes h)
  have CW := Lib.hid (fowait_f h)
  have CS := Lib.hid (fosettle_any h cs.length (Nat.le_refl _) hM hcs)
  have H := Lib.hid h
  clear h hM
  obtain ⟨n, hn⟩ : ∃ n, cs.length = n := ⟨_, rfl⟩
  rw [hn] at CW CS hcs
  have HN := Lib.hid hn
  clear hn
  go_enter Try.func11, Try.ntmps11
  go_wp2_with (first
    | (go_at_call 29; refine CO.out.mono ?_; rintro e w' ⟨rfl, rfl⟩)
    | (go_at_call 19; refine CW.out.mono ?_; rintro e w' ⟨rfl, rfl⟩)
    | (go_at_call 30; refine CS.out.mono ?_; intro e w2 hs; obtain ⟨rfl, hr⟩ : e = .returned (.tuple #[]) ∧ Settled w a bn bk v cs l n e w2 := ⟨hs.1, hs⟩; have HR := Lib.hid hr; clear hs hr))
  go_end0
  have hs := HR.out
  rw [← HN.out] at hs
  exact ⟨rfl, settled_fold H.out hs⟩
/-- Behind a crash: what is seen is what lasts. -/
theorem crash_fold {w w2 w3 : World} {a bn bk n : Nat} {v : Value} {cs : List Chg} {l : List Ent} {e : Ending} (h : Fold w a bn bk v cs l) (hn : n ≤ cs.length) (hs : Settled w a bn bk v cs l n e w2) (hm : MapE w3 w2.heap.size (allE l (cs.take n))) (hb : Below w2.heap.size w2 w3) :
    Fold (w3.setCell ⟨a, 0, none⟩ (.map (some w2.heap.size))) a w2.heap.size bk (.slice none 0 0) [] (allE l (cs.take n)) ∧ Apart (foS a bn bk v) w (w3.setCell ⟨a, 0, none⟩ (.map (some w2.heap.size))) ∧ w.heap.size ≤ w2.heap.size := by
  obtain ⟨_, h1, h2, h3, h4⟩ := hs
  obtain ⟨n1, n2, n3, n4, n5⟩ := h.ab
  have hla := lt_of_block h1
  have hlk := h3.lt
  have he : ∀ k, k ≠ a → (w3.setCell ⟨a, 0, none⟩ (.map (some w2.heap.size))).heap[k]? = w3.heap[k]? := fun k hk => Below.heap_setCell _ _ _ k (fun q => hk q)
  refine ⟨⟨set_first ((hb.block a hla).trans h1) _, hm.keep (he _ (by omega)), h3.keep ((he bk (fun q => n2 q.symm)).trans (hb.block bk hlk)), World.ownsRow_nil _ _ _ _, by omega, okE_all _ h.oke (mays_take cs h.may n), trivial, fun _ => rfl⟩, ?_, h4.size⟩
  have h5 : Apart (foS a bn bk v) w w2 := h4.more (fun x hx => by
    rw [foS_mem]
    rcases List.mem_cons.1 hx with rfl | hx
    · exact .inl rfl
    · exact .inr (.inr (.inl (List.mem_singleton.1 hx))))
  exact (h5.trans (S' := []) (.of_below hb) (by simp)).setCell (p := ⟨a, 0, none⟩) (.inl ((foS_mem a).2 (.inl rfl))) _
set_option maxRecDepth 100000 in
set_option maxHeartbeats 800000 in
theorem focrash_f {w : World} {a bn bk : Nat} {v : Value} {cs : List Chg} {l : List Ent} (h : Fold w a bn bk v cs l) (hM : ∀ k ≤ cs.length, (allE l (cs.take k)).length ≤ 1000000) (hcs : cs.length ≤ 1000000) (n : Int) (h0 : -9223372036854775808 ≤ n) (h1 : n ≤ 9223372036854775807) :
    Calls Try.prog 18 #[.pointer (some ⟨a, 0, none⟩), .int .i64 n] w fun e w' => e = .returned (.int .i64 (pickN n (cs.length + 1) : Nat)) ∧ ∃ b, w.heap.size ≤ b ∧ Fold w' a b bk (.slice none 0 0) [] (allE l (cs.take (pickN n (cs.length + 1)))) ∧ Apart (foS a bn bk v) w w' := by
  have CO := Lib.hid (foown_yes h)
  have hp := pickN_lt n (cs.length + 1) (by omega)
  have CM := Lib.hid (fomod_any n h0 h1 (cs.length + 1) (by omega) (by omega) w)
  obtain ⟨m, hm⟩ : ∃ m, pickN n (cs.length + 1) = m := ⟨_, rfl⟩
  rw [hm] at hp CM
  rw [hm]
  have CS := Lib.hid (fosettle_any h m (by omega) hM hcs)
  have H := Lib.hid h
  obtain ⟨c0, c1, c2, f0, f1, f2⟩ := blk3 h.blk
  obtain ⟨ad, cp, hv⟩ := own_slice (sz := 3) h.row
  rw [hv] at c2
  have HV := Lib.hid hv
  clear h hM hm hv
  obtain ⟨q, hq⟩ : ∃ q, cs.length = q := ⟨_, rfl⟩
  rw [hq] at CM c2 hp hcs
  have HQ := Lib.hid hq
  clear hq
  have y1 : IntKind.i64.wrap ((q : Int) + 1) = (q : Int) + 1 := IntWalk.i64_in _ (by omega)
  have CM2 : Hid (Calls Try.prog 40 #[.int .i64 n, .int .i64 ((q : Int) + 1)] w fun e w' => e = .returned (.int .i64 m) ∧ w = w') := by
    have := CM.out
    rw [show (((q + 1 : Nat) : Nat) : Int) = (q : Int) + 1 by omega] at this
    exact Lib.hid this
  clear CM hcs
  go_enter Try.func18, Try.ntmps18
  go_wp2_with (first
    | (go_at_call 29; refine CO.out.mono ?_; rintro e w' ⟨rfl, rfl⟩)
    | (go_at_call 40; refine CM2.out.mono ?_; rintro e w' ⟨rfl, rfl⟩)
    | (go_at_call 30; refine CS.out.mono ?_; intro e w2 hs; obtain ⟨rfl, hr⟩ : e = .returned (.tuple #[]) ∧ Settled w a bn bk v cs l m e w2 := ⟨hs.1, hs⟩; obtain ⟨d0, d1, d2, g0, g1, g2⟩ := blk3 hs.2.1; have HR := Lib.hid hr; clear hs hr c0 c1 c2 f0 f1 f2)
    | (go_at_call 25; refine (foclone_any HR.out.2.2.2.1).mono ?_; rintro e w3 ⟨rfl, hm3, hz3, hb3⟩; have p0 := (hb3.cell (p := ⟨a, 0, none⟩) (lt_of_block HR.out.2.1)).trans d0; have p1 := (hb3.frozen (p := ⟨a, 0, none⟩) (lt_of_block HR.out.2.1)).trans g0; have HM3 := Lib.hid hm3; have HB3 := Lib.hid hb3; clear hm3 hz3 hb3 d0 d1 d2 g0 g1 g2))
  go_ret
  obtain ⟨r1, r2, r3⟩ := crash_fold H.out (by have := HQ.out; omega) HR.out HM3.out HB3.out
  exact ⟨rfl, _, r3, r1, r2⟩
end Go.Proofs.Ytpcbfkcpefcnjaa
