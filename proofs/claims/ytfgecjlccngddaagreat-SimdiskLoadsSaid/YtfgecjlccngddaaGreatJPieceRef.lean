/-
  Joined: PieceMath, PieceRef.
-/
import Derived.Test.YtfgecjlccngddaaGreatJBase
import Derived.Laws.OwnMore
import Derived.Deep.AppendLies
import Derived.Deep.Draws
namespace Go.Proofs.YtfgecjlccngddaaGreat
set_option linter.unusedSimpArgs false
set_option linter.unusedVariables false
open Go.RowKit

/-! ### How many sectors -/
def cntI (n : Int) : Int := if n < 1 then 0 else (n - 1) / 32 + 1
def cntN (n : Nat) : Nat := (n + 31) / 32
theorem cntI_nat (n : Nat) : cntI n = cntN n := by unfold cntI cntN; split <;> omega
theorem cntI_le (n : Int) (h : n ≤ 9223372036854775807) : 0 ≤ cntI n ∧ cntI n ≤ 288230376151711744 := by unfold cntI; split <;> omega

/-! ### Spans -/
def spN (p m : Nat) : Nat := if m = 0 then 0 else (p + m - 1) / 32 - p / 32 + 1
def spk (p m k : Nat) : Nat × Nat := (max p ((p / 32 + k) * 32), min (p + m) ((p / 32 + k) * 32 + 32))
def spL (p m : Nat) : List (Nat × Nat) := (List.range (spN p m)).map (spk p m)
theorem spL_len (p m : Nat) : (spL p m).length = spN p m := by simp [spL]
theorem spL_zero (p : Nat) : spL p 0 = [] := by simp [spL, spN]
theorem spN_new (p m : Nat) (h : m = 0 ∨ (p + m) % 32 = 0) : spN p (m + 1) = spN p m + 1 := by
  unfold spN; split <;> split <;> omega
theorem spN_same (p m : Nat) (h : m ≠ 0) (h2 : (p + m) % 32 ≠ 0) : spN p (m + 1) = spN p m := by
  unfold spN; rw [if_neg (by omega), if_neg h]; omega
theorem spN_pos (p m : Nat) (h : m ≠ 0) : 1 ≤ spN p m := by unfold spN; split <;> omega
theorem spN_le (p m : Nat) : spN p m ≤ m := by unfold spN; split <;> omega
theorem spk_old (p m k : Nat) (h : k + 1 < spN p (m + 1)) : spk p (m + 1) k = spk p m k := by
  unfold spN at h
  unfold spk
  split at h
  · omega
  · congr 1; omega
theorem spk_last (p m : Nat) : spk p (m + 1) (spN p (m + 1) - 1) = (max p ((p + m) / 32 * 32), p + m + 1) := by
  unfold spN spk
  rw [if_neg (by omega)]
  congr 1 <;> omega
theorem spL_new (p m : Nat) (h : m = 0 ∨ (p + m) % 32 = 0) : spL p (m + 1) = spL p m ++ [(p + m, p + m + 1)] := by
  have hn := spN_new p m h
  have hl := spk_last p m
  unfold spL
  rw [hn, List.range_succ, List.map_append, List.map_singleton]
  rw [hn, Nat.add_sub_cancel] at hl
  rw [hl]
  congr 1
  · refine List.map_congr_left fun k hk => spk_old p m k ?_
    rw [List.mem_range] at hk; omega
  · congr 2; omega
theorem spL_same (p m : Nat) (h : m ≠ 0) (h2 : (p + m) % 32 ≠ 0) :
    spL p m = (List.range (spN p m - 1)).map (spk p m) ++ [(max p ((p + m) / 32 * 32), p + m)] ∧ spL p (m + 1) = (List.range (spN p m - 1)).map (spk p m) ++ [(max p ((p + m) / 32 * 32), p + m + 1)] := by
  have hn := spN_same p m h h2
  have hp := spN_pos p m h
  have hl := spk_last p m
  rw [hn] at hl
  have e : spN p m = (spN p m - 1) + 1 := by omega
  constructor
  · unfold spL
    obtain ⟨q, hq⟩ : ∃ q, spN p m - 1 = q := ⟨_, rfl⟩
    rw [hq] at e
    rw [e, List.range_succ, List.map_append, List.map_singleton, Nat.add_sub_cancel]
    congr 2
    have hl2 := spk_last p (m - 1)
    rw [show m - 1 + 1 = m by omega, hq] at hl2
    rw [hl2]
    congr 1 <;> omega
  · unfold spL
    rw [hn]
    obtain ⟨q, hq⟩ : ∃ q, spN p m - 1 = q := ⟨_, rfl⟩
    rw [hq] at e hl
    rw [e, List.range_succ, List.map_append, List.map_singleton, Nat.add_sub_cancel, hl]
    congr 1
    refine List.map_congr_left fun k hk => spk_old p m k ?_
    rw [List.mem_range] at hk; rw [hn]; omega

/-- Cut, as the document has it. -/
def cutL (p n : Int) : List (Nat × Nat) := if p < 0 ∨ n < 1 ∨ 131072 < p ∨ 131072 < n then [] else spL p.toNat n.toNat
theorem cutL_no (p n : Int) (h : p < 0 ∨ n < 1 ∨ 131072 < p ∨ 131072 < n) : cutL p n = [] := if_pos h
theorem cutL_yes (p n : Nat) (h1 : 1 ≤ n) (h2 : p ≤ 131072) (h3 : n ≤ 131072) : cutL p n = spL p n := by unfold cutL; rw [if_neg (by omega)]; rfl
/-- Its cells. -/
def prV (l : List (Nat × Nat)) : List Value := l.flatMap fun x => [.int .i64 (x.1 : Nat), .int .i64 (x.2 : Nat)]
theorem prV_len (l : List (Nat × Nat)) : (prV l).length = l.length * 2 := by
  unfold prV
  induction l with
  | nil => rfl
  | cons a l ih => simp only [List.flatMap_cons, List.length_append, List.length_cons, List.length_nil, ih]; omega
theorem prV_app (a b : List (Nat × Nat)) : prV (a ++ b) = prV a ++ prV b := by simp [prV]
theorem prV_set (l : List (Nat × Nat)) (x y z : Nat) : (prV (l ++ [(x, y)])).set (l.length * 2 + 1) (.int .i64 (z : Nat)) = prV (l ++ [(x, z)]) := by
  rw [prV_app, prV_app, List.set_append_right _ _ (by rw [prV_len]; omega), prV_len, show l.length * 2 + 1 - l.length * 2 = 1 by omega]
  rfl
theorem prV_get (l : List (Nat × Nat)) (k : Nat) (h : k < l.length) : (prV l)[k * 2]? = some (.int .i64 ((l[k]'h).1 : Nat)) ∧ (prV l)[k * 2 + 1]? = some (.int .i64 ((l[k]'h).2 : Nat)) := by
  induction l generalizing k with
  | nil => simp at h
  | cons a l ih =>
    cases k with
    | zero => constructor <;> rfl
    | succ k =>
      have := ih k (by simpa using h)
      rw [show (k + 1) * 2 = k * 2 + 1 + 1 by omega]
      simpa [prV] using this

/-! ### Slices -/
def slS (s : ByteArray) (k : Int) : ByteArray := if k < 0 ∨ (s.size / 32 : Nat) < k then ByteArray.empty else s.extract (32 * k.toNat) (min (32 * k.toNat + 32) s.size)
def slL (l : List UInt8) (k : Nat) : List UInt8 := (l.drop (32 * k)).take 32
theorem slS_list (s : ByteArray) (k : Nat) : (slS s k).data.toList = slL s.data.toList k := by
  have hlen : s.data.toList.length = s.size := by simp
  unfold slS slL
  split
  · rename_i h
    rw [List.drop_eq_nil_of_le (by omega)]; rfl
  · rw [extract_list, Int.toNat_natCast]
    by_cases h : 32 * k + 32 ≤ s.size
    · rw [Nat.min_eq_left h, show 32 * k + 32 - 32 * k = 32 by omega]
    · rw [Nat.min_eq_right (by omega), List.take_of_length_le (by rw [List.length_drop]; omega), List.take_of_length_le (by rw [List.length_drop]; omega)]
theorem slS_size (s : ByteArray) (k : Nat) : (slS s k).size = min 32 (s.size - 32 * k) := by
  have h := congrArg List.length (slS_list s k)
  unfold slL at h
  rw [List.length_take, List.length_drop] at h
  simpa using h
theorem slS_eq (a b : ByteArray) (k : Nat) : slS a k = slS b k ↔ slL a.data.toList k = slL b.data.toList k :=
  ⟨fun h => by rw [← slS_list, ← slS_list, h], fun h => str_ext (by rw [slS_list, slS_list, h])⟩

/-- The sectors that are unlike. -/
def unl (a b : List UInt8) (n : Nat) : List Nat := (List.range n).filter fun k => decide (slL a k ≠ slL b k)
theorem unl_succ (a b : List UInt8) (n : Nat) : unl a b (n + 1) = if slL a n = slL b n then unl a b n else unl a b n ++ [n] := by
  unfold unl
  rw [List.range_succ, List.filter_append]
  by_cases h : slL a n = slL b n <;> simp [h]
theorem unl_same (a b : ByteArray) (n : Nat) (h : slS a n = slS b n) : unl a.data.toList b.data.toList (n + 1) = unl a.data.toList b.data.toList n := by
  rw [unl_succ, if_pos ((slS_eq a b n).1 h)]
theorem unl_more (a b : ByteArray) (n : Nat) (h : ¬ slS a n = slS b n) : unl a.data.toList b.data.toList (n + 1) = unl a.data.toList b.data.toList n ++ [n] := by
  rw [unl_succ, if_neg (fun g => h ((slS_eq a b n).2 g))]
theorem unl_len (a b : List UInt8) (n : Nat) : (unl a b n).length ≤ n := by
  have := List.length_filter_le (fun k => decide (slL a k ≠ slL b k)) (List.range n)
  simpa [unl] using this
def unlL (a b : List UInt8) : List Nat := unl a b (max (cntN a.length) (cntN b.length))
theorem slL_ext (a b : List UInt8) (n : Nat) (ha : a.length ≤ 32 * n) (hb : b.length ≤ 32 * n) (h : ∀ k, k < n → slL a k = slL b k) : a = b := by
  have key : ∀ m, m ≤ n → a.take (32 * m) = b.take (32 * m) := by
    intro m
    induction m with
    | zero => intro _; simp
    | succ m ih =>
      intro hm
      have h1 := h m (by omega)
      unfold slL at h1
      rw [show 32 * (m + 1) = 32 * m + 32 by omega, List.take_add, List.take_add, ih (by omega), h1]
  have := key n (Nat.le_refl _)
  rwa [List.take_of_length_le ha, List.take_of_length_le hb] at this
theorem unlL_nil (a b : List UInt8) : unlL a b = [] ↔ a = b := by
  constructor
  · intro h
    refine slL_ext a b (max (cntN a.length) (cntN b.length)) ?_ ?_ fun k hk => ?_
    · unfold cntN; omega
    · unfold cntN; omega
    · unfold unlL unl at h
      rw [List.filter_eq_nil_iff] at h
      have := h k (List.mem_range.2 hk)
      simpa using this
  · rintro rfl
    unfold unlL unl
    rw [List.filter_eq_nil_iff]
    intro k _
    simp
/-- The first so many sectors, one behind the other. -/
theorem take_sector (l : List UInt8) (k : Nat) : l.take (32 * (k + 1)) = l.take (32 * k) ++ slL l k := by
  unfold slL
  rw [show 32 * (k + 1) = 32 * k + 32 by omega, List.take_add]
end Go.Proofs.YtfgecjlccngddaaGreat
namespace Go.Proofs.YtfgecjlccngddaaGreat
set_option linter.unusedSimpArgs false
set_option linter.unusedVariables false
open Go.RowKit

set_option maxRecDepth 100000 in
set_option maxHeartbeats 400000 in
theorem rcount_any (n : Int) (h0 : -9223372036854775808 ≤ n) (h1 : n ≤ 9223372036854775807) (w : World) :
    Calls Tryz.prog 155 #[.int .i64 n] w fun e w' => e = .returned (.int .i64 (cntI n)) ∧ w = w' := by
  by_cases h : n < 1
  · have e : cntI n = 0 := if_pos h
    rw [e]; clear e
    go_enter Tryz.func155, Tryz.ntmps155
    go_wp2
    go_ret
    exact ⟨rfl, rfl⟩
  · have e : cntI n = (n - 1) / 32 + 1 := if_neg h
    have HE := Lib.hid e; clear e
    have h2 : 1 ≤ n := by omega
    clear h
    go_enter Tryz.func155, Tryz.ntmps155
    go_wp2
    go_ret
    exact ⟨by rw [HE.out]; rfl, rfl⟩

set_option maxRecDepth 100000 in
set_option maxHeartbeats 400000 in
theorem rslice_any (s : ByteArray) (hs : s.size ≤ 4294967296) (k : Int) (w : World) :
    Calls Tryz.prog 174 #[.string s, .int .i64 k] w fun e w' => e = .returned (.string (slS s k)) ∧ w = w' := by
  by_cases h : k < 0
  · have e : slS s k = ByteArray.empty := if_pos (.inl h)
    rw [e]; clear e
    go_enter Tryz.func174, Tryz.ntmps174
    go_wp2
    go_ret
    exact ⟨rfl, rfl⟩
  obtain ⟨j, rfl⟩ := Int.eq_ofNat_of_zero_le (show 0 ≤ k by omega)
  by_cases h2 : s.size / 32 < j
  · have e : slS s j = ByteArray.empty := if_pos (.inr (by omega))
    rw [e]; clear e
    have h3 : (s.size : Int) / 32 < j := by omega
    clear h h2
    go_enter Tryz.func174, Tryz.ntmps174
    go_wp2
    go_ret
    exact ⟨rfl, rfl⟩
  have e : slS s j = s.extract (32 * j) (min (32 * j + 32) s.size) := if_neg (by omega)
  by_cases h4 : 32 * j + 32 ≤ s.size
  · rw [Nat.min_eq_left h4] at e
    rw [e]; clear e
    have h3 : (j : Int) ≤ (s.size : Int) / 32 := by omega
    clear h h2
    go_enter Tryz.func174, Tryz.ntmps174
    go_wp2
    go_ret
    refine ⟨ret_str ?_, rfl⟩
    congr 1 <;> omega
  · rw [Nat.min_eq_right (by omega)] at e
    rw [e]; clear e
    have h3 : (j : Int) ≤ (s.size : Int) / 32 := by omega
    have h5 : (s.size : Int) < 32 * j + 32 := by omega
    clear h h2 h4
    go_enter Tryz.func174, Tryz.ntmps174
    go_wp2
    go_ret
    refine ⟨ret_str ?_, rfl⟩
    congr 1 <;> omega

/-- A slice that reads as these numbers; its row lies below B. -/
def Nums (w : World) (B : Nat) (a : Option Addr) (l : List Nat) : Prop :=
  ∀ (k : Nat) (h : k < l.length), ∃ ad, a = some ad ∧ ad.block < B ∧ w.cell? (ad.add k) = some (.int .i64 (l[k] : Nat))
theorem Nums.below {w w' : World} {B : Nat} {a : Option Addr} {l : List Nat} (h : Nums w B a l) (hb : Below B w w') : Nums w' B a l := fun k hl => by
  obtain ⟨ad, e, hlt, h1⟩ := h k hl
  exact ⟨ad, e, hlt, (hb.cell (by rw [show (ad.add k).block = ad.block by unfold Addr.add; split <;> rfl]; exact hlt)).trans h1⟩
theorem nums_own {w : World} {base : Nat} {t : TypeId} {v : Value} {l : List Nat} (h : w.ownsRow base t 1 v l.length (l.map fun x => Value.int .i64 (x : Nat))) : ∃ a c, v = .slice a l.length c ∧ Nums w w.heap.size a l := by
  rcases h.2 with ⟨rfl, h0⟩ | ⟨g, cap, cur, rfl, _, hg, _⟩
  · exact ⟨none, 0, by rw [h0], fun k hk => absurd hk (by omega)⟩
  · refine ⟨_, _, rfl, fun k hk => ⟨_, rfl, ?_, ?_⟩⟩
    · exact (h.lt g rfl).2
    · refine h.cells (g := g) rfl k _ ?_
      rw [List.getElem?_map, List.getElem?_eq_getElem hk]
      rfl
def RetNums (w : World) (l : List Nat) (e : Ending) (w' : World) : Prop := ∃ a c, e = .returned (.slice a l.length c) ∧ Nums w' w'.heap.size a l ∧ Below w.heap.size w w'

/-- One number laid in a block of its own, to be appended. -/
theorem news_int (w : World) (n : Int) (t : TypeId) : ∀ j u, [Value.int .i64 n][j]? = some u → (w.alloc (.cells #[.int .i64 n] t)).cell? ((⟨w.heap.size, 0, none⟩ : Addr).add j) = some u := by
  intro j u hj
  match j, hj with
  | 0, hj => simp at hj; subst hj; simp [Addr.add]
theorem one_int (n : Int) : ∀ u ∈ [Value.int .i64 n], u.oneCell' = true := by intro u hu; simp at hu; subst hu; rfl

theorem int_info : (Tryz.prog.info? 3).map (fun i => (i.zero, i.size, i.bytes)) = some (some (.int .i64 0), 1, 8) := by kernel_rfl

/-- A slice that reads as these pairs; its row lies below B. -/
def Prs (w : World) (B : Nat) (a : Option Addr) (l : List (Nat × Nat)) : Prop :=
  ∀ (k : Nat) (h : k < l.length), ∃ ad, a = some ad ∧ ad.block < B ∧ w.cell? (ad.add (k * 2)) = some (.int .i64 ((l[k]).1 : Nat)) ∧ w.cell? ⟨(ad.add (k * 2)).block, (ad.add (k * 2)).off + 1, none⟩ = some (.int .i64 ((l[k]).2 : Nat))
theorem Prs.below {w w' : World} {B : Nat} {a : Option Addr} {l : List (Nat × Nat)} (h : Prs w B a l) (hb : Below B w w') : Prs w' B a l := fun k hl => by
  obtain ⟨ad, e, hlt, h1, h2⟩ := h k hl
  have hbl : (ad.add (k * 2)).block = ad.block := by unfold Addr.add; split <;> rfl
  exact ⟨ad, e, hlt, (hb.cell (by rw [hbl]; exact hlt)).trans h1, (hb.cell (p := ⟨(ad.add (k * 2)).block, (ad.add (k * 2)).off + 1, none⟩) (by show (ad.add (k * 2)).block < B; rw [hbl]; exact hlt)).trans h2⟩
theorem prs_own {w : World} {base : Nat} {t : TypeId} {v : Value} {l : List (Nat × Nat)} (h : w.ownsRow base t 2 v l.length (prV l)) : ∃ a c, v = .slice a l.length c ∧ Prs w w.heap.size a l := by
  rcases h.2 with ⟨rfl, h0⟩ | ⟨g, cap, cur, rfl, _, hg, _⟩
  · exact ⟨none, 0, by rw [h0], fun k hk => absurd hk (by omega)⟩
  · refine ⟨_, _, rfl, fun k hk => ⟨_, rfl, ?_, ?_, ?_⟩⟩
    · exact (h.lt g rfl).2
    · exact h.cells (g := g) rfl (k * 2) _ (prV_get l k hk).1
    · have := h.cells (g := g) rfl (k * 2 + 1) _ (prV_get l k hk).2
      have e : (⟨((⟨g, 0, none⟩ : Addr).add (k * 2)).block, ((⟨g, 0, none⟩ : Addr).add (k * 2)).off + 1, none⟩ : Addr) = (⟨g, 0, none⟩ : Addr).add (k * 2 + 1) := by
        unfold Addr.add
        by_cases hk0 : k * 2 = 0 <;> simp [hk0]
      rw [e]; exact this
def RetPrs (w : World) (l : List (Nat × Nat)) (e : Ending) (w' : World) : Prop := ∃ a c, e = .returned (.slice a l.length c) ∧ Prs w' w'.heap.size a l ∧ Below w.heap.size w w'

/-- One pair laid in a block of its own, to be appended. -/
theorem news_pair (w : World) (x y : Int) (t : TypeId) : ∀ j u, [Value.int .i64 x, .int .i64 y][j]? = some u → (w.alloc (.cells #[.int .i64 x, .int .i64 y] t)).cell? ((⟨w.heap.size, 0, none⟩ : Addr).add j) = some u := by
  intro j u hj
  match j, hj with
  | 0, hj => simp at hj; subst hj; simp [Addr.add]
  | 1, hj => simp at hj; subst hj; simp [Addr.add, World.cell?_alloc_new]
theorem one_pair (x y : Int) : ∀ u ∈ [Value.int .i64 x, .int .i64 y], u.oneCell' = true := by
  intro u hu
  simp at hu
  rcases hu with rfl | rfl <;> rfl

/-- The last pair's second cell. -/
theorem last_cell {w : World} {base g cap : Nat} {t : TypeId} {L : List (Nat × Nat)} {x y : Nat} (h : w.ownsRow base t 2 (.slice (some ⟨g, 0, none⟩) (L.length + 1) cap) (L.length + 1) (prV (L ++ [(x, y)]))) :
    w.cell? ⟨g, L.length * 2 + 1, none⟩ = some (.int .i64 (y : Nat)) ∧ w.frozen? ⟨g, L.length * 2 + 1, none⟩ = false := by
  have h1 := h.cellAt (L.length * 2 + 1) (by omega)
  have h2 := (prV_get (L ++ [(x, y)]) L.length (by simp)).2
  rw [h2] at h1
  simp at h1
  exact ⟨h1, h.frozenAt _⟩
theorem last_set {w : World} {base g cap : Nat} {t : TypeId} {L : List (Nat × Nat)} {x y z : Nat} (h : w.ownsRow base t 2 (.slice (some ⟨g, 0, none⟩) (L.length + 1) cap) (L.length + 1) (prV (L ++ [(x, y)]))) :
    (w.setCell ⟨g, L.length * 2 + 1, none⟩ (.int .i64 (z : Nat))).ownsRow base t 2 (.slice (some ⟨g, 0, none⟩) (L.length + 1) cap) (L.length + 1) (prV (L ++ [(x, z)])) := by
  have := (h.stored (L.length * 2 + 1) (.int .i64 (z : Nat))).1
  rwa [prV_set] at this
theorem own_pairs {w : World} {base g cap : Nat} {t : TypeId} {L : List (Nat × Nat)} {x : Nat} (h : w.ownsRow base t 2 (.slice (some ⟨g, 0, none⟩) (L.length + 1) cap) (L.length + 1) (prV L ++ [.int .i64 (x : Nat), .int .i64 (x : Nat)])) :
    w.ownsRow base t 2 (.slice (some ⟨g, 0, none⟩) (L.length + 1) cap) (L.length + 1) (prV (L ++ [(x, x)])) := by rw [prV_app]; exact h

end Go.Proofs.YtfgecjlccngddaaGreat
