/-
  Joined: BlendMath, BlendRef, BlendMix.
-/
import Derived.Test.YtfgecjlccngddaaGreatJPieceRef
import Derived.Test.YtfgecjlccngddaaGreatJZeros
namespace Go.Proofs.YtfgecjlccngddaaGreat
set_option linter.unusedSimpArgs false
set_option linter.unusedVariables false
open Go.RowKit

def chN (c : List UInt8) (u : Nat) : Nat := if c.length ≤ u then 0 else bt c u % 3
def pk (o n c : List UInt8) (k u : Nat) : List UInt8 :=
  if slL o k = slL n k then slL o k else if chN c u = 1 then slL n k else if chN c u = 2 then List.replicate (slL n k).length 0 else slL o k
def mixK (o n c : List UInt8) : Nat → List UInt8 × Nat
  | 0 => ([], 0)
  | k + 1 => (if pk o n c k (mixK o n c k).2 = [] then (mixK o n c k).1 else (mixK o n c k).1 ++ List.replicate (32 * k - (mixK o n c k).1.length) 0 ++ pk o n c k (mixK o n c k).2,
      if slL o k = slL n k then (mixK o n c k).2 else (mixK o n c k).2 + 1)
def mixM (o n : List UInt8) : Nat := max (cntN o.length) (cntN n.length)
def mixL (o n c : List UInt8) : List UInt8 × Nat := mixK o n c (mixM o n)

theorem mixK_used (o n c : List UInt8) (k : Nat) : (mixK o n c k).2 = (unl o n k).length := by
  induction k with
  | zero => rfl
  | succ k ih =>
    show (if slL o k = slL n k then (mixK o n c k).2 else (mixK o n c k).2 + 1) = _
    rw [unl_succ, ih]
    split <;> simp
theorem slL_len (l : List UInt8) (k : Nat) : (slL l k).length = min 32 (l.length - 32 * k) := by unfold slL; rw [List.length_take, List.length_drop]
theorem pk_len (o n c : List UInt8) (k u : Nat) : (pk o n c k u).length ≤ max (slL o k).length (slL n k).length := by
  unfold pk
  split
  · omega
  · split
    · omega
    · split
      · rw [List.length_replicate]; omega
      · omega
theorem mixK_len (o n c : List UInt8) (k : Nat) : (mixK o n c k).1.length ≤ 32 * k := by
  induction k with
  | zero => simp [mixK]
  | succ k ih =>
    have hp := pk_len o n c k (mixK o n c k).2
    have h1 := slL_len o k
    have h2 := slL_len n k
    show (if pk o n c k (mixK o n c k).2 = [] then (mixK o n c k).1 else (mixK o n c k).1 ++ List.replicate (32 * k - (mixK o n c k).1.length) 0 ++ pk o n c k (mixK o n c k).2).length ≤ _
    split
    · omega
    · simp only [List.length_append, List.length_replicate]; omega
theorem mixK_max (o n c : List UInt8) (k : Nat) : (mixK o n c k).1.length ≤ max o.length n.length := by
  induction k with
  | zero => simp [mixK]
  | succ k ih =>
    have hp := pk_len o n c k (mixK o n c k).2
    have h1 := slL_len o k
    have h2 := slL_len n k
    have h3 := mixK_len o n c k
    show (if pk o n c k (mixK o n c k).2 = [] then (mixK o n c k).1 else (mixK o n c k).1 ++ List.replicate (32 * k - (mixK o n c k).1.length) 0 ++ pk o n c k (mixK o n c k).2).length ≤ _
    split
    · omega
    · rename_i hx
      have : (pk o n c k (mixK o n c k).2).length ≠ 0 := fun h => hx (List.eq_nil_of_length_eq_zero h)
      simp only [List.length_append, List.length_replicate]; omega
/-- Where a sector goes on a text's beginning, as if it were the text's own. -/
theorem mix_on (l out x : List UInt8) (k : Nat) (ho : out = l.take (32 * k)) (hx : x = slL l k) : (if x = [] then out else out ++ List.replicate (32 * k - out.length) 0 ++ x) = l.take (32 * (k + 1)) := by
  rw [take_sector, ← ho, ← hx]
  split
  · rename_i h; rw [h, List.append_nil]
  · rename_i h
    have h1 : (slL l k).length ≠ 0 := fun g => h (by rw [hx]; exact List.eq_nil_of_length_eq_zero g)
    rw [slL_len] at h1
    have h2 : out.length = 32 * k := by rw [ho, List.length_take]; omega
    rw [h2, Nat.sub_self, List.replicate_zero, List.append_nil]
theorem mixK_old (o n c : List UInt8) (h : ∀ u, chN c u = 0) (k : Nat) : (mixK o n c k).1 = o.take (32 * k) := by
  induction k with
  | zero => simp [mixK]
  | succ k ih =>
    refine mix_on o _ _ k ih ?_
    unfold pk
    rw [h]
    split <;> simp
theorem mixK_new (o n c : List UInt8) (m : Nat) (h : ∀ u, u < m → chN c u = 1) (k : Nat) (hk : k ≤ m) : (mixK o n c k).1 = n.take (32 * k) := by
  induction k with
  | zero => simp [mixK]
  | succ k ih =>
    refine mix_on n _ _ k (ih (by omega)) ?_
    unfold pk
    have hu : (mixK o n c k).2 < m := by
      have := unl_len o n k
      rw [mixK_used]; omega
    rw [h _ hu]
    split
    · rename_i g; rw [g]
    · simp
theorem mixK_same (n c : List UInt8) (k : Nat) : mixK n n c k = (n.take (32 * k), 0) := by
  induction k with
  | zero => simp [mixK]
  | succ k ih =>
    refine Prod.ext ?_ ?_
    · refine mix_on n _ _ k (by rw [ih]) ?_
      unfold pk
      rw [if_pos rfl]
    · show (if slL n k = slL n k then (mixK n n c k).2 else _) = 0
      rw [if_pos rfl, ih]
theorem take_sectors (l : List UInt8) (m : Nat) (h : cntN l.length ≤ m) : l.take (32 * m) = l := List.take_of_length_le (by unfold cntN at h; omega)
theorem mixL_used (o n c : List UInt8) : (mixL o n c).2 = (unlL o n).length := mixK_used _ _ _ _
theorem mixL_old (o n c : List UInt8) (h : ∀ u, chN c u = 0) : (mixL o n c).1 = o := by unfold mixL; rw [mixK_old _ _ _ h, take_sectors]; unfold mixM; omega
theorem mixL_new (o n c : List UInt8) (h : ∀ u, u < mixM o n → chN c u = 1) : (mixL o n c).1 = n := by unfold mixL; rw [mixK_new _ _ _ _ h _ (Nat.le_refl _), take_sectors]; unfold mixM; omega
theorem mixL_same (n c : List UInt8) : mixL n n c = (n, 0) := by unfold mixL; rw [mixK_same, take_sectors]; unfold mixM; omega
theorem mixL_max (o n c : List UInt8) : (mixL o n c).1.length ≤ max o.length n.length := mixK_max _ _ _ _

/-- Each byte is one that lasted, one that was seen, or 0. -/
def okB (o n : List UInt8) (i b : Nat) : Prop := b = 0 ∨ (i < o.length ∧ bt o i = b) ∨ (i < n.length ∧ bt n i = b)
theorem bt_app_l (a b : List UInt8) (i : Nat) (h : i < a.length) : bt (a ++ b) i = bt a i := by
  unfold bt; rw [List.getD_eq_getElem?_getD, List.getD_eq_getElem?_getD, List.getElem?_append_left h]
theorem bt_app_r (a b : List UInt8) (i : Nat) (h : a.length ≤ i) : bt (a ++ b) i = bt b (i - a.length) := by
  unfold bt; rw [List.getD_eq_getElem?_getD, List.getD_eq_getElem?_getD, List.getElem?_append_right h]
theorem bt_zeros (m i : Nat) : bt (List.replicate m 0) i = 0 := by
  unfold bt; rw [List.getD_eq_getElem?_getD, List.getElem?_replicate]
  split <;> rfl
theorem bt_slL (l : List UInt8) (k i : Nat) (h : i < (slL l k).length) : bt (slL l k) i = bt l (32 * k + i) := by
  rw [slL_len] at h
  unfold bt slL
  rw [List.getD_eq_getElem?_getD, List.getD_eq_getElem?_getD, List.getElem?_take_of_lt (by omega), List.getElem?_drop]
theorem pk_ok (o n c : List UInt8) (k u i : Nat) (h : i < (pk o n c k u).length) : okB o n (32 * k + i) (bt (pk o n c k u) i) := by
  have hl := slL_len o k
  have hm := slL_len n k
  unfold pk at h ⊢
  split
  · rename_i g
    rw [if_pos g] at h
    exact .inr (.inl ⟨by omega, (bt_slL _ _ _ h).symm⟩)
  · rename_i g
    rw [if_neg g] at h
    split
    · rename_i g1
      rw [if_pos g1] at h
      exact .inr (.inr ⟨by omega, (bt_slL _ _ _ h).symm⟩)
    · rename_i g1
      rw [if_neg g1] at h
      split
      · exact .inl (bt_zeros _ _)
      · rename_i g2
        rw [if_neg g2] at h
        exact .inr (.inl ⟨by omega, (bt_slL _ _ _ h).symm⟩)
theorem mixK_ok (o n c : List UInt8) (k i : Nat) (h : i < (mixK o n c k).1.length) : okB o n i (bt (mixK o n c k).1 i) := by
  induction k with
  | zero => simp [mixK] at h
  | succ k ih =>
    have hlen := mixK_len o n c k
    have hpk := pk_ok o n c k (mixK o n c k).2
    have e : (mixK o n c (k + 1)).1 = if pk o n c k (mixK o n c k).2 = [] then (mixK o n c k).1 else (mixK o n c k).1 ++ List.replicate (32 * k - (mixK o n c k).1.length) 0 ++ pk o n c k (mixK o n c k).2 := rfl
    rw [e] at h ⊢
    split
    · rename_i g
      rw [if_pos g] at h
      exact ih h
    · rename_i g
      rw [if_neg g] at h
      obtain ⟨out, hout⟩ : ∃ out, (mixK o n c k).1 = out := ⟨_, rfl⟩
      obtain ⟨x, hx⟩ : ∃ x, pk o n c k (mixK o n c k).2 = x := ⟨_, rfl⟩
      rw [hx] at h hpk ⊢
      rw [hout] at h hlen ih ⊢
      simp only [List.length_append, List.length_replicate] at h
      by_cases h1 : i < out.length
      · rw [bt_app_l _ _ _ (by simp; omega), bt_app_l _ _ _ h1]; exact ih h1
      · by_cases h2 : i < 32 * k
        · rw [bt_app_l _ _ _ (by simp; omega), bt_app_r _ _ _ (by omega), bt_zeros]; exact .inl rfl
        · rw [bt_app_r _ _ _ (by simp; omega)]
          simp only [List.length_append, List.length_replicate]
          have := hpk (i - 32 * k) (by omega)
          rw [show 32 * k + (i - 32 * k) = i by omega] at this
          rw [show i - (out.length + (32 * k - out.length)) = i - 32 * k by omega]
          exact this
theorem mixL_ok (o n c : List UInt8) (i : Nat) (h : i < (mixL o n c).1.length) : okB o n i (bt (mixL o n c).1 i) := mixK_ok _ _ _ _ _ h
end Go.Proofs.YtfgecjlccngddaaGreat
namespace Go.Proofs.YtfgecjlccngddaaGreat
set_option linter.unusedSimpArgs false
set_option linter.unusedVariables false
open Go.RowKit

set_option maxRecDepth 100000 in
set_option maxHeartbeats 400000 in
theorem rchoice_any (c : ByteArray) (u : Nat) (w : World) :
    Calls Tryz.prog 175 #[.string c, .int .i64 u] w fun e w' => e = .returned (.int .i64 (chN c.data.toList u)) ∧ w = w' := by
  have hlen : c.data.toList.length = c.size := by simp
  by_cases h : c.size ≤ u
  · have e : chN c.data.toList u = 0 := if_pos (by omega)
    rw [e]
    clear e hlen
    go_enter Tryz.func175, Tryz.ntmps175
    go_wp2
    go_ret
    exact ⟨rfl, rfl⟩
  · have hu : u < c.size := by omega
    have e : chN c.data.toList u = (c[u]'hu).toNat % 3 := by unfold chN; rw [if_neg (by omega), bt_get c u hu]
    rw [e]
    have hb := (c[u]'hu).toNat_lt
    clear e hlen h
    go_enter Tryz.func175, Tryz.ntmps175
    go_wp2
    go_ret
    exact ⟨by simp, rfl⟩

/-- What is left behind so many sectors, as a text. -/
def mixS (o n c : ByteArray) (k : Nat) : ByteArray := ⟨(mixK o.data.toList n.data.toList c.data.toList k).1.toArray⟩
def mixU (o n c : ByteArray) (k : Nat) : Nat := (mixK o.data.toList n.data.toList c.data.toList k).2
theorem mixS_list (o n c : ByteArray) (k : Nat) : (mixS o n c k).data.toList = (mixK o.data.toList n.data.toList c.data.toList k).1 := rfl
theorem mixS_size (o n c : ByteArray) (k : Nat) : (mixS o n c k).size ≤ 32 * k := by
  have := mixK_len o.data.toList n.data.toList c.data.toList k
  rw [← mixS_list] at this
  simpa using this
theorem mixU_le (o n c : ByteArray) (k : Nat) : mixU o n c k ≤ k := by unfold mixU; rw [mixK_used]; exact unl_len _ _ _
theorem mixU_same (o n c : ByteArray) (k : Nat) (h : slS o k = slS n k) : mixU o n c (k + 1) = mixU o n c k := if_pos ((slS_eq o n k).1 h)
theorem mixU_more (o n c : ByteArray) (k : Nat) (h : ¬ slS o k = slS n k) : mixU o n c (k + 1) = mixU o n c k + 1 := if_neg (fun g => h ((slS_eq o n k).2 g))
theorem mixS_step (o n c x : ByteArray) (k : Nat) (hx : x.data.toList = pk o.data.toList n.data.toList c.data.toList k (mixU o n c k)) :
    (x.size = 0 → mixS o n c (k + 1) = mixS o n c k) ∧ (¬ x.size = 0 → mixS o n c (k + 1) = mixS o n c k ++ zeroS (32 * k - (mixS o n c k).size) ++ x) := by
  have hl : x.data.toList.length = x.size := by simp
  have hl2 : (mixS o n c k).data.toList.length = (mixS o n c k).size := by simp
  have e : (mixS o n c (k + 1)).data.toList = if x.data.toList = [] then (mixS o n c k).data.toList else (mixS o n c k).data.toList ++ List.replicate (32 * k - (mixS o n c k).data.toList.length) 0 ++ x.data.toList := by
    rw [hx]; rfl
  rw [hl2] at e
  constructor
  · intro h
    refine str_ext ?_
    rw [e, if_pos (List.eq_nil_of_length_eq_zero (by omega))]
  · intro h
    refine str_ext ?_
    rw [e, if_neg (fun g => h (by rw [← hl, g]; rfl)), app_list, app_list, zeroS_list]
theorem pk_0 (o n c : ByteArray) (k : Nat) (h : slS o k = slS n k) : (slS o k).data.toList = pk o.data.toList n.data.toList c.data.toList k (mixU o n c k) := by
  unfold pk; rw [if_pos ((slS_eq o n k).1 h), slS_list]
theorem pk_1 (o n c : ByteArray) (k : Nat) (h : ¬ slS o k = slS n k) (hc : chN c.data.toList (mixU o n c k) = 1) : (slS n k).data.toList = pk o.data.toList n.data.toList c.data.toList k (mixU o n c k) := by
  unfold pk; rw [if_neg (fun g => h ((slS_eq o n k).2 g)), if_pos hc, slS_list]
theorem pk_2 (o n c : ByteArray) (k : Nat) (h : ¬ slS o k = slS n k) (hc : chN c.data.toList (mixU o n c k) = 2) : (zeroS (slS n k).size).data.toList = pk o.data.toList n.data.toList c.data.toList k (mixU o n c k) := by
  unfold pk; rw [if_neg (fun g => h ((slS_eq o n k).2 g)), if_neg (by omega), if_pos hc, zeroS_list, ← slS_list]; simp
theorem pk_3 (o n c : ByteArray) (k : Nat) (h : ¬ slS o k = slS n k) (h1 : ¬ chN c.data.toList (mixU o n c k) = 1) (h2 : ¬ chN c.data.toList (mixU o n c k) = 2) : (slS o k).data.toList = pk o.data.toList n.data.toList c.data.toList k (mixU o n c k) := by
  unfold pk; rw [if_neg (fun g => h ((slS_eq o n k).2 g)), if_neg h1, if_neg h2, slS_list]
end Go.Proofs.YtfgecjlccngddaaGreat
namespace Go.Proofs.YtfgecjlccngddaaGreat
set_option linter.unusedSimpArgs false
set_option linter.unusedVariables false
open Go.RowKit

def RetMix (w : World) (s : ByteArray) (u : Nat) (e : Ending) (w' : World) : Prop := e = .returned (.tuple #[.string s, .int .i64 u]) ∧ Below w.heap.size w w'
def mixOf (o n c : ByteArray) : ByteArray := mixS o n c (mixM o.data.toList n.data.toList)
def mixUs (o n c : ByteArray) : Nat := mixU o n c (mixM o.data.toList n.data.toList)

set_option maxRecDepth 100000 in
set_option maxHeartbeats 3200000 in
theorem rmix_any (o n c : ByteArray) (ho : o.size ≤ 4294967296) (hn : n.size ≤ 4294967296) (w : World) :
    Calls Tryz.prog 151 #[.string o, .string n, .string c] w (RetMix w (mixOf o n c) (mixUs o n c)) := by
  have hla : o.data.toList.length = o.size := by simp
  have hlb : n.data.toList.length = n.size := by simp
  unfold mixOf mixUs
  obtain ⟨m, hm⟩ : ∃ m, mixM o.data.toList n.data.toList = m := ⟨_, rfl⟩
  rw [hm]
  unfold mixM at hm
  rw [hla, hlb] at hm
  have c1 := rcount_any o.size (by omega) (by omega)
  have c2 := rcount_any n.size (by omega) (by omega)
  rw [cntI_nat] at c1 c2
  have hm1 : cntN o.size ≤ m := by omega
  have hm2 : cntN n.size ≤ m := by omega
  have hm3 : m = cntN o.size ∨ m = cntN n.size := by omega
  have hm4 : m ≤ 134217728 := by unfold cntN at hm; omega
  obtain ⟨cx, hx⟩ : ∃ x, cntN o.size = x := ⟨_, rfl⟩
  obtain ⟨cy, hy⟩ : ∃ x, cntN n.size = x := ⟨_, rfl⟩
  rw [hx] at c1 hm1 hm3
  rw [hy] at c2 hm2 hm3
  have C1 := Lib.hid c1; have C2 := Lib.hid c2; have HM := Lib.hid hm3
  clear c1 c2 hx hy hm hla hlb hm3
  go_enter Tryz.func151, Tryz.ntmps151
  go_wp2
  go_loopw [8, 9, 10] (fun v s i wr => ∃ k : Nat, k ≤ m ∧ i = .int .i64 k ∧ v = .int .i64 (mixU o n c k : Nat) ∧ s = .string (mixS o n c k) ∧ Below w.heap.size w wr) (fun _ _ i _ => m - (intOf i).toNat)
  case atStart => exact ⟨0, Nat.zero_le _, rfl, rfl, rfl, Below.refl _ _⟩
  case round =>
    obtain ⟨k, hk, rfl, rfl, rfl, hbel⟩ := hrel
    have HB := Lib.hid hbel; clear hbel
    have hsz := mixS_size o n c k
    have hul := mixU_le o n c k
    have s1 := rslice_any o ho k
    have s2 := rslice_any n hn k
    have ch := rchoice_any c (mixU o n c k)
    have z1 := slS_size o k
    have z2 := slS_size n k
    have q0 := pk_0 o n c k
    have q1 := pk_1 o n c k
    have q2 := pk_2 o n c k
    have q3 := pk_3 o n c k
    have u0 := mixU_same o n c k
    have u1 := mixU_more o n c k
    have st := fun x => mixS_step o n c x k
    obtain ⟨p, hp⟩ : ∃ p, slS o k = p := ⟨_, rfl⟩
    obtain ⟨q, hq⟩ : ∃ p, slS n k = p := ⟨_, rfl⟩
    obtain ⟨u, hu⟩ : ∃ u, mixU o n c k = u := ⟨_, rfl⟩
    obtain ⟨y, hy⟩ : ∃ y, mixS o n c k = y := ⟨_, rfl⟩
    obtain ⟨d, hd⟩ : ∃ d, chN c.data.toList u = d := ⟨_, rfl⟩
    rw [hp] at s1 z1
    rw [hq] at s2 z2
    rw [hp, hq] at q0 q1 q2 q3 u0 u1
    rw [hu] at q0 q1 q2 q3 u0 u1 ch hul st ⊢
    rw [hd] at q1 q2 q3 ch
    rw [hy] at hsz st ⊢
    have hp32 : p.size ≤ 32 := by omega
    have hq32 : q.size ≤ 32 := by omega
    have S1 := Lib.hid s1; have S2 := Lib.hid s2; have CH := Lib.hid ch; have HUU := Lib.hid hu; have HYY := Lib.hid hy
    clear s1 s2 ch z1 z2 hp hq hu hy hd
    by_cases hlt : k < m
    · have mk : ∀ W : World, (Instr.makeSlice 183 (.int .i64 (32 * (k : Int) - (y.size : Int))) (.int .i64 (32 * (k : Int) - (y.size : Int)))).run Tryz.prog W = .ok (.slice (some ⟨W.heap.size, 0, none⟩) (32 * k - y.size) (32 * k - y.size)) (W.alloc (.cells (zs (32 * k - y.size)) 5)) :=
        fun W => make_zeros _ _ (by omega) (by omega) W
      have mq : ∀ W : World, (Instr.makeSlice 183 (.int .i64 (q.size : Int)) (.int .i64 (q.size : Int))).run Tryz.prog W = .ok (.slice (some ⟨W.heap.size, 0, none⟩) q.size q.size) (W.alloc (.cells (zs q.size) 5)) :=
        fun W => make_zeros _ _ rfl (by omega) W
      have cz := fun m W => conv_zeros m W
      have hz1 : (zeroS (32 * k - y.size)).size = 32 * k - y.size := zeroS_size _
      have hz2 : (zeroS q.size).size = q.size := zeroS_size _
      obtain ⟨z, hz⟩ : ∃ z, zeroS (32 * k - y.size) = z := ⟨_, rfl⟩
      obtain ⟨zq, hzq⟩ : ∃ z, zeroS q.size = z := ⟨_, rfl⟩
      have cz1 := fun W => cz (32 * k - y.size) W
      have cz2 := fun W => cz q.size W
      rw [hz] at cz1 hz1
      rw [hzq] at cz2 hz2 q2
      have hz3 : z.size ≤ 4294967296 := by omega
      have hz4 : zq.size ≤ 32 := by omega
      clear cz
      rcases Nat.lt_or_ge cx cy with hxy | hxy
      · have htest : k < cy := by have := HM.out; omega
        clear hm1 hm2
        by_cases hpq : p = q
        · have hpk := q0 hpq
          have hu2 := u0 hpq
          clear q0 q1 q2 q3 u0 u1
          subst hpq
          have nz := isEmpty_size p
          by_cases h0 : p.size = 0
          · have e1 := (st _ hpk).1 h0
            have ne : p.toList.isEmpty = true := by rw [nz]; simp [h0]
            have HE := Lib.hid e1; have HU := Lib.hid hu2; clear e1 hu2 hpk st nz h0 hz
            go_wp2_with (first | (go_at_call 155; (with_reducible refine (C1.out _).mono ?_); rintro e w' ⟨rfl, rfl⟩) | (go_at_call 155; (with_reducible refine (C2.out _).mono ?_); rintro e w' ⟨rfl, rfl⟩) | (go_at_call 174; (with_reducible refine (S1.out _).mono ?_); rintro e w' ⟨rfl, rfl⟩) | (go_at_call 174; (with_reducible refine (S2.out _).mono ?_); rintro e w' ⟨rfl, rfl⟩) | (go_at_call 175; (with_reducible refine (CH.out _).mono ?_); rintro e w' ⟨rfl, rfl⟩))
            go_roundw
            case rel => exact ⟨k + 1, by omega, by go_num, by rw [HU.out], by rw [HE.out], HB.out⟩
            case measure => simp [intOf]; omega
          · have e1 := (st _ hpk).2 h0
            rw [hz] at e1
            have ne : p.toList.isEmpty = false := by rw [nz]; simp [h0]
            have HE := Lib.hid e1; have HU := Lib.hid hu2; clear e1 hu2 hpk st nz h0 hz
            go_wp2_with (first | (go_at_call 155; (with_reducible refine (C1.out _).mono ?_); rintro e w' ⟨rfl, rfl⟩) | (go_at_call 155; (with_reducible refine (C2.out _).mono ?_); rintro e w' ⟨rfl, rfl⟩) | (go_at_call 174; (with_reducible refine (S1.out _).mono ?_); rintro e w' ⟨rfl, rfl⟩) | (go_at_call 174; (with_reducible refine (S2.out _).mono ?_); rintro e w' ⟨rfl, rfl⟩) | (go_at_call 175; (with_reducible refine (CH.out _).mono ?_); rintro e w' ⟨rfl, rfl⟩))
            go_roundw
            case rel => exact ⟨k + 1, by omega, by go_num, by rw [HU.out], by rw [HE.out], HB.out.alloc HB.out.size _⟩
            case measure => simp [intOf]; omega
        · have hne := str_ne hpq
          have hne2 : (p.toList != q.toList) = true := by rw [bne, hne]; rfl
          have hu2 := u1 hpq
          by_cases d1 : d = 1
          · have hpk := q1 hpq d1
            clear q0 q1 q2 q3 u0 u1 hpq
            subst d1
            have nz := isEmpty_size q
            by_cases h0 : q.size = 0
            · have e1 := (st _ hpk).1 h0
              have ne : q.toList.isEmpty = true := by rw [nz]; simp [h0]
              have HE := Lib.hid e1; have HU := Lib.hid hu2; clear e1 hu2 hpk st nz h0 hz
              go_wp2_with (first | (go_at_call 155; (with_reducible refine (C1.out _).mono ?_); rintro e w' ⟨rfl, rfl⟩) | (go_at_call 155; (with_reducible refine (C2.out _).mono ?_); rintro e w' ⟨rfl, rfl⟩) | (go_at_call 174; (with_reducible refine (S1.out _).mono ?_); rintro e w' ⟨rfl, rfl⟩) | (go_at_call 174; (with_reducible refine (S2.out _).mono ?_); rintro e w' ⟨rfl, rfl⟩) | (go_at_call 175; (with_reducible refine (CH.out _).mono ?_); rintro e w' ⟨rfl, rfl⟩))
              go_roundw
              case rel => exact ⟨k + 1, by omega, by go_num, by rw [HU.out]; go_num, by rw [HE.out], HB.out⟩
              case measure => simp [intOf]; omega
            · have e1 := (st _ hpk).2 h0
              rw [hz] at e1
              have ne : q.toList.isEmpty = false := by rw [nz]; simp [h0]
              have HE := Lib.hid e1; have HU := Lib.hid hu2; clear e1 hu2 hpk st nz h0 hz
              go_wp2_with (first | (go_at_call 155; (with_reducible refine (C1.out _).mono ?_); rintro e w' ⟨rfl, rfl⟩) | (go_at_call 155; (with_reducible refine (C2.out _).mono ?_); rintro e w' ⟨rfl, rfl⟩) | (go_at_call 174; (with_reducible refine (S1.out _).mono ?_); rintro e w' ⟨rfl, rfl⟩) | (go_at_call 174; (with_reducible refine (S2.out _).mono ?_); rintro e w' ⟨rfl, rfl⟩) | (go_at_call 175; (with_reducible refine (CH.out _).mono ?_); rintro e w' ⟨rfl, rfl⟩))
              go_roundw
              case rel => exact ⟨k + 1, by omega, by go_num, by rw [HU.out]; go_num, by rw [HE.out], HB.out.alloc HB.out.size _⟩
              case measure => simp [intOf]; omega
          by_cases d2 : d = 2
          · have hpk := q2 hpq d2
            clear q0 q1 q2 q3 u0 u1 hpq d1
            subst d2
            have cz3 := cz1 (wr.alloc (.cells (zs q.size) 5))
            rw [World.size_alloc] at cz3
            have nz := isEmpty_size zq
            by_cases h0 : zq.size = 0
            · have e1 := (st _ hpk).1 h0
              have ne : zq.toList.isEmpty = true := by rw [nz]; simp [h0]
              have HE := Lib.hid e1; have HU := Lib.hid hu2; clear e1 hu2 hpk st nz h0 hz
              go_wp2_with (first | (go_at_call 155; (with_reducible refine (C1.out _).mono ?_); rintro e w' ⟨rfl, rfl⟩) | (go_at_call 155; (with_reducible refine (C2.out _).mono ?_); rintro e w' ⟨rfl, rfl⟩) | (go_at_call 174; (with_reducible refine (S1.out _).mono ?_); rintro e w' ⟨rfl, rfl⟩) | (go_at_call 174; (with_reducible refine (S2.out _).mono ?_); rintro e w' ⟨rfl, rfl⟩) | (go_at_call 175; (with_reducible refine (CH.out _).mono ?_); rintro e w' ⟨rfl, rfl⟩))
              go_roundw
              case rel => exact ⟨k + 1, by omega, by go_num, by rw [HU.out]; go_num, by rw [HE.out], HB.out.alloc HB.out.size _⟩
              case measure => simp [intOf]; omega
            · have e1 := (st _ hpk).2 h0
              rw [hz] at e1
              have ne : zq.toList.isEmpty = false := by rw [nz]; simp [h0]
              have HE := Lib.hid e1; have HU := Lib.hid hu2; clear e1 hu2 hpk st nz h0 hz
              go_wp2_with (first | (go_at_call 155; (with_reducible refine (C1.out _).mono ?_); rintro e w' ⟨rfl, rfl⟩) | (go_at_call 155; (with_reducible refine (C2.out _).mono ?_); rintro e w' ⟨rfl, rfl⟩) | (go_at_call 174; (with_reducible refine (S1.out _).mono ?_); rintro e w' ⟨rfl, rfl⟩) | (go_at_call 174; (with_reducible refine (S2.out _).mono ?_); rintro e w' ⟨rfl, rfl⟩) | (go_at_call 175; (with_reducible refine (CH.out _).mono ?_); rintro e w' ⟨rfl, rfl⟩))
              go_roundw
              case rel => exact ⟨k + 1, by omega, by go_num, by rw [HU.out]; go_num, by rw [HE.out], (HB.out.alloc HB.out.size _).alloc (by have := HB.out.size; simp; omega) _⟩
              case measure => simp [intOf]; omega
          · have hpk := q3 hpq d1 d2
            have t1 : ((d : Int) == 1) = false := beq_eq_false_iff_ne.2 (by omega)
            have t2 : ((d : Int) == 2) = false := beq_eq_false_iff_ne.2 (by omega)
            clear q0 q1 q2 q3 u0 u1 hpq d1 d2
            have nz := isEmpty_size p
            by_cases h0 : p.size = 0
            · have e1 := (st _ hpk).1 h0
              have ne : p.toList.isEmpty = true := by rw [nz]; simp [h0]
              have HE := Lib.hid e1; have HU := Lib.hid hu2; clear e1 hu2 hpk st nz h0 hz
              go_wp2_with (first | (go_at_call 155; (with_reducible refine (C1.out _).mono ?_); rintro e w' ⟨rfl, rfl⟩) | (go_at_call 155; (with_reducible refine (C2.out _).mono ?_); rintro e w' ⟨rfl, rfl⟩) | (go_at_call 174; (with_reducible refine (S1.out _).mono ?_); rintro e w' ⟨rfl, rfl⟩) | (go_at_call 174; (with_reducible refine (S2.out _).mono ?_); rintro e w' ⟨rfl, rfl⟩) | (go_at_call 175; (with_reducible refine (CH.out _).mono ?_); rintro e w' ⟨rfl, rfl⟩))
              go_roundw
              case rel => exact ⟨k + 1, by omega, by go_num, by rw [HU.out]; go_num, by rw [HE.out], HB.out⟩
              case measure => simp [intOf]; omega
            · have e1 := (st _ hpk).2 h0
              rw [hz] at e1
              have ne : p.toList.isEmpty = false := by rw [nz]; simp [h0]
              have HE := Lib.hid e1; have HU := Lib.hid hu2; clear e1 hu2 hpk st nz h0 hz
              go_wp2_with (first | (go_at_call 155; (with_reducible refine (C1.out _).mono ?_); rintro e w' ⟨rfl, rfl⟩) | (go_at_call 155; (with_reducible refine (C2.out _).mono ?_); rintro e w' ⟨rfl, rfl⟩) | (go_at_call 174; (with_reducible refine (S1.out _).mono ?_); rintro e w' ⟨rfl, rfl⟩) | (go_at_call 174; (with_reducible refine (S2.out _).mono ?_); rintro e w' ⟨rfl, rfl⟩) | (go_at_call 175; (with_reducible refine (CH.out _).mono ?_); rintro e w' ⟨rfl, rfl⟩))
              go_roundw
              case rel => exact ⟨k + 1, by omega, by go_num, by rw [HU.out]; go_num, by rw [HE.out], HB.out.alloc HB.out.size _⟩
              case measure => simp [intOf]; omega
      · have htest : k < cx := by have := HM.out; omega
        clear hm1 hm2
        by_cases hpq : p = q
        · have hpk := q0 hpq
          have hu2 := u0 hpq
          clear q0 q1 q2 q3 u0 u1
          subst hpq
          have nz := isEmpty_size p
          by_cases h0 : p.size = 0
          · have e1 := (st _ hpk).1 h0
            have ne : p.toList.isEmpty = true := by rw [nz]; simp [h0]
            have HE := Lib.hid e1; have HU := Lib.hid hu2; clear e1 hu2 hpk st nz h0 hz
            go_wp2_with (first | (go_at_call 155; (with_reducible refine (C1.out _).mono ?_); rintro e w' ⟨rfl, rfl⟩) | (go_at_call 155; (with_reducible refine (C2.out _).mono ?_); rintro e w' ⟨rfl, rfl⟩) | (go_at_call 174; (with_reducible refine (S1.out _).mono ?_); rintro e w' ⟨rfl, rfl⟩) | (go_at_call 174; (with_reducible refine (S2.out _).mono ?_); rintro e w' ⟨rfl, rfl⟩) | (go_at_call 175; (with_reducible refine (CH.out _).mono ?_); rintro e w' ⟨rfl, rfl⟩))
            go_roundw
            case rel => exact ⟨k + 1, by omega, by go_num, by rw [HU.out], by rw [HE.out], HB.out⟩
            case measure => simp [intOf]; omega
          · have e1 := (st _ hpk).2 h0
            rw [hz] at e1
            have ne : p.toList.isEmpty = false := by rw [nz]; simp [h0]
            have HE := Lib.hid e1; have HU := Lib.hid hu2; clear e1 hu2 hpk st nz h0 hz
            go_wp2_with (first | (go_at_call 155; (with_reducible refine (C1.out _).mono ?_); rintro e w' ⟨rfl, rfl⟩) | (go_at_call 155; (with_reducible refine (C2.out _).mono ?_); rintro e w' ⟨rfl, rfl⟩) | (go_at_call 174; (with_reducible refine (S1.out _).mono ?_); rintro e w' ⟨rfl, rfl⟩) | (go_at_call 174; (with_reducible refine (S2.out _).mono ?_); rintro e w' ⟨rfl, rfl⟩) | (go_at_call 175; (with_reducible refine (CH.out _).mono ?_); rintro e w' ⟨rfl, rfl⟩))
            go_roundw
            case rel => exact ⟨k + 1, by omega, by go_num, by rw [HU.out], by rw [HE.out], HB.out.alloc HB.out.size _⟩
            case measure => simp [intOf]; omega
        · have hne := str_ne hpq
          have hne2 : (p.toList != q.toList) = true := by rw [bne, hne]; rfl
          have hu2 := u1 hpq
          by_cases d1 : d = 1
          · have hpk := q1 hpq d1
            clear q0 q1 q2 q3 u0 u1 hpq
            subst d1
            have nz := isEmpty_size q
            by_cases h0 : q.size = 0
            · have e1 := (st _ hpk).1 h0
              have ne : q.toList.isEmpty = true := by rw [nz]; simp [h0]
              have HE := Lib.hid e1; have HU := Lib.hid hu2; clear e1 hu2 hpk st nz h0 hz
              go_wp2_with (first | (go_at_call 155; (with_reducible refine (C1.out _).mono ?_); rintro e w' ⟨rfl, rfl⟩) | (go_at_call 155; (with_reducible refine (C2.out _).mono ?_); rintro e w' ⟨rfl, rfl⟩) | (go_at_call 174; (with_reducible refine (S1.out _).mono ?_); rintro e w' ⟨rfl, rfl⟩) | (go_at_call 174; (with_reducible refine (S2.out _).mono ?_); rintro e w' ⟨rfl, rfl⟩) | (go_at_call 175; (with_reducible refine (CH.out _).mono ?_); rintro e w' ⟨rfl, rfl⟩))
              go_roundw
              case rel => exact ⟨k + 1, by omega, by go_num, by rw [HU.out]; go_num, by rw [HE.out], HB.out⟩
              case measure => simp [intOf]; omega
            · have e1 := (st _ hpk).2 h0
              rw [hz] at e1
              have ne : q.toList.isEmpty = false := by rw [nz]; simp [h0]
              have HE := Lib.hid e1; have HU := Lib.hid hu2; clear e1 hu2 hpk st nz h0 hz
              go_wp2_with (first | (go_at_call 155; (with_reducible refine (C1.out _).mono ?_); rintro e w' ⟨rfl, rfl⟩) | (go_at_call 155; (with_reducible refine (C2.out _).mono ?_); rintro e w' ⟨rfl, rfl⟩) | (go_at_call 174; (with_reducible refine (S1.out _).mono ?_); rintro e w' ⟨rfl, rfl⟩) | (go_at_call 174; (with_reducible refine (S2.out _).mono ?_); rintro e w' ⟨rfl, rfl⟩) | (go_at_call 175; (with_reducible refine (CH.out _).mono ?_); rintro e w' ⟨rfl, rfl⟩))
              go_roundw
              case rel => exact ⟨k + 1, by omega, by go_num, by rw [HU.out]; go_num, by rw [HE.out], HB.out.alloc HB.out.size _⟩
              case measure => simp [intOf]; omega
          by_cases d2 : d = 2
          · have hpk := q2 hpq d2
            clear q0 q1 q2 q3 u0 u1 hpq d1
            subst d2
            have cz3 := cz1 (wr.alloc (.cells (zs q.size) 5))
            rw [World.size_alloc] at cz3
            have nz := isEmpty_size zq
            by_cases h0 : zq.size = 0
            · have e1 := (st _ hpk).1 h0
              have ne : zq.toList.isEmpty = true := by rw [nz]; simp [h0]
              have HE := Lib.hid e1; have HU := Lib.hid hu2; clear e1 hu2 hpk st nz h0 hz
              go_wp2_with (first | (go_at_call 155; (with_reducible refine (C1.out _).mono ?_); rintro e w' ⟨rfl, rfl⟩) | (go_at_call 155; (with_reducible refine (C2.out _).mono ?_); rintro e w' ⟨rfl, rfl⟩) | (go_at_call 174; (with_reducible refine (S1.out _).mono ?_); rintro e w' ⟨rfl, rfl⟩) | (go_at_call 174; (with_reducible refine (S2.out _).mono ?_); rintro e w' ⟨rfl, rfl⟩) | (go_at_call 175; (with_reducible refine (CH.out _).mono ?_); rintro e w' ⟨rfl, rfl⟩))
              go_roundw
              case rel => exact ⟨k + 1, by omega, by go_num, by rw [HU.out]; go_num, by rw [HE.out], HB.out.alloc HB.out.size _⟩
              case measure => simp [intOf]; omega
            · have e1 := (st _ hpk).2 h0
              rw [hz] at e1
              have ne : zq.toList.isEmpty = false := by rw [nz]; simp [h0]
              have HE := Lib.hid e1; have HU := Lib.hid hu2; clear e1 hu2 hpk st nz h0 hz
              go_wp2_with (first | (go_at_call 155; (with_reducible refine (C1.out _).mono ?_); rintro e w' ⟨rfl, rfl⟩) | (go_at_call 155; (with_reducible refine (C2.out _).mono ?_); rintro e w' ⟨rfl, rfl⟩) | (go_at_call 174; (with_reducible refine (S1.out _).mono ?_); rintro e w' ⟨rfl, rfl⟩) | (go_at_call 174; (with_reducible refine (S2.out _).mono ?_); rintro e w' ⟨rfl, rfl⟩) | (go_at_call 175; (with_reducible refine (CH.out _).mono ?_); rintro e w' ⟨rfl, rfl⟩))
              go_roundw
              case rel => exact ⟨k + 1, by omega, by go_num, by rw [HU.out]; go_num, by rw [HE.out], (HB.out.alloc HB.out.size _).alloc (by have := HB.out.size; simp; omega) _⟩
              case measure => simp [intOf]; omega
          · have hpk := q3 hpq d1 d2
            have t1 : ((d : Int) == 1) = false := beq_eq_false_iff_ne.2 (by omega)
            have t2 : ((d : Int) == 2) = false := beq_eq_false_iff_ne.2 (by omega)
            clear q0 q1 q2 q3 u0 u1 hpq d1 d2
            have nz := isEmpty_size p
            by_cases h0 : p.size = 0
            · have e1 := (st _ hpk).1 h0
              have ne : p.toList.isEmpty = true := by rw [nz]; simp [h0]
              have HE := Lib.hid e1; have HU := Lib.hid hu2; clear e1 hu2 hpk st nz h0 hz
              go_wp2_with (first | (go_at_call 155; (with_reducible refine (C1.out _).mono ?_); rintro e w' ⟨rfl, rfl⟩) | (go_at_call 155; (with_reducible refine (C2.out _).mono ?_); rintro e w' ⟨rfl, rfl⟩) | (go_at_call 174; (with_reducible refine (S1.out _).mono ?_); rintro e w' ⟨rfl, rfl⟩) | (go_at_call 174; (with_reducible refine (S2.out _).mono ?_); rintro e w' ⟨rfl, rfl⟩) | (go_at_call 175; (with_reducible refine (CH.out _).mono ?_); rintro e w' ⟨rfl, rfl⟩))
              go_roundw
              case rel => exact ⟨k + 1, by omega, by go_num, by rw [HU.out]; go_num, by rw [HE.out], HB.out⟩
              case measure => simp [intOf]; omega
            · have e1 := (st _ hpk).2 h0
              rw [hz] at e1
              have ne : p.toList.isEmpty = false := by rw [nz]; simp [h0]
              have HE := Lib.hid e1; have HU := Lib.hid hu2; clear e1 hu2 hpk st nz h0 hz
              go_wp2_with (first | (go_at_call 155; (with_reducible refine (C1.out _).mono ?_); rintro e w' ⟨rfl, rfl⟩) | (go_at_call 155; (with_reducible refine (C2.out _).mono ?_); rintro e w' ⟨rfl, rfl⟩) | (go_at_call 174; (with_reducible refine (S1.out _).mono ?_); rintro e w' ⟨rfl, rfl⟩) | (go_at_call 174; (with_reducible refine (S2.out _).mono ?_); rintro e w' ⟨rfl, rfl⟩) | (go_at_call 175; (with_reducible refine (CH.out _).mono ?_); rintro e w' ⟨rfl, rfl⟩))
              go_roundw
              case rel => exact ⟨k + 1, by omega, by go_num, by rw [HU.out]; go_num, by rw [HE.out], HB.out.alloc HB.out.size _⟩
              case measure => simp [intOf]; omega
    · obtain rfl : k = m := by omega
      clear q0 q1 q2 q3 u0 u1 st
      rcases Nat.lt_or_ge cx cy with hxy | hxy
      · have htest : cy ≤ k := by omega
        go_wp2_with (first | (go_at_call 155; (with_reducible refine (C1.out _).mono ?_); rintro e w' ⟨rfl, rfl⟩) | (go_at_call 155; (with_reducible refine (C2.out _).mono ?_); rintro e w' ⟨rfl, rfl⟩) | (go_at_call 174; (with_reducible refine (S1.out _).mono ?_); rintro e w' ⟨rfl, rfl⟩) | (go_at_call 174; (with_reducible refine (S2.out _).mono ?_); rintro e w' ⟨rfl, rfl⟩) | (go_at_call 175; (with_reducible refine (CH.out _).mono ?_); rintro e w' ⟨rfl, rfl⟩))
        go_ret2
        exact ⟨by rw [HUU.out, HYY.out]; rfl, HB.out⟩
      · have htest : cx ≤ k := by omega
        go_wp2_with (first | (go_at_call 155; (with_reducible refine (C1.out _).mono ?_); rintro e w' ⟨rfl, rfl⟩) | (go_at_call 155; (with_reducible refine (C2.out _).mono ?_); rintro e w' ⟨rfl, rfl⟩) | (go_at_call 174; (with_reducible refine (S1.out _).mono ?_); rintro e w' ⟨rfl, rfl⟩) | (go_at_call 174; (with_reducible refine (S2.out _).mono ?_); rintro e w' ⟨rfl, rfl⟩) | (go_at_call 175; (with_reducible refine (CH.out _).mono ?_); rintro e w' ⟨rfl, rfl⟩))
        go_ret2
        exact ⟨by rw [HUU.out, HYY.out]; rfl, HB.out⟩
end Go.Proofs.YtfgecjlccngddaaGreat
