/-
  Contracts of the document's choice and Mix (layer 6).
-/
import Derived.Test.YtcoacbknhlnjmaaBlendMath
import Derived.Test.YtcoacbknhlnjmaaPieceRef
import Derived.Test.YtcoacbknhlnjmaaZeros
namespace Go.Proofs.Ytcoacbknhlnjmaa
open Go.RowKit

set_option maxRecDepth 100000 in
set_option maxHeartbeats 400000 in
theorem rchoice_any (c : ByteArray) (u : Nat) (w : World) :
    Calls Try.prog 42 #[.string c, .int .i64 u] w fun e w' => e = .returned (.int .i64 (chN c.data.toList u)) ∧ w = w' := by
  have hlen : c.data.toList.length = c.size := by simp
  by_cases h : c.size ≤ u
  · have e : chN c.data.toList u = 0 := if_pos (by omega)
    rw [e]
    clear e hlen
    go_enter Try.func42, Try.ntmps42
    go_wp2
    go_ret
    exact ⟨rfl, rfl⟩
  · have hu : u < c.size := by omega
    have e : chN c.data.toList u = (c[u]'hu).toNat % 3 := by unfold chN; rw [if_neg (by omega), bt_get c u hu]
    rw [e]
    have hb := (c[u]'hu).toNat_lt
    clear e hlen h
    go_enter Try.func42, Try.ntmps42
    go_wp2
    go_ret
    exact ⟨by simp, rfl⟩

/-- What is left behind so many sectors, as a text. -/
def mixS (o n c : ByteArray) (k : Nat) : ByteArray := ⟨(mixK o.data.toList n.data.toList c.data.toList k).1.toArray⟩
def mixU (o n c : ByteArray) (k : Nat) : Nat := (mixK o.data.toList n.data.toList c.data.toList k).2
theorem mixS_list (o n c : ByteArray) (k : Nat) : (mixS o n c k).data.toList = (mixK o.data.toList n.data.toList c.data.toList k).1 := rfl
theorem mixS_size (o n c : ByteArray) (k : Nat) : (mixS o n c k).size ≤ 32 * k := by
  have := mixK_len o.data.toList n.data.toList c.data.toList k
  rw [← mixS_list] at this
  simpa using this
theorem mixU_le (o n c : ByteArray) (k : Nat) : mixU o n c k ≤ k := by unfold mixU; rw [mixK_used]; exact unl_len _ _ _
theorem mixU_same (o n c : ByteArray) (k : Nat) (h : slS o k = slS n k) : mixU o n c (k + 1) = mixU o n c k := if_pos ((slS_eq o n k).1 h)
theorem mixU_more (o n c : ByteArray) (k : Nat) (h : ¬ slS o k = slS n k) : mixU o n c (k + 1) = mixU o n c k + 1 := if_neg (fun g => h ((slS_eq o n k).2 g))
theorem mixS_step (o n c x : ByteArray) (k : Nat) (hx : x.data.toList = pk o.data.toList n.data.toList c.data.toList k (mixU o n c k)) :
    (x.size = 0 → mixS o n c (k + 1) = mixS o n c k) ∧ (¬ x.size = 0 → mixS o n c (k + 1) = mixS o n c k ++ zeroS (32 * k - (mixS o n c k).size) ++ x) := by
  have hl : x.data.toList.length = x.size := by simp
  have hl2 : (mixS o n c k).data.toList.length = (mixS o n c k).size := by simp
  have e : (mixS o n c (k + 1)).data.toList = if x.data.toList = [] then (mixS o n c k).data.toList else (mixS o n c k).data.toList ++ List.replicate (32 * k - (mixS o n c k).data.toList.length) 0 ++ x.data.toList := by
    rw [hx]; rfl
  rw [hl2] at e
  constructor
  · intro h
    refine str_ext ?_
    rw [e, if_pos (List.eq_nil_of_length_eq_zero (by omega))]
  · intro h
    refine str_ext ?_
    rw [e, if_neg (fun g => h (by rw [← hl, g]; rfl)), app_list, app_list, zeroS_list]
theorem pk_0 (o n c : ByteArray) (k : Nat) (h : slS o k = slS n k) : (slS o k).data.toList = pk o.data.toList n.data.toList c.data.toList k (mixU o n c k) := by
  unfold pk; rw [if_pos ((slS_eq o n k).1 h), slS_list]
theorem pk_1 (o n c : ByteArray) (k : Nat) (h : ¬ slS o k = slS n k) (hc : chN c.data.toList (mixU o n c k) = 1) : (slS n k).data.toList = pk o.data.toList n.data.toList c.data.toList k (mixU o n c k) := by
  unfold pk; rw [if_neg (fun g => h ((slS_eq o n k).2 g)), if_pos hc, slS_list]
theorem pk_2 (o n c : ByteArray) (k : Nat) (h : ¬ slS o k = slS n k) (hc : chN c.data.toList (mixU o n c k) = 2) : (zeroS (slS n k).size).data.toList = pk o.data.toList n.data.toList c.data.toList k (mixU o n c k) := by
  unfold pk; rw [if_neg (fun g => h ((slS_eq o n k).2 g)), if_neg (by omega), if_pos hc, zeroS_list, ← slS_list]; simp
theorem pk_3 (o n c : ByteArray) (k : Nat) (h : ¬ slS o k = slS n k) (h1 : ¬ chN c.data.toList (mixU o n c k) = 1) (h2 : ¬ chN c.data.toList (mixU o n c k) = 2) : (slS o k).data.toList = pk o.data.toList n.data.toList c.data.toList k (mixU o n c k) := by
  unfold pk; rw [if_neg (fun g => h ((slS_eq o n k).2 g)), if_neg h1, if_neg h2, slS_list]
end Go.Proofs.Ytcoacbknhlnjmaa
