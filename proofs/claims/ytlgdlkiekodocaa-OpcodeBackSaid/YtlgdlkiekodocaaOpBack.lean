/-
  What is laid is read, and what is read is laid as the same bytes, in plain words.
-/
import Derived.Test.YtlgdlkiekodocaaOpRef3
import Derived.Test.YtlgdlkiekodocaaNumMore
namespace Go.Proofs.Ytlgdlkiekodocaa
open Go.RowKit

theorem mk_size14 (l : List UInt8) : (⟨l.toArray⟩ : ByteArray).size = l.length := by show l.toArray.size = _; simp
theorem mk_drop (l : List UInt8) (k : Nat) : (⟨l.toArray⟩ : ByteArray).extract k (⟨l.toArray⟩ : ByteArray).size = ⟨(l.drop k).toArray⟩ := by
  refine str_ext ?_
  rw [extract_list, mk_list, mk_list, mk_size14, List.take_of_length_le (by simp)]
theorem mk_self (s : ByteArray) : (⟨s.data.toList.toArray⟩ : ByteArray) = s := str_ext (mk_list _)
theorem read_mk (c : UInt8) (l : List UInt8) : readR ⟨(c :: l).toArray⟩ = rdKind (c.toNat : Nat) ⟨l.toArray⟩ := by
  unfold readR
  have h : 0 < (⟨(c :: l).toArray⟩ : ByteArray).size := by rw [mk_size14]; simp
  rw [dif_pos h, mk_drop]
  rfl
theorem u64_pl {n : Int} (h : plB n = true) : ((u64 n : Nat) : Int) = n ∧ u64 n % 4294967296 = u64 n := by
  have := plB_in h
  unfold u64; omega
theorem head_mk (a : Int) (h : plB a = true) (l : List UInt8) : headN ⟨(leL (u64 a) 4 ++ l).toArray⟩ = a := by
  unfold headN
  have e := leN_at [] (leL (u64 a) 4) l 4 (leL_length _ _)
  rw [List.nil_append] at e
  rw [mk_list]
  have e2 : leN (leL (u64 a) 4 ++ l) 0 4 = leN (leL (u64 a) 4) 0 4 := e
  rw [e2, leN_leL4, (u64_pl h).2, (u64_pl h).1]
theorem rest_mk (u : Nat) (l : List UInt8) : restN ⟨(leL u 4 ++ l).toArray⟩ = ⟨l.toArray⟩ := by
  unfold restN
  rw [mk_drop, List.drop_left' (leL_length _ _)]
theorem byte_kind {k : Int} (h : 0 ≤ k) (g : k < 256) : ((UInt8.ofNat (k % 256).toNat).toNat : Int) = k := by
  show (((k % 256).toNat % 256 : Nat) : Int) = k
  omega

/-- What is laid is read. -/
theorem op_back {k a n : Int} {s : ByteArray} (h : rightB k a n s.data.toList = true) : readR ⟨(bodyL k a n s.data.toList).toArray⟩ = ⟨k, a, n, s, 0⟩ := by
  have hk := right_kind h
  have hb := byte_kind (k := k) (by omega) (by omega)
  have h0 := h
  rcases opKinds k with rfl | rfl | rfl | rfl | g | g
  · rw [right1] at h
    simp only [Bool.and_eq_true, decide_eq_true_eq] at h
    obtain ⟨⟨hp, rfl⟩, -⟩ := h
    rw [body_low s (by omega) (by omega), read_mk, hb]
    unfold rdKind
    rw [if_neg (by omega), if_pos (by omega), if_neg (by rw [mk_size14]; simp [leL_length]), head_mk a hp, rest_mk, mk_self]
    exact rdEnd_yes h0
  · rw [right2] at h
    simp only [Bool.and_eq_true, decide_eq_true_eq] at h
    obtain ⟨⟨hp, hq⟩, hs⟩ := h
    rw [body_two, read_mk, hb]
    unfold rdKind
    rw [if_neg (by omega), if_neg (by omega), if_pos (by omega), if_neg (by rw [mk_size14]; simp [leL_length]; omega), head_mk a hp, rest_mk, head_mk n hq, rest_mk, mk_self]
    exact rdEnd_yes h0
  · rw [right3] at h
    simp only [Bool.and_eq_true, decide_eq_true_eq] at h
    obtain ⟨⟨hp, rfl⟩, -⟩ := h
    rw [body_low s (by omega) (by omega), read_mk, hb]
    unfold rdKind
    rw [if_neg (by omega), if_pos (by omega), if_neg (by rw [mk_size14]; simp [leL_length]), head_mk a hp, rest_mk, mk_self]
    exact rdEnd_yes h0
  · rw [right4] at h
    simp only [Bool.and_eq_true, decide_eq_true_eq] at h
    obtain ⟨⟨rfl, rfl⟩, -⟩ := h
    rw [body_high s (by omega), read_mk, hb]
    unfold rdKind
    rw [if_neg (by omega), if_neg (by omega), if_neg (by omega), mk_self]
    exact rdEnd_yes h0
  · rw [right5 g.1 g.2] at h
    simp only [Bool.and_eq_true, decide_eq_true_eq] at h
    obtain ⟨⟨rfl, rfl⟩, -⟩ := h
    rw [body_high s (by omega), read_mk, hb]
    unfold rdKind
    rw [if_neg (by omega), if_neg (by omega), if_neg (by omega), mk_self]
    exact rdEnd_yes h0
  · omega

/-- A reading is either none, or right. -/
def RdOk (s : List UInt8) (r : OpRd) : Prop := (r.e = 0 ∧ rightB r.k r.a r.n r.s.data.toList = true ∧ bodyL r.k r.a r.n r.s.data.toList = s) ∨ (r.e ≠ 0 ∧ r = OpRd.none r.e)
theorem rd_bad (s : List UInt8) (e : Int) (h : e ≠ 0) : RdOk s (OpRd.none e) := .inr ⟨h, rfl⟩
theorem rd_last {k a n : Int} {s : ByteArray} {l : List UInt8} (h : bodyL k a n s.data.toList = l) : RdOk l (rdEnd k a n s) := by
  unfold rdEnd
  split
  · exact .inl ⟨rfl, ‹_›, h⟩
  · exact rd_bad _ _ (by decide)
theorem take_head (s : ByteArray) (h : 4 ≤ s.size) : leL (u64 (headN s)) 4 ++ (restN s).data.toList = s.data.toList := by
  have hl := list_size s
  have hx := leN_lt s.data.toList 4 0
  unfold headN restN
  have e : u64 ((leN s.data.toList 0 4 : Nat) : Int) = leN s.data.toList 0 4 := by unfold u64; omega
  rw [e, leL_leN _ _ _ (by omega), extract_list, List.take_of_length_le (l := List.drop 4 s.data.toList) (by simp), List.drop_zero]
  exact List.take_append_drop 4 _
theorem cons_extract (s : ByteArray) (h : 0 < s.size) : s[0] :: (s.extract 1 s.size).data.toList = s.data.toList := by
  rw [extract_list, List.take_of_length_le (by simp)]
  have hl : 0 < s.data.toList.length := by rw [list_size]; exact h
  have := List.drop_eq_getElem_cons hl
  rw [List.drop_zero] at this
  exact this.symm
/-- What is read is laid as the same bytes. -/
theorem op_whole (s : ByteArray) : RdOk s.data.toList (readR s) := by
  unfold readR
  by_cases h0 : 0 < s.size
  · rw [dif_pos h0]
    have hc := cons_extract s h0
    have hk : (UInt8.ofNat ((s[0].toNat : Int) % 256).toNat) = s[0] := by
      refine UInt8.toNat_inj.1 ?_
      have := s[0].toNat_lt
      show (((s[0].toNat : Int) % 256).toNat % 256) = s[0].toNat
      omega
    obtain ⟨T, hT⟩ : ∃ T, s.extract 1 s.size = T := ⟨_, rfl⟩
    rw [hT] at hc ⊢
    obtain ⟨k, hk1⟩ : ∃ k : Int, (s[0].toNat : Int) = k := ⟨_, rfl⟩
    rw [hk1] at hk ⊢
    unfold rdKind
    by_cases g : k < 1 ∨ 8 < k
    · rw [if_pos g]; exact rd_bad _ _ (by decide)
    rw [if_neg g]
    by_cases g13 : k = 1 ∨ k = 3
    · rw [if_pos g13]
      by_cases g4 : T.size < 4
      · rw [if_pos g4]; exact rd_bad _ _ (by decide)
      · rw [if_neg g4]
        refine rd_last ?_
        rw [body_low _ (by omega) (by omega), hk, take_head T (by omega), hc]
    rw [if_neg g13]
    by_cases g2 : k = 2
    · subst g2
      rw [if_pos rfl]
      by_cases g8 : T.size < 8
      · rw [if_pos g8]; exact rd_bad _ _ (by decide)
      · rw [if_neg g8]
        refine rd_last ?_
        rw [body_two, hk, take_head (restN T) (by unfold restN; simp; omega), take_head T (by omega), hc]
    · rw [if_neg g2]
      refine rd_last ?_
      rw [body_high _ (by omega), hk, hc]
  · rw [dif_neg h0]; exact rd_bad _ _ (by decide)
end Go.Proofs.Ytlgdlkiekodocaa
