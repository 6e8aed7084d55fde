/-
  The law's laid: frames laid one behind the other.
-/
import Derived.Test.YtibbglmhcjnedaaDoorScanLaid
namespace Go.Proofs.YtibbglmhcjnedaaDoor
open Go.RowKit
set_option linter.unusedVariables false

/-- A slice that reads as these numbers. -/
def PlS (w : World) (B : Nat → Prop) (a : Option Addr) (l : List Nat) : Prop :=
  ∀ (k : Nat) (h : k < l.length), ∃ ad, a = some ad ∧ B ad.block ∧ w.cell? (ad.add k) = some (.int .i64 (l[k] : Nat))
theorem PlS.below {w w' : World} {B : Nat → Prop} {N : Nat} {a : Option Addr} {l : List Nat} (h : PlS w B a l) (hN : ∀ b, B b → b < N) (hb : Below N w w') : PlS w' B a l := fun k hl => by
  obtain ⟨ad, e, hB, h1⟩ := h k hl
  exact ⟨ad, e, hB, (hb.cell (by rw [show (ad.add k).block = ad.block by unfold Addr.add; split <;> rfl]; exact hN _ hB)).trans h1⟩
theorem own_pls {w : World} {base : Nat} {t : TypeId} {v : Value} {l : List Nat} (h : w.ownsRow base t 1 v l.length (l.map fun x => Value.int .i64 (x : Nat))) : ∃ a c, v = .slice a l.length c ∧ PlS w (fun b => base ≤ b ∧ b < w.heap.size) a l := by
  rcases h.2 with ⟨rfl, h0⟩ | ⟨g, cap, cur, rfl, hgb, hg, _⟩
  · exact ⟨none, 0, by rw [h0], fun k hk => absurd hk (by omega)⟩
  · refine ⟨_, _, rfl, fun k hk => ⟨_, rfl, ⟨hgb, (h.lt g rfl).2⟩, ?_⟩⟩
    exact h.cells (g := g) rfl k _ (by rw [List.getElem?_map, List.getElem?_eq_getElem hk]; rfl)
/-- Where the first so many begin. -/
def plK (l : List Part) (ep sq k : Nat) : List Nat := (List.range k).map fun i => (layK l ep sq i).length
theorem plK_len (l : List Part) (ep sq k : Nat) : (plK l ep sq k).length = k := by simp [plK]
theorem plK_succ (l : List Part) (ep sq k : Nat) : plK l ep sq (k + 1) = plK l ep sq k ++ [(layK l ep sq k).length] := by unfold plK; rw [List.range_succ, List.map_append]; rfl
theorem plK_get (l : List Part) (ep sq k i : Nat) (h : i < (plK l ep sq k).length) : (plK l ep sq k)[i] = (layK l ep sq i).length := by simp [plK]
theorem lint_info : (Tryd.prog.info? 3).map (fun i => (i.zero, i.size, i.bytes)) = some (some (.int .i64 0), 1, 8) := by kernel_rfl
theorem padL_le (a : List UInt8) (f : Bool) : (padL a f).length ≤ 31 := by
  unfold padL
  split
  · rename_i h; have := h.2; simp; omega
  · simp
theorem layK_len (l : List Part) (ep sq : Nat) (hd : ∀ p ∈ l, p.data.size ≤ 100) : ∀ k, (layK l ep sq k).length ≤ 147 * k := by
  intro k
  induction k with
  | zero => simp [layK]
  | succ k ih =>
    show (match l[k]? with | some p => addP (layK l ep sq k) ep (sq + k) p | none => layK l ep sq k).length ≤ _
    split
    · rename_i p hp
      have := hd p (List.mem_of_getElem? hp)
      have h1 : p.data.data.toList.length = p.data.size := by simp
      have h2 := padL_le (layK l ep sq k ++ frmL ep (sq + k) p.data.data.toList) p.fill
      unfold addP
      rw [List.length_append, List.length_append, frmL_length]
      omega
    · omega
theorem lay_list {ep sq : Int} {d : ByteArray} (h : 0 ≤ ep ∧ ep ≤ 999999 ∧ 0 ≤ sq ∧ sq ≤ 2147483647) (hd : d.size ≤ 1024) : layE ep sq d.size = 0 ∧ (layS ep sq d).data.toList = frmL ep.toNat sq.toNat d.data.toList := by
  have hdl : d.data.toList.length = d.size := by simp
  obtain ⟨h1, h2⟩ := layS_ok d.data.toList h (by omega)
  rw [hdl] at h1
  exact ⟨h1, h2⟩
theorem pad_no {a : List UInt8} {f : Bool} (h : f = false ∨ a.length % 32 = 0) : padL a f = [] := by
  unfold padL
  rw [if_neg (fun g => by rcases h with h | h; (rw [h] at g; cases g.1); exact g.2 h)]
theorem pad_yes {a : List UInt8} (h : a.length % 32 ≠ 0) : padL a true = List.replicate (32 - a.length % 32) 255 := by unfold padL; rw [if_pos ⟨rfl, h⟩]

/-- What laid answers. -/
def RetLaid (l : List Part) (ep sq : Nat) (w : World) (e : Ending) (w' : World) : Prop :=
  ∃ (S : ByteArray) (a : Option Addr) (c : Nat), e = .returned (.tuple #[.string S, .slice a l.length c]) ∧ S.data.toList = layK l ep sq l.length ∧ PlS w' (fun b => w.heap.size ≤ b ∧ b < w'.heap.size) a (plK l ep sq l.length) ∧ Below w.heap.size w w'

set_option maxRecDepth 100000 in
set_option maxHeartbeats 1000000 in
theorem laid_any (a : Option Addr) (c : Nat) (l : List Part) (hl : l.length ≤ 12) (hd : ∀ p ∈ l, p.data.size ≤ 100) (ep sq : Nat) (he : ep ≤ 999999) (hq : sq ≤ 1000000) (w : World) (hp : Parts w (· < w.heap.size) a l) :
    Calls Tryd.prog 19 #[.slice a l.length c, .int .i64 ep, .int .i64 sq] w (RetLaid l ep sq w) := by
  obtain ⟨i0, hi, hz0, hz1, hz2⟩ := info_parts lint_info
  have HP := Lib.hid hp; have HD := Lib.hid hd
  clear hp hd
  go_enter Tryd.func19, Tryd.ntmps19
  go_wp2
  go_loopw [8, 9, 10] (fun t8 t9 t10 wr => ∃ (k : Nat) (S : ByteArray), t10 = .int .i64 k ∧ k ≤ l.length ∧ t8 = .string S ∧ Hid (S.data.toList = layK l ep sq k) ∧ wr.ownsRow w.heap.size 3 1 t9 (plK l ep sq k).length ((plK l ep sq k).map fun x => Value.int .i64 (x : Nat)) ∧ Below w.heap.size w wr) (fun _ _ t10 _ => l.length - (intOf t10).toNat)
  case atStart => exact ⟨0, ⟨#[]⟩, rfl, Nat.zero_le _, rfl, rfl, World.ownsRow_nil _ _ _ _, Below.refl _ _⟩
  case round =>
    obtain ⟨k, S, rfl, hk, rfl, HS, hown, hbel⟩ := hrel
    by_cases hlt : k < l.length
    · obtain ⟨ad, rfl, hadb, p0, p1⟩ := HP.out.below (N := w.heap.size) (fun b h => h) hbel k hlt
      have hdk := HD.out l[k] (List.getElem_mem hlt)
      have HL := Lib.hid (layK_succ (l := l) (ep := ep) (sq := sq) hlt)
      have hslen : S.data.toList.length = S.size := by simp
      have hSl := layK_len l ep sq HD.out k
      rw [← HS.out, hslen] at hSl
      have hpl := plK_len l ep sq k
      have hps := plK_succ l ep sq k
      rw [← HS.out, hslen] at hps
      obtain ⟨⟨d, fl⟩, hf⟩ : ∃ f, l[k] = f := ⟨_, rfl⟩
      have HP1 := Lib.hid (show ∀ W, Below w.heap.size w W → W.cell? ⟨(ad.add (k * 2)).block, (ad.add (k * 2)).off + 1, none⟩ = some (.bool fl) from fun W hb => by
        obtain ⟨ad', e', -, -, q⟩ := HP.out.below (N := w.heap.size) (fun b h => h) hb k hlt
        cases e'
        rw [hf] at q
        exact q)
      rw [hf] at p0 p1 hdk HL
      have hdk : d.size ≤ 100 := hdk
      obtain ⟨h0, h1⟩ := lay_list (ep := (ep : Int)) (sq := (sq : Int) + (k : Int)) (d := d) (by omega) (by omega)
      rw [show ((ep : Nat) : Int).toNat = ep by omega, show ((sq : Int) + (k : Int)).toNat = sq + k by omega] at h1
      have c1 := rlay_any (ep : Int) ((sq : Int) + (k : Int)) d (by unfold maxLen; omega)
      rw [h0] at c1
      obtain ⟨F, hF⟩ : ∃ F, layS (ep : Int) ((sq : Int) + (k : Int)) d = F := ⟨_, rfl⟩
      rw [hF] at c1 h1
      have hFs : F.size = 16 + d.size := by
        have := congrArg List.length h1
        rw [frmL_length] at this
        simpa using this
      obtain ⟨S2, hS2⟩ : ∃ S2, S ++ F = S2 := ⟨_, rfl⟩
      have s2l : S2.data.toList = layK l ep sq k ++ frmL ep (sq + k) d.data.toList := by rw [← hS2, app_list, HS.out, h1]
      have s2s : S2.size = S.size + F.size := by rw [← hS2, ByteArray.size_append]
      have s2n : S2.data.toList.length = S2.size := by simp
      have F1 : ¬ (9223372036854775807 < S.size + F.size) := by omega
      have hHL : layK l ep sq (k + 1) = S2.data.toList ++ padL S2.data.toList fl := by rw [HL.out, s2l]; rfl
      have HH := Lib.hid hHL
      have hs2 : S2.size ≤ 10000 := by omega
      have C1 := Lib.hid c1
      clear c1 h0 h1 hF HL hHL s2l hslen hf hadb p1 s2s hFs
      go_wp2_with fail
      refine (C1.out _).mono ?_; rintro e w1 ⟨rfl, hb1⟩
      have hown2 := own_below' hown hb1
      have hbel2 := hbel.trans (hb1.mono hbel.size)
      clear hown hbel hb1 p0
      cases fl with
      | false =>
        have HPAD := Lib.hid (pad_no (a := S2.data.toList) (f := false) (.inl rfl))
        have HS3 := Lib.hid (show S2.data.toList = S2.data.toList ++ [] by simp)
        go_wp2_with (at_builtin; refine wpList_append_own _ rfl _ _ 36 rfl w.heap.size 3 i0 (.int .i64 0) 1 8 Tryd.underlying36 hi hz0 hz1 hz2 rfl (by decide) _ _ _ rfl (hown2.alloc _) ⟨w1.heap.size, 0, none⟩ 1 1 [.int .i64 (S.size : Nat)] rfl rfl (cell_one_new _ _ _) (by simp [Value.oneCell']) (by unfold maxLen; omega) (by omega) (by have := hbel2.size; simp; omega) ?_; intro v' w3 hown' hgrow _; have hb3 : Below w.heap.size w w3 := (hbel2.alloc hbel2.size _).grown hgrow (by have := hbel2.size; simp; omega) (own_block hown2); have p3 := HP1.out w3 hb3)
        have HO3 := Lib.hid hown'
        have HB3 := Lib.hid hb3
        clear hown' hgrow hown2 hbel2 hb3
        go_wp2
        go_roundw
        case rel => exact ⟨k + 1, S2, by go_num, by omega, rfl, by show S2.data.toList = _; rw [HH.out, HPAD.out]; exact HS3.out, by rw [hps, List.map_append, List.length_append]; exact HO3.out, HB3.out⟩
        case measure => simp [intOf]; omega
      | true =>
        by_cases hm : S2.size % 32 = 0
        · have HPAD := Lib.hid (pad_no (a := S2.data.toList) (f := true) (.inr (by rw [s2n]; exact hm)))
          have HS3 := Lib.hid (show S2.data.toList = S2.data.toList ++ [] by simp)
          have r0 : ¬ (0 : Int) < (S2.size : Int) % 32 := by omega
          go_wp2_with (at_builtin; refine wpList_append_own _ rfl _ _ 36 rfl w.heap.size 3 i0 (.int .i64 0) 1 8 Tryd.underlying36 hi hz0 hz1 hz2 rfl (by decide) _ _ _ rfl (hown2.alloc _) ⟨w1.heap.size, 0, none⟩ 1 1 [.int .i64 (S.size : Nat)] rfl rfl (cell_one_new _ _ _) (by simp [Value.oneCell']) (by unfold maxLen; omega) (by omega) (by have := hbel2.size; simp; omega) ?_; intro v' w3 hown' hgrow _; have hb3 : Below w.heap.size w w3 := (hbel2.alloc hbel2.size _).grown hgrow (by have := hbel2.size; simp; omega) (own_block hown2); have p3 := HP1.out w3 hb3)
          have HO3 := Lib.hid hown'
          have HB3 := Lib.hid hb3
          clear hown' hgrow hown2 hbel2 hb3
          go_wp2
          go_roundw
          case rel => exact ⟨k + 1, S2, by go_num, by omega, rfl, by show S2.data.toList = _; rw [HH.out, HPAD.out]; exact HS3.out, by rw [hps, List.map_append, List.length_append]; exact HO3.out, HB3.out⟩
          case measure => simp [intOf]; omega
        · obtain ⟨m, hmm⟩ : ∃ m, 32 - S2.size % 32 = m := ⟨_, rfl⟩
          have HPAD := Lib.hid (show padL S2.data.toList true = List.replicate m 255 by rw [pad_yes (by rw [s2n]; exact hm), s2n, hmm])
          have r0 : (0 : Int) < (S2.size : Int) % 32 := by omega
          have r1 : (32 : Int) - (S2.size : Int) % 32 = (m : Nat) := by omega
          have c2 := rfill_any (m : Int)
          rw [show filN (m : Int) = m by unfold filN; rw [if_neg (by omega), if_neg (by omega)]; rfl] at c2
          obtain ⟨P, hP⟩ : ∃ P, filS m = P := ⟨_, rfl⟩
          have hPs : P.size = m := by rw [← hP, filS_size]
          obtain ⟨S3, hS3⟩ : ∃ S3, S2 ++ P = S3 := ⟨_, rfl⟩
          have HS3 := Lib.hid (show S3.data.toList = S2.data.toList ++ List.replicate m 255 by rw [← hS3, app_list, ← hP, filS_list])
          rw [hP] at c2
          have C2 := Lib.hid c2
          have F2 : ¬ (9223372036854775807 < S2.size + P.size) := by omega
          clear c2 hP hmm hPs
          go_wp2_with (at_builtin; refine wpList_append_own _ rfl _ _ 36 rfl w.heap.size 3 i0 (.int .i64 0) 1 8 Tryd.underlying36 hi hz0 hz1 hz2 rfl (by decide) _ _ _ rfl (hown2.alloc _) ⟨w1.heap.size, 0, none⟩ 1 1 [.int .i64 (S.size : Nat)] rfl rfl (cell_one_new _ _ _) (by simp [Value.oneCell']) (by unfold maxLen; omega) (by omega) (by have := hbel2.size; simp; omega) ?_; intro v' w3 hown' hgrow _; have hb3 : Below w.heap.size w w3 := (hbel2.alloc hbel2.size _).grown hgrow (by have := hbel2.size; simp; omega) (own_block hown2); have p3 := HP1.out w3 hb3)
          have HO3 := Lib.hid hown'
          have HB3 := Lib.hid hb3
          clear hown' hgrow hown2 hbel2 hb3
          go_wp2_with fail
          refine (C2.out _).mono ?_; rintro e w4 ⟨rfl, rfl⟩
          go_wp2
          go_roundw
          case rel => exact ⟨k + 1, S3, by go_num, by omega, rfl, by show S3.data.toList = _; rw [HH.out, HPAD.out]; exact HS3.out, by rw [hps, List.map_append, List.length_append]; exact HO3.out, HB3.out⟩
          case measure => simp [intOf]; omega
    · obtain rfl : k = l.length := by omega
      obtain ⟨a', c', e', hpl⟩ := own_pls hown
      subst e'
      have HPL := Lib.hid hpl; have HB := Lib.hid hbel
      rw [plK_len]
      clear hpl hbel hown
      go_wp2
      go_ret2
      exact ⟨S, a', c', rfl, HS.out, HPL.out, HB.out⟩
end Go.Proofs.YtibbglmhcjnedaaDoor
