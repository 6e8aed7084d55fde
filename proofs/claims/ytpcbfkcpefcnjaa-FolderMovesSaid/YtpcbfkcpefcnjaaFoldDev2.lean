/-
  Contracts of the program's folder (layer 9), second part: what a folder is in memory; what is asked of it; a change is made, and waits.
-/
import Derived.Test.YtpcbfkcpefcnjaaFoldDev1
import Derived.Shelf.SlMaps.Clone
import Derived.StillTailTactics
import Derived.Deep.RegionLaw
import Derived.Deep.AppendLies
import Derived.Carry
namespace Go.Proofs.Ytpcbfkcpefcnjaa
open Go.RowKit
set_option linter.unusedVariables false

def Chg.flat (cs : List Chg) : List Value := cs.flatMap fun c => [.int .i64 c.kind, .string c.name, .string c.dest, .int .i64 c.id]
theorem Chg.flat_len (cs : List Chg) : (Chg.flat cs).length = cs.length * 4 := by
  induction cs with
  | nil => rfl
  | cons c r ih =>
    show (Chg.flat r).length + 4 = (r.length + 1) * 4
    rw [ih]
    omega
theorem Chg.flat_app (a b : List Chg) : Chg.flat (a ++ b) = Chg.flat a ++ Chg.flat b := by simp [Chg.flat]
theorem Chg.flat_get (cs : List Chg) : ∀ (k : Nat) (h : k < cs.length), (Chg.flat cs)[k * 4]? = some (.int .i64 cs[k].kind) ∧ (Chg.flat cs)[k * 4 + 1]? = some (.string cs[k].name) ∧ (Chg.flat cs)[k * 4 + 2]? = some (.string cs[k].dest) ∧ (Chg.flat cs)[k * 4 + 3]? = some (.int .i64 cs[k].id) := by
  induction cs with
  | nil => intro k h; exact absurd h (by simp)
  | cons c r ih =>
    intro k h
    have e : Chg.flat (c :: r) = .int .i64 c.kind :: .string c.name :: .string c.dest :: .int .i64 c.id :: Chg.flat r := rfl
    cases k with
    | zero => rw [e]; exact ⟨rfl, rfl, rfl, rfl⟩
    | succ k =>
      obtain ⟨h0, h1, h2, h3⟩ := ih k (by simpa using h)
      rw [e]
      refine ⟨?_, ?_, ?_, ?_⟩
      · rw [show (k + 1) * 4 = k * 4 + 1 + 1 + 1 + 1 by omega]; exact h0
      · rw [show (k + 1) * 4 + 1 = k * 4 + 1 + 1 + 1 + 1 + 1 by omega]; exact h1
      · rw [show (k + 1) * 4 + 2 = k * 4 + 2 + 1 + 1 + 1 + 1 by omega]; exact h2
      · rw [show (k + 1) * 4 + 3 = k * 4 + 3 + 1 + 1 + 1 + 1 by omega]; exact h3

/-- A folder in memory: its block, the map of what is seen, the map of what lasts, the row of what waits. -/
structure Fold (w : World) (a bn bk : Nat) (v : Value) (cs : List Chg) (l : List Ent) : Prop where
  blk : w.heap[a]? = some (.cells #[.map (some bn), .map (some bk), v] 51 (0, 0))
  now : MapE w bn (allE l cs)
  kept : MapE w bk l
  row : w.ownsRow 0 60 4 v cs.length (Chg.flat cs)
  ne : bn ≠ bk
  oke : okE l
  may : mays l cs
  nil : cs = [] → v = .slice none 0 0
/-- Its blocks. -/
def foS (a bn bk : Nat) (v : Value) : List Nat := [a, bn, bk] ++ v.ownBlock.toList
theorem foS_mem {a bn bk : Nat} {v : Value} (x : Nat) : x ∈ foS a bn bk v ↔ x = a ∨ x = bn ∨ x = bk ∨ v.ownBlock = some x := by
  unfold foS
  cases h : v.ownBlock <;> simp [eq_comm]
theorem own_keep {w w' : World} {base : Nat} {e : TypeId} {size : Nat} {v : Value} {n : Nat} {xs : List Value} (h : w.ownsRow base e size v n xs) (hk : ∀ g, v.ownBlock = some g → w'.heap[g]? = w.heap[g]?) : w'.ownsRow base e size v n xs := by
  refine ⟨h.1, ?_⟩
  rcases h.2 with h | ⟨g, cap, cur, rfl, hb, hg, r⟩
  · exact .inl h
  · exact .inr ⟨g, cap, cur, rfl, hb, (hk g rfl).trans hg, r⟩
theorem own_cells {w : World} {base : Nat} {e : TypeId} {size : Nat} {v : Value} {n : Nat} {xs : List Value} (h : w.ownsRow base e size v n xs) {g : Nat} (hg : v.ownBlock = some g) : ∃ cur, w.heap[g]? = some (.cells cur e (0, 0)) := by
  rcases h.2 with ⟨rfl, _⟩ | ⟨g', cap, cur, rfl, hb, hgg, r⟩
  · cases hg
  · cases hg
    exact ⟨cur, hgg⟩
theorem Fold.ab {w : World} {a bn bk : Nat} {v : Value} {cs : List Chg} {l : List Ent} (h : Fold w a bn bk v cs l) : a ≠ bn ∧ a ≠ bk ∧ v.ownBlock ≠ some a ∧ v.ownBlock ≠ some bn ∧ v.ownBlock ≠ some bk := by
  obtain ⟨e1, c1, h1⟩ := h.now.map
  obtain ⟨e2, c2, h2⟩ := h.kept.map
  have hb := h.blk
  refine ⟨fun g => ?_, fun g => ?_, fun g => ?_, fun g => ?_, fun g => ?_⟩
  · rw [g, h1] at hb; cases hb
  · rw [g, h2] at hb; cases hb
  · obtain ⟨cur, hc⟩ := own_cells h.row g
    rw [hb] at hc
    exact absurd (Obj.cells.inj (Option.some.inj hc)).2.1 (by decide)
  · obtain ⟨cur, hc⟩ := own_cells h.row g
    rw [h1] at hc; cases hc
  · obtain ⟨cur, hc⟩ := own_cells h.row g
    rw [h2] at hc; cases hc
theorem Fold.lt {w : World} {a bn bk : Nat} {v : Value} {cs : List Chg} {l : List Ent} (h : Fold w a bn bk v cs l) : ∀ b ∈ foS a bn bk v, b < w.heap.size := fun b hb => by
  rcases (foS_mem b).1 hb with rfl | rfl | rfl | g
  · exact lt_of_block h.blk
  · exact h.now.lt
  · exact h.kept.lt
  · exact (h.row.lt b g).2
theorem Fold.keep {w w' : World} {a bn bk : Nat} {v : Value} {cs : List Chg} {l : List Ent} (h : Fold w a bn bk v cs l) (hk : ∀ b ∈ foS a bn bk v, w'.heap[b]? = w.heap[b]?) : Fold w' a bn bk v cs l :=
  ⟨(hk a ((foS_mem a).2 (.inl rfl))).trans h.blk, h.now.keep (hk bn ((foS_mem bn).2 (.inr (.inl rfl)))), h.kept.keep (hk bk ((foS_mem bk).2 (.inr (.inr (.inl rfl))))), own_keep h.row (fun g hg => hk g ((foS_mem g).2 (.inr (.inr (.inr hg))))), h.ne, h.oke, h.may, h.nil⟩
theorem Fold.apart {w w' : World} {S : List Nat} {a bn bk : Nat} {v : Value} {cs : List Chg} {l : List Ent} (h : Fold w a bn bk v cs l) (ha : Apart S w w') (hs : ∀ b ∈ foS a bn bk v, b ∉ S) : Fold w' a bn bk v cs l :=
  h.keep fun b hb => ha.block b (h.lt b hb) (hs b hb)
theorem Fold.below {w w' : World} {a bn bk : Nat} {v : Value} {cs : List Chg} {l : List Ent} (h : Fold w a bn bk v cs l) (hb : Below w.heap.size w w') : Fold w' a bn bk v cs l :=
  h.keep fun b hs => hb.block b (h.lt b hs)
theorem blk3 {w : World} {a : Nat} {x y z : Value} {t : TypeId} (h : w.heap[a]? = some (.cells #[x, y, z] t (0, 0))) :
    w.cell? ⟨a, 0, none⟩ = some x ∧ w.cell? ⟨a, 1, none⟩ = some y ∧ w.cell? ⟨a, 2, none⟩ = some z ∧ w.frozen? ⟨a, 0, none⟩ = false ∧ w.frozen? ⟨a, 1, none⟩ = false ∧ w.frozen? ⟨a, 2, none⟩ = false := by
  refine ⟨?_, ?_, ?_, ?_, ?_, ?_⟩ <;> simp [World.cell?, World.frozen?, h]
theorem blk4 {w : World} {a : Nat} {x y z u : Value} {t : TypeId} (h : w.heap[a]? = some (.cells #[x, y, z, u] t (0, 0))) :
    w.cell? ⟨a, 0, none⟩ = some x ∧ w.cell? ⟨a, 1, none⟩ = some y ∧ w.cell? ⟨a, 2, none⟩ = some z ∧ w.cell? ⟨a, 3, none⟩ = some u ∧ w.frozen? ⟨a, 0, none⟩ = false ∧ w.frozen? ⟨a, 1, none⟩ = false ∧ w.frozen? ⟨a, 2, none⟩ = false ∧ w.frozen? ⟨a, 3, none⟩ = false := by
  refine ⟨?_, ?_, ?_, ?_, ?_, ?_, ?_, ?_⟩ <;> simp [World.cell?, World.frozen?, h]
theorem run_neq_map_nil {P : Program} (w : World) (t k e : TypeId) (p : Option Nat) (h : P.underlying t = some (.map k e)) :
    (binOp .neq t (.map p) (.map none)).run P w = .ok (.bool p.isSome) w := by
  simp only [binOp]
  simp [show Op.equal t (.map p) (.map none) = Op.equalIn (9999 + 1) t (.map p) (.map none) from rfl, run_equalIn_map_nil_sl w 9999 t k e p h, Result.andThen]

set_option maxRecDepth 100000 in
set_option maxHeartbeats 400000 in
theorem fomade_yes {w : World} {a bn bk : Nat} {v : Value} {cs : List Chg} {l : List Ent} (h : Fold w a bn bk v cs l) :
    Calls Try.prog 24 #[.pointer (some ⟨a, 0, none⟩)] w fun e w' => e = .returned (.bool true) ∧ w = w' := by
  obtain ⟨c0, c1, c2, f0, f1, f2⟩ := blk3 h.blk
  clear h
  have hq := fun w => run_neq_map_nil (P := Try.prog) w 48 _ _ (some bn) Try.underlying48
  go_enter Try.func24, Try.ntmps24
  go_wp2
  go_ret
  exact ⟨rfl, rfl⟩
set_option maxRecDepth 100000 in
set_option maxHeartbeats 400000 in
theorem foown_yes {w : World} {a bn bk : Nat} {v : Value} {cs : List Chg} {l : List Ent} (h : Fold w a bn bk v cs l) :
    Calls Try.prog 29 #[.pointer (some ⟨a, 0, none⟩)] w fun e w' => e = .returned (.pointer (some ⟨a, 0, none⟩)) ∧ w = w' := by
  go_enter Try.func29, Try.ntmps29
  go_wp2_with (go_at_call 24; refine (fomade_yes h).mono ?_; rintro e w' ⟨rfl, rfl⟩)
  go_ret
  exact ⟨rfl, rfl⟩
set_option maxRecDepth 100000 in
set_option maxHeartbeats 400000 in
theorem fofind_f {w : World} {a bn bk : Nat} {v : Value} {cs : List Chg} {l : List Ent} (h : Fold w a bn bk v cs l) {s : ByteArray} (hs : s.size ≤ maxLen) :
    Calls Try.prog 14 #[.pointer (some ⟨a, 0, none⟩), .string s] w fun e w' => e = .returned (.tuple #[.int .i64 ((findE (allE l cs) s).getD 0), .bool (findE (allE l cs) s).isSome]) ∧ w = w' := by
  obtain ⟨c0, c1, c2, f0, f1, f2⟩ := blk3 h.blk
  have hlook := h.now.look_ok hs
  have H := Lib.hid h
  clear h
  generalize (findE (allE l cs) s).getD 0 = m at *
  generalize (findE (allE l cs) s).isSome = q at *
  go_enter Try.func14, Try.ntmps14
  go_wp2_with (go_at_call 29; refine (foown_yes H.out).mono ?_; rintro e w' ⟨rfl, rfl⟩)
  go_ret2
  exact ⟨rfl, rfl⟩
set_option maxRecDepth 100000 in
set_option maxHeartbeats 400000 in
theorem fohas_f {w : World} {a bn bk : Nat} {v : Value} {cs : List Chg} {l : List Ent} (h : Fold w a bn bk v cs l) {s : ByteArray} (hs : s.size ≤ maxLen) :
    Calls Try.prog 27 #[.pointer (some ⟨a, 0, none⟩), .string s] w fun e w' => e = .returned (.bool (findE (allE l cs) s).isSome) ∧ w = w' := by
  have c := fofind_f h hs
  clear h
  generalize (findE (allE l cs) s).getD 0 = m at *
  generalize (findE (allE l cs) s).isSome = q at *
  have C := Lib.hid c
  clear c
  go_enter Try.func27, Try.ntmps27
  go_wp2_with (go_at_call 14; refine C.out.mono ?_; rintro e w' ⟨rfl, rfl⟩)
  go_ret
  exact ⟨rfl, rfl⟩
set_option maxRecDepth 100000 in
set_option maxHeartbeats 400000 in
theorem fowait_f {w : World} {a bn bk : Nat} {v : Value} {cs : List Chg} {l : List Ent} (h : Fold w a bn bk v cs l) :
    Calls Try.prog 19 #[.pointer (some ⟨a, 0, none⟩)] w fun e w' => e = .returned (.int .i64 cs.length) ∧ w = w' := by
  obtain ⟨c0, c1, c2, f0, f1, f2⟩ := blk3 h.blk
  obtain ⟨ad, cp, rfl⟩ := own_slice (sz := 3) h.row
  have H := Lib.hid h
  clear h
  generalize cs.length = n at *
  go_enter Try.func19, Try.ntmps19
  go_wp2_with (go_at_call 29; refine (foown_yes H.out).mono ?_; rintro e w' ⟨rfl, rfl⟩)
  go_ret
  exact ⟨rfl, rfl⟩
end Go.Proofs.Ytpcbfkcpefcnjaa
