/-
  Contracts of what a knot knows: knows, Height, Count, First, Last; of nil, and of any block that is a knot's.
-/
import Derived.Test.YtephlcdanokolaaKnotMem
import Derived.Test.YtephlcdanokolaaTallyOf
namespace Go.Proofs.Ytephlcdanokolaa
open Go.RowKit
set_option linter.unusedVariables false
set_option linter.unusedSimpArgs false

/-- The cells of any knot. -/
abbrev kc7 (lv a b c : Int) (f s : ByteArray) (kv : Value) : Array Value := #[.int .i64 lv, .int .i64 a, .int .i64 b, .int .i64 c, .string f, .string s, kv]
/-- What it knows, as a value. -/
abbrev knV (lv a b c : Int) (f s : ByteArray) : Value := .agg #[.int .i64 lv, .int .i64 a, .int .i64 b, .int .i64 c, .string f, .string s]
theorem Blk.seven {w : World} {g : Nat} {lv a b c : Int} {f s : ByteArray} {kv : Value} {t : TypeId} (h : Blk w g (kc7 lv a b c f s kv) t) :
    w.cell? ⟨g, 0, none⟩ = some (.int .i64 lv) ∧ w.cell? ⟨g, 1, none⟩ = some (.int .i64 a) ∧ w.cell? ⟨g, 2, none⟩ = some (.int .i64 b) ∧ w.cell? ⟨g, 3, none⟩ = some (.int .i64 c) ∧
    w.cell? ⟨g, 4, none⟩ = some (.string f) ∧ w.cell? ⟨g, 5, none⟩ = some (.string s) ∧ w.cell? ⟨g, 6, none⟩ = some kv :=
  ⟨h.cell 0 _ rfl, h.cell 1 _ rfl, h.cell 2 _ rfl, h.cell 3 _ rfl, h.cell 4 _ rfl, h.cell 5 _ rfl, h.cell 6 _ rfl⟩
abbrev z6 : Obj := .cells #[.int .i64 0, .int .i64 0, .int .i64 0, .int .i64 0, .string ⟨#[]⟩, .string ⟨#[]⟩] 67

set_option maxRecDepth 100000 in
set_option maxHeartbeats 800000 in
theorem knows_nil (w : World) : Calls Try.prog 42 #[.pointer none] w fun e w' => e = .returned (knV 0 0 0 0 ⟨#[]⟩ ⟨#[]⟩) ∧ Below w.heap.size w w' := by
  go_enter Try.func42, Try.ntmps42
  go_wp2
  refine bodyPost_ret (v := knV 0 0 0 0 ⟨#[]⟩ ⟨#[]⟩) (by simp [results, Try.results42, go_sem]) rfl ⟨rfl, ?_⟩
  exact (Below.refl _ _).alloc (Nat.le_refl _) _

set_option maxRecDepth 100000 in
set_option maxHeartbeats 800000 in
theorem knows_blk {lv a b c : Int} {f s : ByteArray} {kv : Value} {g : Nat} {t : TypeId} {w : World} (hB : Blk w g (kc7 lv a b c f s kv) t) :
    Calls Try.prog 42 #[.pointer (some ⟨g, 0, none⟩)] w fun e w' => e = .returned (knV lv a b c f s) ∧ Below w.heap.size w w' := by
  obtain ⟨c0, c1, c2, c3, c4, c5, -⟩ := (hB.alloc z6).seven
  clear hB
  go_enter Try.func42, Try.ntmps42
  go_wp2
  refine bodyPost_ret (v := knV lv a b c f s) (by simp [results, Try.results42, go_sem]) rfl ⟨rfl, ?_⟩
  exact (Below.refl _ _).alloc (Nat.le_refl _) _
theorem kn_lv (lv a b c : Int) (f s : ByteArray) (w : World) : (Instr.field 67 (knV lv a b c f s) 0).run Try.prog w = .ok (.int .i64 lv) w := by kernel_rfl
theorem kn_cnt (lv a b c : Int) (f s : ByteArray) (w : World) : (Instr.field 67 (knV lv a b c f s) 1).run Try.prog w = .ok (cntV a b c) w := by kernel_rfl
theorem kn_fst (lv a b c : Int) (f s : ByteArray) (w : World) : (Instr.field 67 (knV lv a b c f s) 2).run Try.prog w = .ok (.string f) w := by kernel_rfl
theorem kn_lst (lv a b c : Int) (f s : ByteArray) (w : World) : (Instr.field 67 (knV lv a b c f s) 3).run Try.prog w = .ok (.string s) w := by kernel_rfl

set_option maxRecDepth 100000 in
set_option maxHeartbeats 800000 in
theorem height_nil (w : World) :
    Calls Try.prog 26 #[.pointer none] w fun e w' => e = .returned (.int .i64 (-1)) ∧ Below w.heap.size w w' := by
  have ck := knows_nil w
  have cf := kn_lv 0 0 0 0 ⟨#[]⟩ ⟨#[]⟩
  have CK := Lib.hid ck
  clear ck
  go_enter Try.func26, Try.ntmps26
  go_wp2_with fail
  refine CK.out.mono ?_; rintro e w1 ⟨rfl, hb1⟩
  go_wp2
  go_ret
  exact ⟨rfl, hb1⟩

set_option maxRecDepth 100000 in
set_option maxHeartbeats 800000 in
theorem height_blk {lv a b c : Int} {f s : ByteArray} {kv : Value} {g : Nat} {t : TypeId} {w : World} (hB : Blk w g (kc7 lv a b c f s kv) t) (h0 : 0 ≤ lv) (h1 : lv ≤ 1000000) :
    Calls Try.prog 26 #[.pointer (some ⟨g, 0, none⟩)] w fun e w' => e = .returned (.int .i64 (lv - 1)) ∧ Below w.heap.size w w' := by
  have ck := knows_blk hB
  have cf := kn_lv lv a b c f s
  have CK := Lib.hid ck
  clear ck hB
  go_enter Try.func26, Try.ntmps26
  go_wp2_with fail
  refine CK.out.mono ?_; rintro e w1 ⟨rfl, hb1⟩
  go_wp2
  go_ret
  exact ⟨rfl, hb1⟩

set_option maxRecDepth 100000 in
set_option maxHeartbeats 800000 in
theorem count_nil (w : World) :
    Calls Try.prog 29 #[.pointer none] w fun e w' => e = .returned (cntV 0 0 0) ∧ Below w.heap.size w w' := by
  have ck := knows_nil w
  have cf := kn_cnt 0 0 0 0 ⟨#[]⟩ ⟨#[]⟩
  have ck : Calls Try.prog 42 #[.pointer none] (w.alloc (.cells #[.int .i64 0, .int .i64 0, .int .i64 0] 50)) fun e w' => e = .returned (knV 0 0 0 0 ⟨#[]⟩ ⟨#[]⟩) ∧ Below (w.alloc (.cells #[.int .i64 0, .int .i64 0, .int .i64 0] 50)).heap.size (w.alloc (.cells #[.int .i64 0, .int .i64 0, .int .i64 0] 50)) w' := knows_nil _
  have CK := Lib.hid ck
  clear ck
  go_enter Try.func29, Try.ntmps29
  go_wp2_with fail
  refine CK.out.mono ?_; rintro e w1 ⟨rfl, hb1⟩
  have hN : Blk w1 w.heap.size #[.int .i64 0, .int .i64 0, .int .i64 0] 50 := (Blk.new w _ _).onto hb1
  have g0 := hN.free 0
  have g1 := hN.free 1
  have g2 := hN.free 2
  have d0 := hN.cell 0 _ rfl
  have d1 := hN.cell 1 _ rfl
  have d2 := hN.cell 2 _ rfl
  have hlt := hN.lt
  go_wp2
  refine bodyPost_ret (v := cntV 0 0 0) (by simp [results, Try.results29, go_sem, g0, g1, g2, d0, d1, d2]) rfl ⟨rfl, ?_⟩
  exact below_set3 (o := .cells #[.int .i64 0, .int .i64 0, .int .i64 0] 50) hb1 _ _ _

set_option maxRecDepth 100000 in
set_option maxHeartbeats 800000 in
theorem count_blk {lv a b c : Int} {f s : ByteArray} {kv : Value} {g : Nat} {t : TypeId} {w : World} (hB : Blk w g (kc7 lv a b c f s kv) t) :
    Calls Try.prog 29 #[.pointer (some ⟨g, 0, none⟩)] w fun e w' => e = .returned (cntV a b c) ∧ Below w.heap.size w w' := by
  have ck := knows_blk hB
  have cf := kn_cnt lv a b c f s
  have ck : Calls Try.prog 42 #[.pointer (some ⟨g, 0, none⟩)] (w.alloc (.cells #[.int .i64 0, .int .i64 0, .int .i64 0] 50)) fun e w' => e = .returned (knV lv a b c f s) ∧ Below (w.alloc (.cells #[.int .i64 0, .int .i64 0, .int .i64 0] 50)).heap.size (w.alloc (.cells #[.int .i64 0, .int .i64 0, .int .i64 0] 50)) w' := knows_blk (hB.alloc _)
  have CK := Lib.hid ck
  clear ck hB
  go_enter Try.func29, Try.ntmps29
  go_wp2_with fail
  refine CK.out.mono ?_; rintro e w1 ⟨rfl, hb1⟩
  have hN : Blk w1 w.heap.size #[.int .i64 0, .int .i64 0, .int .i64 0] 50 := (Blk.new w _ _).onto hb1
  have g0 := hN.free 0
  have g1 := hN.free 1
  have g2 := hN.free 2
  have d0 := hN.cell 0 _ rfl
  have d1 := hN.cell 1 _ rfl
  have d2 := hN.cell 2 _ rfl
  have hlt := hN.lt
  go_wp2
  refine bodyPost_ret (v := cntV a b c) (by simp [results, Try.results29, go_sem, g0, g1, g2, d0, d1, d2]) rfl ⟨rfl, ?_⟩
  exact below_set3 (o := .cells #[.int .i64 0, .int .i64 0, .int .i64 0] 50) hb1 _ _ _

set_option maxRecDepth 100000 in
set_option maxHeartbeats 800000 in
theorem first_nil (w : World) :
    Calls Try.prog 53 #[.pointer none] w fun e w' => e = .returned (.string ⟨#[]⟩) ∧ Below w.heap.size w w' := by
  have ck := knows_nil w
  have cf := kn_fst 0 0 0 0 ⟨#[]⟩ ⟨#[]⟩
  have CK := Lib.hid ck
  clear ck
  go_enter Try.func53, Try.ntmps53
  go_wp2_with fail
  refine CK.out.mono ?_; rintro e w1 ⟨rfl, hb1⟩
  go_wp2
  go_ret
  exact ⟨rfl, hb1⟩

set_option maxRecDepth 100000 in
set_option maxHeartbeats 800000 in
theorem first_blk {lv a b c : Int} {f s : ByteArray} {kv : Value} {g : Nat} {t : TypeId} {w : World} (hB : Blk w g (kc7 lv a b c f s kv) t) :
    Calls Try.prog 53 #[.pointer (some ⟨g, 0, none⟩)] w fun e w' => e = .returned (.string f) ∧ Below w.heap.size w w' := by
  have ck := knows_blk hB
  have cf := kn_fst lv a b c f s
  have CK := Lib.hid ck
  clear ck hB
  go_enter Try.func53, Try.ntmps53
  go_wp2_with fail
  refine CK.out.mono ?_; rintro e w1 ⟨rfl, hb1⟩
  go_wp2
  go_ret
  exact ⟨rfl, hb1⟩

set_option maxRecDepth 100000 in
set_option maxHeartbeats 800000 in
theorem last_nil (w : World) :
    Calls Try.prog 52 #[.pointer none] w fun e w' => e = .returned (.string ⟨#[]⟩) ∧ Below w.heap.size w w' := by
  have ck := knows_nil w
  have cf := kn_lst 0 0 0 0 ⟨#[]⟩ ⟨#[]⟩
  have CK := Lib.hid ck
  clear ck
  go_enter Try.func52, Try.ntmps52
  go_wp2_with fail
  refine CK.out.mono ?_; rintro e w1 ⟨rfl, hb1⟩
  go_wp2
  go_ret
  exact ⟨rfl, hb1⟩

set_option maxRecDepth 100000 in
set_option maxHeartbeats 800000 in
theorem last_blk {lv a b c : Int} {f s : ByteArray} {kv : Value} {g : Nat} {t : TypeId} {w : World} (hB : Blk w g (kc7 lv a b c f s kv) t) :
    Calls Try.prog 52 #[.pointer (some ⟨g, 0, none⟩)] w fun e w' => e = .returned (.string s) ∧ Below w.heap.size w w' := by
  have ck := knows_blk hB
  have cf := kn_lst lv a b c f s
  have CK := Lib.hid ck
  clear ck hB
  go_enter Try.func52, Try.ntmps52
  go_wp2_with fail
  refine CK.out.mono ?_; rintro e w1 ⟨rfl, hb1⟩
  go_wp2
  go_ret
  exact ⟨rfl, hb1⟩
end Go.Proofs.Ytephlcdanokolaa
