/-
  make([]byte, n), and what it says as a text: noughts.
-/
import Derived.Test.YtephlcdanokolaaJUtfLeaf
import Derived.Laws.MakeOwn
namespace Go.Proofs.Ytephlcdanokolaa
open Go.RowKit

theorem byte_info : (Try.prog.info? 5).map (fun i => (i.zero, i.size, i.bytes)) = some (some (.int .u8 0), 1, 1) := by kernel_rfl
/-- The cells of a new row of bytes. -/
def zs (n : Nat) : Array Value := madeCells (Value.int .u8 0).cells n
theorem zs_size (n : Nat) : (zs n).size = n := size_madeCells _ _
theorem zs_get (n i : Nat) (h : i < n) : (zs n)[i]? = some (.int .u8 0) := by
  unfold zs madeCells
  simp [h, Value.cells, Nat.mod_one]
/-- So many bytes 0. -/
def zeroS (n : Nat) : ByteArray := ⟨(List.replicate n (0 : UInt8)).toArray⟩
theorem zeroS_list (n : Nat) : (zeroS n).data.toList = List.replicate n 0 := rfl
theorem zeroS_size (n : Nat) : (zeroS n).size = n := by simp [zeroS, ByteArray.size]
theorem strOf_zeros (n : Nat) : strOfNums (List.replicate n 0) = zeroS n := by
  unfold strOfNums zeroS
  rw [List.map_replicate]
  rfl
theorem make_zeros (x : Int) (n : Nat) (hx : x = n) (hn : n ≤ 281474976710656) (W : World) :
    (Instr.makeSlice 41 (.int .i64 x) (.int .i64 x)).run Try.prog W = .ok (.slice (some ⟨W.heap.size, 0, none⟩) n n) (W.alloc (.cells (zs n) 5)) := by
  obtain ⟨i0, hi, hz0, hz1, hz2⟩ := info_parts byte_info
  subst hx
  have h := run_make (P := Try.prog) W 41 5 i0 (.int .u8 0) Try.underlying41 hi hz0 .i64 .i64 (n : Int) (n : Int) (by omega) (by omega) (by rw [hz2]; omega) (by omega)
  rw [hz1, Nat.mul_one] at h
  exact h
theorem conv_zeros (n : Nat) (W : World) :
    (convert 41 9 (.slice (some ⟨W.heap.size, 0, none⟩) n n)).run Try.prog (W.alloc (.cells (zs n) 5)) = .ok (.string (zeroS n)) (W.alloc (.cells (zs n) 5)) := by
  rw [← strOf_zeros]
  refine run_convert_bytes_arg _ 41 5 Try.underlying41 Try.underlying5 _ 0 n n (List.replicate n 0) (by simp) (fun i hi => ?_) 9 Try.underlying9
  rw [Nat.zero_add, World.cell?_alloc_new, zs_get n i hi]
  simp [List.getD_eq_getElem?_getD, hi]
end Go.Proofs.Ytephlcdanokolaa
