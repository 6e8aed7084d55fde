/-
  For texts that are made smaller (tools/squeeze3.py): short closed steps, and a World read as its heap's size.
-/
import GoSem.Core.World
import GoSem.ClaimData
import Derived.KernelRfl
namespace Go.Proofs.YtbagenpobcgjnaaGreat
theorem lg {p : Prop} (h : p := by omega) : p := h
theorem lh {p : Prop} (h : p := by kernel_rfl) : p := h
theorem li {p : Prop} (h : p := by simp) : p := h
theorem lj {p : Prop} (h : p := by decide) : p := h
theorem lm {p : Prop} (h : p := by rfl) : p := h
theorem ln {p : Prop} (h : p := by assumption) : p := h
theorem lq {p : Prop} (h : p := by unfold maxLen; omega) : p := h
theorem lr {p : Prop} (h : p := by simp; omega) : p := h
theorem lu {p : Prop} (h : p := by simp only [List.mem_singleton]; omega) : p := h
instance : Coe World Nat := ⟨fun w => w.heap.size⟩
instance : CoeFun World fun _ => Addr → Option Value := ⟨World.cell?⟩
end Go.Proofs.YtbagenpobcgjnaaGreat
