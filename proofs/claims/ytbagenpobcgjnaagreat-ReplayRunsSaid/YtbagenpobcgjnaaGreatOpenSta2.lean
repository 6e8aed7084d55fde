/-
  OpenSta2
-/
import Derived.Test.YtbagenpobcgjnaaGreatOpenSta
import Derived.SizedLaws
namespace Go.Proofs.YtbagenpobcgjnaaGreat
open Go.Proofs.Tryz
open Go.RowKit Go.ChangeShapes Go.WideShapes Go.Deep
set_option linter.unusedVariables false
section
variable {H : Type} {P : Program}
theorem wt_get {p:Nat→Bool}:∀ {ts:List TypeId} {ds:List (DataW H)} (h:(DataW.weightsEach P ts ds).all p=true) (j:Nat) {t:TypeId} {d:DataW H},ts[j]? = some t→ds[j]? = some d→(d.weights P t).all p=true
 | [],_,_,_,_,_,ht,_=>by simp at ht
 | _::_,[],_,_,_,_,_,hd=>by simp at hd
 | t0::ts,d0::ds,h,0,t,d,ht,hd=>by
  simp only [DataW.weightsEach,List.all_append,Bool.and_eq_true] at h
  simp only [List.getElem?_cons_zero,Option.some.injEq] at ht hd
  subst ht hd
  exact h.1
 | t0::ts,d0::ds,h,j+1,t,d,ht,hd=>by
  simp only [DataW.weightsEach,List.all_append,Bool.and_eq_true] at h
  simp only [List.getElem?_cons_succ] at ht hd
  exact wt_get h.2 j ht hd
theorem EY {p:Nat→Bool} {e:TypeId}:∀ {ds:List (DataW H)} (h:(DataW.weightsAll P e ds).all p=true) (y:DataW H),y∈ds→(y.weights P e).all p=true
 | [],_,_,hy=>by cases hy
 | d::r,h,y,hy=>by
  simp only [DataW.weightsAll,List.all_append,Bool.and_eq_true] at h
  rcases List.mem_cons.1 hy with rfl|hy
  ·exact h.1
  ·exact EY h.2 y hy
def WtQ (P:Program) (t:TypeId) (d:DataW H):Prop:=(d.weights P t).all (·≤reachBytes)=true
theorem her_wt:Her (H:=H) P (WtQ P) where
 agg t fs ys ht hq j f y hj hy:=by
  unfold WtQ at hq ⊢
  simp only [DataW.weights,ht] at hq
  refine wt_get hq j ?_ hy
  simp [hj]
 slice t e es sp ht hq y hy:=by
  unfold WtQ at hq ⊢
  simp only [DataW.weights,ht,List.all_cons,List.all_append,Bool.and_eq_true] at hq
  exact EY hq.2.1 y hy
theorem QI {t e:TypeId} {es sp:List (DataW H)} (ht:P.underlying t=some (.slice e)) (hq:WtQ P t (.slice es sp)):es.length * P.bytesOf e≤140737488351232:=by
 unfold WtQ at hq
 simp only [DataW.weights,ht,List.all_cons,Bool.and_eq_true,decide_eq_true_eq] at hq
 have h:(es.length+sp.length) * P.bytesOf e≤140737488351232:=hq.1
 exact Nat.le_trans (Nat.mul_le_mul_right _ (Nat.le_add_right _ _)) h
end
theorem JC:prog.bytesOf 92=40:=by kernel_rfl
theorem staL_of {H:Type} {w:World} {s:Sta} (hi:StaIn w s) (hq:StaQ (H:=H) (WtQ prog) s):StaL s:=by
 refine ⟨hq.t,hq.ml,Nat.le_trans hi.u.le hi.u.cap,Nat.le_trans hi.r.le hi.r.cap,Nat.le_trans hq.g.1.1 hq.g.1.2,fun x hx=>?_⟩
 have hs:StpQ (H:=H) (WtQ prog) x:=by
  rcases List.mem_append.1 hx with h|h
  ·exact hq.u x h
  ·exact hq.r x h
 rcases hs.2.2 with h|⟨es,sp,he,h⟩
 ·omega
 ·have:=QI underlying24 h
  rw [JC,he] at this
  omega
end Go.Proofs.YtbagenpobcgjnaaGreat
