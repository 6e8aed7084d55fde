/-
  OpenSta2
-/
import Derived.Test.YtbagenpobcgjnaaGreatOpenSta
open Bool renaming and_eq_true->zn
open Go.DataW renaming weights->zr,weightsAll->zt,weightsEach->zq
open List renaming all_append->zo,all_cons->zu
open Nat renaming le_trans->zp
namespace Go.Proofs.YtbagenpobcgjnaaGreat
open Go.Proofs.Tryz
open Go.RowKit Go.ChangeShapes Go.WideShapes Go.Deep
set_option linter.unusedVariables false
section
variable {H : Type} {P : Program}
theorem wt_get {p:Nat→Bool}:∀ {ts:List TypeId} {ds:List (DataW H)} (h:(zq P ts ds).all p=true) (j:Nat) {t:TypeId} {d:DataW H},ts[j]? = some t→ds[j]? = some d→(d.weights P t).all p=true
 | [],_,_,_,_,_,ht,_=>by simp at ht
 | _::_,[],_,_,_,_,_,hd=>by simp at hd
 | t0::ts,d0::ds,h,0,t,d,ht,hd=>by
  simp only [zq,zo,zn] at h;simp only [List.getElem?_cons_zero,Option.some.injEq] at ht hd;subst ht hd;exact h.1
 | t0::ts,d0::ds,h,j+1,t,d,ht,hd=>by
  simp only [zq,zo,zn] at h;simp only [List.getElem?_cons_succ] at ht hd;exact wt_get h.2 j ht hd
theorem KW {p:Nat→Bool} {e:TypeId}:∀ {ds:List (DataW H)} (h:(zt P e ds).all p=true) (y:DataW H),y∈ds→(y.weights P e).all p=true
 | [],_,_,hy=>by cases hy
 | d::r,h,y,hy=>by
  simp only [zt,zo,zn] at h;rcases List.mem_cons.1 hy with rfl|hy
  ·exact h.1
  ·exact KW h.2 y hy
def WtQ (P:Program) (t:TypeId) (d:DataW H):Prop:=(d.weights P t).all (·≤reachBytes)=true
theorem her_wt:Her (H:=H) P (WtQ P) where
 agg t fs ys ht hq j f y hj hy:=by
  unfold WtQ at hq ⊢;simp only [zr,ht] at hq;refine wt_get hq j ?_ hy;simp [hj]
 slice t e es sp ht hq y hy:=by
  unfold WtQ at hq ⊢;simp only [zr,ht,zu,zo,zn] at hq;exact KW hq.2.1 y hy
theorem UK {t e:TypeId} {es sp:List (DataW H)} (ht:P.underlying t=some (.slice e)) (hq:WtQ P t (.slice es sp)):es.length * P.bytesOf e≤140737488351232:=by
 unfold WtQ at hq;simp only [zr,ht,zu,zn,decide_eq_true_eq] at hq;have h:(es.length+sp.length) * P.bytesOf e≤140737488351232:=hq.1;exact zp (Nat.mul_le_mul_right _ (Nat.le_add_right _ _)) h
end
theorem IE:prog.bytesOf 92=40:=lh
theorem staL_of {H:Type} {w:World} {s:l7} (hi:ol w s) (hq:StaQ (H:=H) (WtQ prog) s):zd s:=by
 refine ⟨hq.t,hq.ml,zp hi.u.le hi.u.cap,zp hi.r.le hi.r.cap,zp hq.g.1.1 hq.g.1.2,fun x hx=>?_⟩;have hs:xo (H:=H) (WtQ prog) x:=by
  rcases List.mem_append.1 hx with h|h
  ·exact hq.u x h
  ·exact hq.r x h
 rcases hs.2.2 with h|⟨es,sp,he,h⟩
 ·omega
 ·have:=UK underlying24 h;rw [IE,he] at this;omega
end Go.Proofs.YtbagenpobcgjnaaGreat
