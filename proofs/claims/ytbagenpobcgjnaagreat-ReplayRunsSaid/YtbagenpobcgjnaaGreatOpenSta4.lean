/-
  OpenSta4
-/
import Derived.Test.YtbagenpobcgjnaaGreatOpenSta2
namespace Go.Proofs.YtbagenpobcgjnaaGreat
open Go.Proofs.Tryz
open Go.RowKit Go.ChangeShapes Go.WideShapes Go.Deep
set_option linter.unusedVariables false
structure StaE (s:Sta):Prop where
 mz:∀ x∈s.m.l,x.name.size≤maxLen
 e:∀ x∈s.rows,Edtz x.l 140737488355328
theorem GS {H:Type} {s:ByteArray} (h:WtQ (H:=H) prog 9 (litS s)):s.size≤140737488355328:=by
 unfold WtQ litS at h
 have h1:s.data.toList.length≤reachBytes:=by
  have:=List.all_eq_true.1 h s.data.toList.length (by simp [DataW.weights])
  simpa using this
 have h2:=reachBytes_lt
 have e:s.data.toList.length=s.size:=by simp
 omega
theorem staE_of {H:Type} {s:Sta} (hq:StaQ (H:=H) (WtQ prog) s):StaE s:=by
 refine ⟨fun x hx=>(hq.m x hx).1.1,fun x hx y hy=>?_⟩
 have hs:StpQ (H:=H) (WtQ prog) x:=by
  unfold Sta.rows at hx
  simp only [List.mem_append,List.mem_singleton] at hx
  rcases hx with (h|h)|rfl
  ·exact hq.u x h
  ·exact hq.r x h
  ·exact hq.g
 have h1:=(hs.2.1 y hy).2
 exact ⟨GS h1.1,GS h1.2⟩
theorem PP {s:Sta} (h:StaE s) (hf:s.few=true):StaZ s:=by
 have hf:=(yU s).1 hf
 have hlen:∀ x∈s.rows,x.l.length≤200:=fun x hx=>by
  unfold Sta.rows at hx
  simp only [List.mem_append,List.mem_singleton] at hx
  rcases hx with (hx|hx)|rfl
  ·have:=uE hx;omega
  ·have:=uE hx;omega
  ·omega
 exact ⟨by omega,by omega,h.mz,by omega,by omega,fun x hx=>⟨by have:=hlen x hx;omega,h.e x hx⟩⟩
end Go.Proofs.YtbagenpobcgjnaaGreat
