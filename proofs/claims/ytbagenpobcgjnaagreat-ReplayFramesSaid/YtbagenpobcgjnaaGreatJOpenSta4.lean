/-
  Joined: OpenSta4, LawRpl.
-/
import Derived.Test.YtbagenpobcgjnaaGreatOpenSta2
import Derived.Test.YtbagenpobcgjnaaGreatJEdrDev5
open List renaming mem_append->zp,mem_singleton->zq
namespace Go.Proofs.YtbagenpobcgjnaaGreat
open Go.Proofs.Tryz
open Go.RowKit Go.ChangeShapes Go.WideShapes Go.Deep
set_option linter.unusedVariables false
structure StaE (s:l7):Prop where
 mz:∀ x∈s.m.l,x.name.size≤maxLen
 e:∀ x∈s.rows,sh x.l 140737488355328
theorem JY {H:Type} {s:ByteArray} (h:WtQ (H:=H) prog 9 (xm s)):s.size≤140737488355328:=by
 unfold WtQ xm at h;have h1:s.data.toList.length≤reachBytes:=by
  have:=List.all_eq_true.1 h s.data.toList.length (by simp [DataW.weights]);simpa using this
 have h2:=reachBytes_lt;have e:s.data.toList.length=s.size:=li;omega
theorem staE_of {H:Type} {s:l7} (hq:StaQ (H:=H) (WtQ prog) s):StaE s:=by
 refine ⟨fun x hx=>(hq.m x hx).1.1,fun x hx y hy=>?_⟩;have hs:xo (H:=H) (WtQ prog) x:=by
  unfold l7.rows at hx;simp only [zp,zq] at hx;rcases hx with (h|h)|rfl
  ·exact hq.u x h
  ·exact hq.r x h
  ·exact hq.g
 have h1:=(hs.2.1 y hy).2;exact ⟨JY h1.1,JY h1.2⟩
theorem TB {s:l7} (h:StaE s) (hf:s.few=true):tg s:=by
 have hf:=(DA s).1 hf;have hlen:∀ x∈s.rows,x.l.length≤200:=fun x hx=>by
  unfold l7.rows at hx;simp only [zp,zq] at hx;rcases hx with (hx|hx)|rfl
  ·have:=yP hx;omega
  ·have:=yP hx;omega
  ·omega
 exact ⟨lg,lg,h.mz,lg,lg,fun x hx=>⟨by have:=hlen x hx;omega,h.e x hx⟩⟩
end Go.Proofs.YtbagenpobcgjnaaGreat
namespace Go.Proofs.YtbagenpobcgjnaaGreat
open Go.Proofs.Tryz
set_option maxRecDepth 100000
open Lib (hid)
open Go.RowKit
set_option linter.unusedVariables false
set_option linter.unusedSimpArgs false
def lvR:mg×Nat×Int:=qm wl (uf [⟨1,0,0,⟨#[97]⟩⟩,⟨5,0,0,⟨#[]⟩⟩])
theorem UX:lvR.2=(2,0):=by decide +kernel
theorem UR:lvR.1.t=⟨#[]⟩:=by decide +kernel
theorem UW:lvR.1.r.length=1:=by decide +kernel
theorem QO (l:List (ru×Int)):∀ s:mg,mx s→mx (qm s l).1:=by
 induction l with
 | nil=>exact fun s h=>h
 | cons x t ih =>
  intro s h;simp only [qm];split
  ·exact ih _ (xN h x)
  ·exact h
theorem MX (s:l7) (l:List (ru×Int)):mx (se s l).1:=by
 unfold se;split
 ·exact QO l _ ((jR s).1 ln)
 ·exact DC
set_option maxHeartbeats 1600000 in
theorem fN (w:World):Calls prog 9 #[] w fun e w'=>e=.returned (.bool true)∧Below w w w':=by
 obtain ⟨W,hW,kL,aa,ad⟩:=n8 w #[.int .i64 1,.int .i64 0,.int .i64 0,.string ⟨#[97]⟩,.int .i64 5,.int .i64 0,.int .i64 0,.string ⟨#[]⟩] 50;have hr:ud W (·<W) (some ⟨w,0,none⟩) [⟨1,0,0,⟨#[97]⟩⟩,⟨5,0,0,⟨#[]⟩⟩]:=fun k hk=>by
  have ac:k<2:=hk
  match k,ac with
  | 0,_=>exact ⟨_,rfl,by show w.heap.size<_;omega,kL.cell 0 _ rfl,kL.cell 1 _ rfl,kL.cell 2 _ rfl,kL.cell 3 _ rfl⟩
  | 1,_=>exact ⟨_,rfl,by show w.heap.size<_;omega,kL.cell 4 _ rfl,kL.cell 5 _ rfl,kL.cell 6 _ rfl,kL.cell 7 _ rfl⟩
 have cr:=LZ wa [⟨1,0,0,⟨#[97]⟩⟩,⟨5,0,0,⟨#[]⟩⟩] (some ⟨w,0,none⟩) 2 2 [] W (fun i hi=>absurd hi li) (RQ W) ST hr rfl lg (fun x hx=>by
  simp only [List.mem_cons,List.not_mem_nil,or_false] at hx;rcases hx with rfl|rfl <;> exact ⟨by show oi 0;unfold oi;omega,lj⟩)
 have e:se wa (uf [⟨1,0,0,⟨#[97]⟩⟩,⟨5,0,0,⟨#[]⟩⟩])=lvR:=if_pos ED;rw [e] at cr;have CR:=hid (show Calls prog 10 #[.agg #[.string ⟨#[]⟩,.slice none 0 0,.slice none 0 0,.slice none 0 0,.bool false,.slice none 0 0],.slice (some ⟨w,0,none⟩) 2 2] W _ from cr);have HW:=hid hW;have ab:=hid aa;clear cr hW kL aa hr e;go_enter func9,ntmps9;go_wp2_with fail;rw [HW.out];refine CR.out.mono ?_;rintro e w2 ⟨s5,he,hd,hs,hb⟩;rw [UX] at he;subst he;have HB:=hid (ab.out.trans (hb.mono ab.out.size));have e1:s5.t=⟨#[]⟩:=(congrArg mg.t hd).trans UR;have e3:s5.r.l.length=1:=by rw [← aD];exact (congrArg (fun x=>x.r.length) hd).trans UW
 obtain ⟨t5,m5,⟨ua,ul,uc⟩,⟨ra,rl,rc⟩,o5,g5⟩:=s5;replace e1:t5=⟨#[]⟩:=e1;subst e1;dsimp only at e3;clear hd hs hb CR;go_wp2;go_ret;exact ⟨by first|rfl|simp [e3],HB.out.alloc HB.out.size _⟩
end Go.Proofs.YtbagenpobcgjnaaGreat
