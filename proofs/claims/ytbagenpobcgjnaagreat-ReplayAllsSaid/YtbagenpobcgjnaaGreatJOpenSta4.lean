/-
  Joined: OpenSta4, LawRpl.
-/
import Derived.Test.YtbagenpobcgjnaaGreatOpenSta2
import Derived.Test.YtbagenpobcgjnaaGreatJEdrDev5
open List renaming mem_append->yy,mem_singleton->zd
namespace Go.Proofs.YtbagenpobcgjnaaGreat
open Go.Proofs.Tryz
open Go.RowKit Go.ChangeShapes Go.WideShapes Go.Deep
set_option linter.unusedVariables false
structure StaE (s:lz):Prop where
 mz:∀ x∈s.m.l,x.name.size≤maxLen
 e:∀ x∈s.rows,sc x.l 140737488355328
theorem IR {H:Type} {s:ByteArray} (h:WtQ (H:=H) prog 9 (wt s)):s.size≤140737488355328:=by
 unfold WtQ wt at h;have h1:s.data.toList.length≤reachBytes:=by
  have:=List.all_eq_true.1 h s.data.toList.length (by simp [DataW.weights]);simpa using this
 have h2:=reachBytes_lt;have e:s.data.toList.length=s.size:=lh;omega
theorem staE_of {H:Type} {s:lz} (hq:StaQ (H:=H) (WtQ prog) s):StaE s:=by
 refine ⟨fun x hx=>(hq.m x hx).1.1,fun x hx y hy=>?_⟩;have hs:wu (H:=H) (WtQ prog) x:=by
  unfold lz.rows at hx;simp only [yy,zd] at hx;rcases hx with (h|h)|rfl
  ·exact hq.u x h
  ·exact hq.r x h
  ·exact hq.g
 have h1:=(hs.2.1 y hy).2;exact ⟨IR h1.1,IR h1.2⟩
theorem RT {s:lz} (h:StaE s) (hf:s.few=true):sd s:=by
 have hf:=(AD s).1 hf;have hlen:∀ x∈s.rows,x.l.length≤200:=fun x hx=>by
  unfold lz.rows at hx;simp only [yy,zd] at hx;rcases hx with (hx|hx)|rfl
  ·have:=xH hx;omega
  ·have:=xH hx;omega
  ·omega
 exact ⟨lf,lf,h.mz,lf,lf,fun x hx=>⟨by have:=hlen x hx;omega,h.e x hx⟩⟩
end Go.Proofs.YtbagenpobcgjnaaGreat
namespace Go.Proofs.YtbagenpobcgjnaaGreat
open Go.Proofs.Tryz
set_option maxRecDepth 100000
open Lib (hid)
open Go.RowKit
set_option linter.unusedVariables false
set_option linter.unusedSimpArgs false
def lvR:mb×Nat×Int:=pk xh (qy [⟨1,0,0,⟨#[97]⟩⟩,⟨5,0,0,⟨#[]⟩⟩])
theorem SR:lvR.2=(2,0):=by decide +kernel
theorem SL:lvR.1.t=⟨#[]⟩:=by decide +kernel
theorem SS:lvR.1.r.length=1:=by decide +kernel
set_option maxHeartbeats 1600000 in
theorem fB (w:World):Calls prog 9 #[] w fun e w'=>e=.returned (.bool true)∧Below w w w':=by
 obtain ⟨W,hW,kL,aa,ad⟩:=nu w #[.int .i64 1,.int .i64 0,.int .i64 0,.string ⟨#[97]⟩,.int .i64 5,.int .i64 0,.int .i64 0,.string ⟨#[]⟩] 50;have hr:qk W (·<W) (some ⟨w,0,none⟩) [⟨1,0,0,⟨#[97]⟩⟩,⟨5,0,0,⟨#[]⟩⟩]:=fun k hk=>by
  have ac:k<2:=hk
  match k,ac with
  | 0,_=>exact ⟨_,rfl,by show w.heap.size<_;omega,kL.cell 0 _ rfl,kL.cell 1 _ rfl,kL.cell 2 _ rfl,kL.cell 3 _ rfl⟩
  | 1,_=>exact ⟨_,rfl,by show w.heap.size<_;omega,kL.cell 4 _ rfl,kL.cell 5 _ rfl,kL.cell 6 _ rfl,kL.cell 7 _ rfl⟩
 have cr:=FW wk [⟨1,0,0,⟨#[97]⟩⟩,⟨5,0,0,⟨#[]⟩⟩] (some ⟨w,0,none⟩) 2 2 [] W (fun i hi=>absurd hi lh) (OV W) QS hr rfl lf (fun x hx=>by
  simp only [List.mem_cons,List.not_mem_nil,or_false] at hx;rcases hx with rfl|rfl <;> exact ⟨by show o8 0;unfold o8;omega,li⟩)
 have e:wa wk (qy [⟨1,0,0,⟨#[97]⟩⟩,⟨5,0,0,⟨#[]⟩⟩])=lvR:=if_pos EL;rw [e] at cr;have CR:=hid (show Calls prog 10 #[.agg #[.string ⟨#[]⟩,.slice none 0 0,.slice none 0 0,.slice none 0 0,.bool false,.slice none 0 0],.slice (some ⟨w,0,none⟩) 2 2] W _ from cr);have HW:=hid hW;have ab:=hid aa;clear cr hW kL aa hr e;go_enter func9,ntmps9;go_wp2_with fail;rw [HW.out];refine CR.out.mono ?_;rintro e w2 ⟨s5,he,hd,hs,hb⟩;rw [SR] at he;subst he;have HB:=hid (ab.out.trans (hb.mono ab.out.size));have e1:s5.t=⟨#[]⟩:=(congrArg mb.t hd).trans SL;have e3:s5.r.l.length=1:=by rw [← aC];exact (congrArg (fun x=>x.r.length) hd).trans SS
 obtain ⟨t5,m5,⟨ua,ul,uc⟩,⟨ra,rl,rc⟩,o5,g5⟩:=s5;replace e1:t5=⟨#[]⟩:=e1;subst e1;dsimp only at e3;clear hd hs hb CR;go_wp2;go_ret;exact ⟨by first|rfl|simp [e3],HB.out.alloc HB.out.size _⟩
def wd (l:List oo):Bool:=decide (l.length≤40) && l.all fun x=>decide (x.s.size≤600)
theorem kH {l:List oo}:wd l=true↔l.length≤40∧∀ x∈l,x.s.size≤600:=by unfold wd;simp
set_option maxHeartbeats 1600000 in
theorem lY (a:Option Addr) (l:List oo) (c:Nat) (w:World) (hr:qk w (·<w) a l) (hl:l.length≤maxLen) :
 Calls prog 8 #[.slice a l.length c] w fun e w'=>e=.returned (.bool (wd l))∧w=w':=by
 obtain ⟨n,hn⟩:∃ n,l.length=n:=⟨_,rfl⟩;unfold maxLen at hl;by_cases h1:40<n
 ·have e:wd l=false:=by unfold wd;rw [decide_eq_false lf];rfl
  have t1:(40:Int)<(n:Int):=lf;rw [e,hn];clear e hr hl hn;go_enter func8,ntmps8;go_wp2;go_ret;exact ⟨rfl,rfl⟩
 ·have t1:¬ (40:Int)<(n:Int):=lf;obtain ⟨R,hR⟩:∃ R,wd l=R:=⟨_,rfl⟩;have HR:=hid hr;have HN:=hid hn;have HQ:=hid hR;rw [hn,hR];clear hr hn hR hl;go_enter func8,ntmps8;go_wp2
  go_loopw [3] (fun i wr=>∃ k:Nat,k≤n∧i=.int .i64 k∧(∀ x∈l.take k,x.s.size≤600)∧w=wr) (fun i _=>n - (intOf i).toNat)
  case atStart=>exact ⟨0,Nat.zero_le _,rfl,fun x hx=>absurd hx lh,rfl⟩
  case round =>
   obtain ⟨k,hk,rfl,hall,rfl⟩:=hrel;by_cases hlt:k<n
   ·have hkl:k<l.length:=by rw [HN.out];exact hlt
    obtain ⟨ad,rfl,hab,q0,q1,q2,q3⟩:=HR.out k hkl;have b0:(0:Int)≤(k:Int):=lf;have b1:(k:Int)<(n:Int):=lf;obtain ⟨y,hy⟩:∃ y,l[k]=y:=⟨_,rfl⟩;rw [hy] at q0 q1 q2 q3;by_cases h6:600<y.s.size
    ·have t2:(600:Int)<(y.s.size:Int):=lf;have e:R=false:=by
      rw [← HQ.out];cases hf:wd l
      ·rfl
      ·have:=(kH.1 hf).2 (l[k]) (List.getElem_mem hkl);rw [hy] at this;omega
     subst e;clear hall hab hy q0 q1 q2;go_wp2;go_ret;exact ⟨rfl,rfl⟩
    ·have t2:¬ (600:Int)<(y.s.size:Int):=lf;have HA:=hid (show ∀ x∈l.take (k+1),x.s.size≤600 from fun x hx=>by
      rw [List.take_add_one,List.getElem?_eq_getElem hkl,hy] at hx;rcases yy.1 hx with hx|hx
      ·exact hall x hx
      ·have:x=y:=by simpa using hx
       rw [this];omega)
     clear hall hab hy q0 q1 q2;go_wp2;go_roundw
     case rel=>exact ⟨k+1,lf,by go_num,HA.out,by trivial⟩
     case measure=>simp [intOf];omega
   ·obtain rfl:k=n:=lf;rw [List.take_of_length_le (by rw [HN.out];exact Nat.le_refl _)] at hall;have e:R=true:=by rw [← HQ.out];exact kH.2 ⟨by rw [HN.out];omega,hall⟩
    subst e;clear hall;go_wp2;go_ret;exact ⟨rfl,rfl⟩
end Go.Proofs.YtbagenpobcgjnaaGreat
