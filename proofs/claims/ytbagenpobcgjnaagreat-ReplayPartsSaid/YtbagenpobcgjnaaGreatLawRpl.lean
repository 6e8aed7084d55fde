/-
  LawRpl
-/
import Derived.Test.YtbagenpobcgjnaaGreatJEdrDev5
import Derived.Test.YtbagenpobcgjnaaGreatJOpenSta2
namespace Go.Proofs.YtbagenpobcgjnaaGreat
open Go.Proofs.Tryz
set_option maxRecDepth 100000
open Lib (hid)
open Go.RowKit
set_option linter.unusedVariables false
set_option linter.unusedSimpArgs false
def lvR:StaD×Nat×Int:=runR stD0 (opsL [⟨1,0,0,⟨#[97]⟩⟩,⟨5,0,0,⟨#[]⟩⟩])
theorem QJ:lvR.2=(2,0):=by decide +kernel
theorem QK:lvR.1.t=⟨#[]⟩:=by decide +kernel
theorem QI:lvR.1.r.length=1:=by decide +kernel
theorem uL (l:List (Opr×Int)):∀ s:StaD,InvS s→InvS (runR s l).1:=by
 induction l with
 | nil=>exact fun s h=>h
 | cons x t ih =>
  intro s h
  simp only [runR]
  split
  ·exact ih _ (uM h x)
  ·exact h
set_option maxHeartbeats 1600000 in
theorem cO (w:World):Calls prog 9 #[] w fun e w'=>e=.returned (.bool true)∧Below w.heap.size w w':=by
 obtain ⟨W,hW,kL,aa,ad⟩:=box1 w #[.int .i64 1,.int .i64 0,.int .i64 0,.string ⟨#[97]⟩,.int .i64 5,.int .i64 0,.int .i64 0,.string ⟨#[]⟩] 50
 have hr:Oprs W (·<W.heap.size) (some ⟨w.heap.size,0,none⟩) [⟨1,0,0,⟨#[97]⟩⟩,⟨5,0,0,⟨#[]⟩⟩]:=fun k hk=>by
  have ac:k<2:=hk
  match k,ac with
  | 0,_=>exact ⟨_,rfl,by show w.heap.size<_;omega,kL.cell 0 _ rfl,kL.cell 1 _ rfl,kL.cell 2 _ rfl,kL.cell 3 _ rfl⟩
  | 1,_=>exact ⟨_,rfl,by show w.heap.size<_;omega,kL.cell 4 _ rfl,kL.cell 5 _ rfl,kL.cell 6 _ rfl,kL.cell 7 _ rfl⟩
 have cr:=qP staZ [⟨1,0,0,⟨#[97]⟩⟩,⟨5,0,0,⟨#[]⟩⟩] (some ⟨w.heap.size,0,none⟩) 2 2 [] W (fun i hi=>absurd hi (by simp)) (lI W) oJ hr rfl (by omega) (fun x hx=>by
  simp only [List.mem_cons,List.not_mem_nil,or_false] at hx
  rcases hx with rfl|rfl <;> exact ⟨by show i64P 0;unfold i64P;omega,by decide⟩)
 have e:runS staZ (opsL [⟨1,0,0,⟨#[97]⟩⟩,⟨5,0,0,⟨#[]⟩⟩])=lvR:=if_pos fD
 rw [e] at cr
 have CR:=hid (show Calls prog 10 #[.agg #[.string ⟨#[]⟩,.slice none 0 0,.slice none 0 0,.slice none 0 0,.bool false,.slice none 0 0],.slice (some ⟨w.heap.size,0,none⟩) 2 2] W _ from cr);have HW:=hid hW;have ab:=hid aa
 clear cr hW kL aa hr e
 go_enter func9,ntmps9
 go_wp2_with fail
 rw [HW.out]
 refine CR.out.mono ?_;rintro e w2 ⟨s5,he,hd,hs,hb⟩
 rw [QJ] at he
 subst he
 have HB:=hid (ab.out.trans (hb.mono ab.out.size))
 have e1:s5.t=⟨#[]⟩:=(congrArg StaD.t hd).trans QK
 have e3:s5.r.l.length=1:=by rw [← aG];exact (congrArg (fun x=>x.r.length) hd).trans QI
 obtain ⟨t5,m5,⟨ua,ul,uc⟩,⟨ra,rl,rc⟩,o5,g5⟩:=s5
 replace e1:t5=⟨#[]⟩:=e1
 subst e1
 dsimp only at e3
 clear hd hs hb CR
 go_wp2
 go_ret
 exact ⟨by first|rfl|simp [e3],HB.out.alloc HB.out.size _⟩
def few4 (l:List Opr):Bool:=decide (l.length≤40) && l.all fun x=>decide (x.s.size≤600)
theorem eD {l:List Opr}:few4 l=true↔l.length≤40∧∀ x∈l,x.s.size≤600:=by unfold few4;simp
set_option maxHeartbeats 1600000 in
theorem gP (a:Option Addr) (l:List Opr) (c:Nat) (w:World) (hr:Oprs w (·<w.heap.size) a l) (hl:l.length≤maxLen) :
 Calls prog 8 #[.slice a l.length c] w fun e w'=>e=.returned (.bool (few4 l))∧w=w':=by
 obtain ⟨n,hn⟩:∃ n,l.length=n:=⟨_,rfl⟩
 unfold maxLen at hl
 by_cases h1:40<n
 ·have e:few4 l=false:=by unfold few4;rw [decide_eq_false (by omega)];rfl
  have t1:(40:Int)<(n:Int):=by omega
  rw [e,hn]
  clear e hr hl hn
  go_enter func8,ntmps8
  go_wp2
  go_ret
  exact ⟨rfl,rfl⟩
 ·have t1:¬ (40:Int)<(n:Int):=by omega
  obtain ⟨R,hR⟩:∃ R,few4 l=R:=⟨_,rfl⟩
  have HR:=hid hr;have HN:=hid hn;have HQ:=hid hR
  rw [hn,hR]
  clear hr hn hR hl
  go_enter func8,ntmps8
  go_wp2
  go_loopw [3] (fun i wr=>∃ k:Nat,k≤n∧i=.int .i64 k∧(∀ x∈l.take k,x.s.size≤600)∧w=wr) (fun i _=>n - (intOf i).toNat)
  case atStart=>exact ⟨0,Nat.zero_le _,rfl,fun x hx=>absurd hx (by simp),rfl⟩
  case round =>
   obtain ⟨k,hk,rfl,hall,rfl⟩:=hrel
   by_cases hlt:k<n
   ·have hkl:k<l.length:=by rw [HN.out];exact hlt
    obtain ⟨ad,rfl,hab,q0,q1,q2,q3⟩:=HR.out k hkl
    have b0:(0:Int)≤(k:Int):=by omega
    have b1:(k:Int)<(n:Int):=by omega
    obtain ⟨y,hy⟩:∃ y,l[k]=y:=⟨_,rfl⟩
    rw [hy] at q0 q1 q2 q3
    by_cases h6:600<y.s.size
    ·have t2:(600:Int)<(y.s.size:Int):=by omega
     have e:R=false:=by
      rw [← HQ.out]
      cases hf:few4 l
      ·rfl
      ·have:=(eD.1 hf).2 (l[k]) (List.getElem_mem hkl)
       rw [hy] at this
       omega
     subst e
     clear hall hab hy q0 q1 q2
     go_wp2
     go_ret
     exact ⟨rfl,rfl⟩
    ·have t2:¬ (600:Int)<(y.s.size:Int):=by omega
     have HA:=hid (show ∀ x∈l.take (k+1),x.s.size≤600 from fun x hx=>by
      rw [List.take_add_one,List.getElem?_eq_getElem hkl,hy] at hx
      rcases List.mem_append.1 hx with hx|hx
      ·exact hall x hx
      ·have:x=y:=by simpa using hx
       rw [this];omega)
     clear hall hab hy q0 q1 q2
     go_wp2
     go_roundw
     case rel=>exact ⟨k+1,by omega,by go_num,HA.out,by trivial⟩
     case measure=>simp [intOf];omega
   ·obtain rfl:k=n:=by omega
    rw [List.take_of_length_le (by rw [HN.out];exact Nat.le_refl _)] at hall
    have e:R=true:=by rw [← HQ.out];exact eD.2 ⟨by rw [HN.out];omega,hall⟩
    subst e
    clear hall
    go_wp2
    go_ret
    exact ⟨rfl,rfl⟩
end Go.Proofs.YtbagenpobcgjnaaGreat
