/-
  LawRpl
-/
import Derived.Test.YtbagenpobcgjnaaGreatJEdrDev5
import Derived.Test.YtbagenpobcgjnaaGreatOpenSta4
namespace Go.Proofs.YtbagenpobcgjnaaGreat
open Go.Proofs.Tryz
set_option maxRecDepth 100000
open Lib (hid)
open Go.RowKit
set_option linter.unusedVariables false
set_option linter.unusedSimpArgs false
def lvR:StaD×Nat×Int:=runR stD0 (opsL [⟨1,0,0,⟨#[97]⟩⟩,⟨5,0,0,⟨#[]⟩⟩])
theorem RC:lvR.2=(2,0):=by decide +kernel
theorem QZ:lvR.1.t=⟨#[]⟩:=by decide +kernel
theorem RB:lvR.1.r.length=1:=by decide +kernel
theorem MQ (l:List (Opr×Int)):∀ s:StaD,InvS s→InvS (runR s l).1:=by
 induction l with
 | nil=>exact fun s h=>h
 | cons x t ih =>
  intro s h
  simp only [runR]
  split
  ·exact ih _ (wB h x)
  ·exact h
theorem JX (s:Sta) (l:List (Opr×Int)):InvS (runS s l).1:=by
 unfold runS
 split
 ·exact MQ l _ ((iQ s).1 (by assumption))
 ·exact zD
set_option maxHeartbeats 1600000 in
theorem iE (w:World):Calls prog 9 #[] w fun e w'=>e=.returned (.bool true)∧Below w.heap.size w w':=by
 obtain ⟨W,hW,kL,aa,ad⟩:=box1 w #[.int .i64 1,.int .i64 0,.int .i64 0,.string ⟨#[97]⟩,.int .i64 5,.int .i64 0,.int .i64 0,.string ⟨#[]⟩] 50
 have hr:Oprs W (·<W.heap.size) (some ⟨w.heap.size,0,none⟩) [⟨1,0,0,⟨#[97]⟩⟩,⟨5,0,0,⟨#[]⟩⟩]:=fun k hk=>by
  have ac:k<2:=hk
  match k,ac with
  | 0,_=>exact ⟨_,rfl,by show w.heap.size<_;omega,kL.cell 0 _ rfl,kL.cell 1 _ rfl,kL.cell 2 _ rfl,kL.cell 3 _ rfl⟩
  | 1,_=>exact ⟨_,rfl,by show w.heap.size<_;omega,kL.cell 4 _ rfl,kL.cell 5 _ rfl,kL.cell 6 _ rfl,kL.cell 7 _ rfl⟩
 have cr:=sB staZ [⟨1,0,0,⟨#[97]⟩⟩,⟨5,0,0,⟨#[]⟩⟩] (some ⟨w.heap.size,0,none⟩) 2 2 [] W (fun i hi=>absurd hi (by simp)) (NL W) QC hr rfl (by omega) (fun x hx=>by
  simp only [List.mem_cons,List.not_mem_nil,or_false] at hx
  rcases hx with rfl|rfl <;> exact ⟨by show i64P 0;unfold i64P;omega,by decide⟩)
 have e:runS staZ (opsL [⟨1,0,0,⟨#[97]⟩⟩,⟨5,0,0,⟨#[]⟩⟩])=lvR:=if_pos DY
 rw [e] at cr
 have CR:=hid (show Calls prog 10 #[.agg #[.string ⟨#[]⟩,.slice none 0 0,.slice none 0 0,.slice none 0 0,.bool false,.slice none 0 0],.slice (some ⟨w.heap.size,0,none⟩) 2 2] W _ from cr);have HW:=hid hW;have ab:=hid aa
 clear cr hW kL aa hr e
 go_enter func9,ntmps9
 go_wp2_with fail
 rw [HW.out]
 refine CR.out.mono ?_;rintro e w2 ⟨s5,he,hd,hs,hb⟩
 rw [RC] at he
 subst he
 have HB:=hid (ab.out.trans (hb.mono ab.out.size))
 have e1:s5.t=⟨#[]⟩:=(congrArg StaD.t hd).trans QZ
 have e3:s5.r.l.length=1:=by rw [← aC];exact (congrArg (fun x=>x.r.length) hd).trans RB
 obtain ⟨t5,m5,⟨ua,ul,uc⟩,⟨ra,rl,rc⟩,o5,g5⟩:=s5
 replace e1:t5=⟨#[]⟩:=e1
 subst e1
 dsimp only at e3
 clear hd hs hb CR
 go_wp2
 go_ret
 exact ⟨by first|rfl|simp [e3],HB.out.alloc HB.out.size _⟩
def few4 (l:List Opr):Bool:=decide (l.length≤40) && l.all fun x=>decide (x.s.size≤600)
theorem jY {l:List Opr}:few4 l=true↔l.length≤40∧∀ x∈l,x.s.size≤600:=by unfold few4;simp
set_option maxHeartbeats 1600000 in
theorem kV (a:Option Addr) (l:List Opr) (c:Nat) (w:World) (hr:Oprs w (·<w.heap.size) a l) (hl:l.length≤maxLen) :
 Calls prog 8 #[.slice a l.length c] w fun e w'=>e=.returned (.bool (few4 l))∧w=w':=by
 obtain ⟨n,hn⟩:∃ n,l.length=n:=⟨_,rfl⟩
 unfold maxLen at hl
 by_cases h1:40<n
 ·have e:few4 l=false:=by unfold few4;rw [decide_eq_false (by omega)];rfl
  have t1:(40:Int)<(n:Int):=by omega
  rw [e,hn]
  clear e hr hl hn
  go_enter func8,ntmps8
  go_wp2
  go_ret
  exact ⟨rfl,rfl⟩
 ·have t1:¬ (40:Int)<(n:Int):=by omega
  obtain ⟨R,hR⟩:∃ R,few4 l=R:=⟨_,rfl⟩
  have HR:=hid hr;have HN:=hid hn;have HQ:=hid hR
  rw [hn,hR]
  clear hr hn hR hl
  go_enter func8,ntmps8
  go_wp2
  go_loopw [3] (fun i wr=>∃ k:Nat,k≤n∧i=.int .i64 k∧(∀ x∈l.take k,x.s.size≤600)∧w=wr) (fun i _=>n - (intOf i).toNat)
  case atStart=>exact ⟨0,Nat.zero_le _,rfl,fun x hx=>absurd hx (by simp),rfl⟩
  case round =>
   obtain ⟨k,hk,rfl,hall,rfl⟩:=hrel
   by_cases hlt:k<n
   ·have hkl:k<l.length:=by rw [HN.out];exact hlt
    obtain ⟨ad,rfl,hab,q0,q1,q2,q3⟩:=HR.out k hkl
    have b0:(0:Int)≤(k:Int):=by omega
    have b1:(k:Int)<(n:Int):=by omega
    obtain ⟨y,hy⟩:∃ y,l[k]=y:=⟨_,rfl⟩
    rw [hy] at q0 q1 q2 q3
    by_cases h6:600<y.s.size
    ·have t2:(600:Int)<(y.s.size:Int):=by omega
     have e:R=false:=by
      rw [← HQ.out]
      cases hf:few4 l
      ·rfl
      ·have:=(jY.1 hf).2 (l[k]) (List.getElem_mem hkl)
       rw [hy] at this
       omega
     subst e
     clear hall hab hy q0 q1 q2
     go_wp2
     go_ret
     exact ⟨rfl,rfl⟩
    ·have t2:¬ (600:Int)<(y.s.size:Int):=by omega
     have HA:=hid (show ∀ x∈l.take (k+1),x.s.size≤600 from fun x hx=>by
      rw [List.take_add_one,List.getElem?_eq_getElem hkl,hy] at hx
      rcases List.mem_append.1 hx with hx|hx
      ·exact hall x hx
      ·have:x=y:=by simpa using hx
       rw [this];omega)
     clear hall hab hy q0 q1 q2
     go_wp2
     go_roundw
     case rel=>exact ⟨k+1,by omega,by go_num,HA.out,by trivial⟩
     case measure=>simp [intOf];omega
   ·obtain rfl:k=n:=by omega
    rw [List.take_of_length_le (by rw [HN.out];exact Nat.le_refl _)] at hall
    have e:R=true:=by rw [← HQ.out];exact jY.2 ⟨by rw [HN.out];omega,hall⟩
    subst e
    clear hall
    go_wp2
    go_ret
    exact ⟨rfl,rfl⟩
set_option maxHeartbeats 3200000 in
theorem oP (s:Sta) (a:Option Addr) (l:List Opr) (c n:Nat) (w:World) (hin:StaIn w s) (hl:StaL s) (hr:Oprs w (·<w.heap.size) a l) (hn:l.length=n) (hm:n≤maxLen) (hfew:s.few=false) :
 Calls prog 3 #[s.v,.slice a n c] w fun e w'=>e=.returned (.bool true)∧Below w.heap.size w w':=by
 unfold maxLen at hm
 obtain ⟨wX,hwX,kS,aa,af⟩:=box1 w #[.string s.t,.slice s.m.a s.m.l.length s.m.c,.slice s.u.a s.u.l.length s.u.c,.slice s.r.a s.r.l.length s.r.c,.bool s.o,.slice s.g.a s.g.l.length s.g.c] 26
 have cf:=lQ s wX (hin.later aa) hl
 have cw:=fun W (hW:Below w.heap.size w W)=>kV a l c W ((hr.below (fun _ h=>h) hW).more fun b h=>Nat.lt_of_lt_of_le h hW.size) (by unfold maxLen;omega)
 rw [hn] at cw
 rw [hfew] at cf
 have CF:=hid cf;have CW:=hid cw;have ab:=hid aa
 obtain ⟨z0,z1,z2,z3,z4,z5,f0,f1,f2,f3,f4,f5⟩:=kS.all6
 clear cf cw kS aa af hin hl hr hn hm
 go_enter func3,ntmps3
 go_wp2_with fail
 refine CF.out.mono ?_;rintro e w1 ⟨rfl,ac⟩
 have ad:=hid (ab.out.trans (ac.mono ab.out.size))
 clear ac
 go_wp2_with fail
 refine (iE _).mono ?_;rintro e w3 ⟨rfl,ae⟩
 have ag:=hid (ad.out.trans (ae.mono ad.out.size))
 clear ae z0 z1 z2 z3 z4 z5 f0 f1 f2 f3 f4 f5 hwX
 go_wp2
 go_ret
 exact ⟨rfl,ag.out⟩
set_option maxHeartbeats 3200000 in
theorem oN (s:Sta) (a:Option Addr) (l:List Opr) (c n:Nat) (w:World) (hin:StaIn w s) (hl:StaL s) (hr:Oprs w (·<w.heap.size) a l) (hn:l.length=n) (hm:n≤maxLen) (hfew:s.few=true) (hw:few4 l=false) :
 Calls prog 3 #[s.v,.slice a n c] w fun e w'=>e=.returned (.bool true)∧Below w.heap.size w w':=by
 unfold maxLen at hm
 obtain ⟨wX,hwX,kS,aa,af⟩:=box1 w #[.string s.t,.slice s.m.a s.m.l.length s.m.c,.slice s.u.a s.u.l.length s.u.c,.slice s.r.a s.r.l.length s.r.c,.bool s.o,.slice s.g.a s.g.l.length s.g.c] 26
 have cf:=lQ s wX (hin.later aa) hl
 have cw:=fun W (hW:Below w.heap.size w W)=>kV a l c W ((hr.below (fun _ h=>h) hW).more fun b h=>Nat.lt_of_lt_of_le h hW.size) (by unfold maxLen;omega)
 rw [hn] at cw
 rw [hfew] at cf
 simp only [hw] at cw
 have CF:=hid cf;have CW:=hid cw;have ac:=hid aa
 obtain ⟨z0,z1,z2,z3,z4,z5,f0,f1,f2,f3,f4,f5⟩:=kS.all6
 clear cf cw kS aa af hin hl hr hn hm
 go_enter func3,ntmps3
 go_wp2_with fail
 refine CF.out.mono ?_;rintro e w1 ⟨rfl,ad⟩
 have ab:=hid (ac.out.trans (ad.mono ac.out.size))
 clear ad
 go_wp2_with fail
 refine (CW.out _ ab.out).mono ?_;rintro e w2 ⟨rfl,rfl⟩
 go_wp2_with fail
 refine (iE _).mono ?_;rintro e w3 ⟨rfl,ae⟩
 have ag:=hid (ab.out.trans (ae.mono ab.out.size))
 clear ae z0 z1 z2 z3 z4 z5 f0 f1 f2 f3 f4 f5 hwX
 go_wp2
 go_ret
 exact ⟨rfl,ag.out⟩
set_option maxHeartbeats 3200000 in
theorem sU (s:Sta) (a:Option Addr) (l:List Opr) (c n:Nat) (w:World) (hin:StaIn w s) (hl:StaL s) (hr:Oprs w (·<w.heap.size) a l) (hn:l.length=n) (hz:StaZ s) (hfew:s.few=true) (hf:∀ x∈l,x.fits) (hw:few4 l=true) :
 Calls prog 3 #[s.v,.slice a n c] w fun e w'=>e=.returned (.bool true)∧Below w.heap.size w w':=by
 have h40:=(jY.1 hw).1
 rw [hn] at h40
 obtain ⟨wX,hwX,kS,af,a6⟩:=box1 w #[.string s.t,.slice s.m.a s.m.l.length s.m.c,.slice s.u.a s.u.l.length s.u.c,.slice s.r.a s.r.l.length s.r.c,.bool s.o,.slice s.g.a s.g.l.length s.g.c] 26
 have cf:=lQ s wX (hin.later af) hl
 have cw:=fun W (hW:Below w.heap.size w W)=>kV a l c W ((hr.below (fun _ h=>h) hW).more fun b h=>Nat.lt_of_lt_of_le h hW.size) (by unfold maxLen;omega)
 rw [hn] at cw
 rw [hfew] at cf
 simp only [hw] at cw
 have hfit:∀ x∈l,i64P x.a∧x.s.size≤1000000:=fun x hx=>⟨KW (hf x hx),Nat.le_trans ((jY.1 hw).2 x hx) (by decide)⟩
 have cp:=fun V (hV:Below w.heap.size w V)=>sB s l a c n [] V (fun i hi=>absurd hi (by simp)) (hin.later hV) hz ((hr.below (fun _ h=>h) hV).more fun b h=>Nat.lt_of_lt_of_le h hV.size) hn (by omega) hfit
 have cd:=fun V (hV:Below w.heap.size w V)=>BZ s l a c n [] V (fun i hi=>absurd hi (by simp)) (hin.later hV).bare hz ((hr.below (fun _ h=>h) hV).more fun b h=>Nat.lt_of_lt_of_le h hV.size) hn (by omega) hfit
 have hinv:=JX s (opsL l)
 generalize runS s (opsL l)=R at cp cd hinv
 obtain ⟨rd,rn,re⟩:=R
 have CF:=hid cf;have CW:=hid cw;have an:=hid af;have CP:=hid cp;have CD:=hid cd;have KS:=hid kS;have ag:=hid (show InvS rd from hinv)
 obtain ⟨z0,z1,z2,z3,z4,z5,f0,f1,f2,f3,f4,f5⟩:=kS.all6
 clear cf cw cp cd kS af a6 hin hl hr hn hz hfew hw hf hfit hinv h40
 go_enter func3,ntmps3
 go_wp2_with fail
 refine CF.out.mono ?_;rintro e w1 ⟨rfl,ah⟩
 have ab:=hid ah
 have ac:=hid (an.out.trans (ah.mono an.out.size))
 clear ah z0 z1 z2 z3 z4 z5 f0 f1 f2 f3 f4 f5 hwX
 go_wp2_with fail
 refine (CW.out _ ac.out).mono ?_;rintro e w2 ⟨rfl,rfl⟩
 obtain ⟨z0,z1,z2,z3,z4,z5,-,-,-,-,-,-⟩:=(KS.out.onto ab.out).all6
 go_wp2_with fail
 refine (CP.out _ ac.out).mono ?_;rintro e w3 ⟨⟨t3,⟨ma3,ml3,mc3⟩,⟨ua3,ul3,uc3⟩,⟨ra3,rl3,rc3⟩,so3,⟨ga3,gl3,gc3⟩⟩,rfl,ao,aq,aa⟩
 obtain ⟨W3,ar,k3,ad,a9⟩:=box1 w3 #[.string t3,.slice ma3 ml3.length mc3,.slice ua3 ul3.length uc3,.slice ra3 rl3.length rc3,.bool so3,.slice ga3 gl3.length gc3] 26
 have au:=hid (ab.out.trans ((aa.trans (ad.mono aa.size)).mono ab.out.size));have av:=hid (aq.in.later ad);have K3:=hid k3;have aw:=hid ao;have ax:=hid ar
 have ai:=hid (ac.out.trans ((aa.trans (ad.mono aa.size)).mono ac.out.size))
 clear ao aq aa ar k3 ad z0 z1 z2 z3 z4 z5
 obtain ⟨z0,z1,z2,z3,z4,z5,-,-,-,-,-,-⟩:=(KS.out.onto au.out).all6
 rw [← ax.out] at z0 z1 z2 z3 z4 z5
 go_wp2_with fail
 rw [ax.out]
 refine (CD.out _ ai.out).mono ?_;rintro e w5 ⟨⟨t4,⟨ma4,ml4,mc4⟩,⟨ua4,ul4,uc4⟩,⟨ra4,rl4,rc4⟩,so4,⟨ga4,gl4,gc4⟩⟩,rfl,aj,ay,ak⟩
 obtain ⟨W5,al,k4,am,ba⟩:=box1 w5 #[.string t4,.slice ma4 ml4.length mc4,.slice ua4 ul4.length uc4,.slice ra4 rl4.length rc4,.bool so4,.slice ga4 gl4.length gc4] 26
 have ae:=ak.trans (am.mono ak.size)
 have az:=ai.out.trans (ae.mono ai.out.size)
 have a0:=av.out.later ae
 have a1:=ay.in.later am
 have hde:Sta.d ⟨t3,⟨ma3,ml3,mc3⟩,⟨ua3,ul3,uc3⟩,⟨ra3,rl3,rc3⟩,so3,⟨ga3,gl3,gc3⟩⟩=Sta.d ⟨t4,⟨ma4,ml4,mc4⟩,⟨ua4,ul4,uc4⟩,⟨ra4,rl4,rc4⟩,so4,⟨ga4,gl4,gc4⟩⟩:=aw.out.trans aj.symm
 have cs:=yQ ⟨t3,⟨ma3,ml3,mc3⟩,⟨ua3,ul3,uc3⟩,⟨ra3,rl3,rc3⟩,so3,⟨ga3,gl3,gc3⟩⟩ ⟨t4,⟨ma4,ml4,mc4⟩,⟨ua4,ul4,uc4⟩,⟨ra4,rl4,rc4⟩,so4,⟨ga4,gl4,gc4⟩⟩ W5 a0 a1 (show InvS (Sta.d ⟨t3,⟨ma3,ml3,mc3⟩,⟨ua3,ul3,uc3⟩,⟨ra3,rl3,rc3⟩,so3,⟨ga3,gl3,gc3⟩⟩) by rw [aw.out];exact ag.out).few (show InvS (Sta.d ⟨t4,⟨ma4,ml4,mc4⟩,⟨ua4,ul4,uc4⟩,⟨ra4,rl4,rc4⟩,so4,⟨ga4,gl4,gc4⟩⟩) by rw [aj];exact ag.out).few
 rw [hde,DH] at cs
 have CS:=hid cs;have a2:=hid az;have a7:=hid al
 obtain ⟨x0,x1,x2,x3,x4,x5,-,-,-,-,-,-⟩:=(K3.out.onto ae).all6
 obtain ⟨y0,y1,y2,y3,y4,y5,-,-,-,-,-,-⟩:=k4.all6
 rw [← al] at x0 x1 x2 x3 x4 x5 y0 y1 y2 y3 y4 y5
 clear aj ay ak al k4 am ae az a0 a1 hde cs z0 z1 z2 z3 z4 z5 av au ab
 go_wp2_with fail
 rw [a7.out]
 refine CS.out.mono ?_;rintro e w6 ⟨rfl,a3⟩
 have a4:=hid (a2.out.trans (a3.mono a2.out.size))
 clear a3 x0 x1 x2 x3 x4 x5 y0 y1 y2 y3 y4 y5
 go_wp2_with fail
 refine (iE _).mono ?_;rintro e w7 ⟨rfl,a5⟩
 have a8:=hid (a4.out.trans (a5.mono a4.out.size))
 clear a5
 go_wp2
 go_ret
 exact ⟨by first|rfl|simp,a8.out⟩
theorem replayRuns_walk (s:Sta) (a:Option Addr) (l:List Opr) (c:Nat) (w:World) (hin:StaIn w s) (hl:StaL s) (he:StaE s) (hr:Oprs w (·<w.heap.size) a l) (hf:∀ x∈l,x.fits) (hm:l.length≤maxLen) :
 Calls prog 3 #[s.v,.slice a l.length c] w fun e w'=>e=.returned (.bool true)∧Below w.heap.size w w':=by
 cases hs:s.few
 ·exact oP s a l c _ w hin hl hr rfl hm hs
 cases ho:few4 l
 ·exact oN s a l c _ w hin hl hr rfl hm hs ho
 exact sU s a l c _ w hin hl hr rfl (PP he hs) hs hf ho
end Go.Proofs.YtbagenpobcgjnaaGreat
