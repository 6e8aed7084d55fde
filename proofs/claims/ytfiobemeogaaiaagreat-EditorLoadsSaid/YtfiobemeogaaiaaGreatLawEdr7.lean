/-
  LawEdr7
-/
import Derived.Test.YtfiobemeogaaiaaGreatJSq
import Derived.Test.YtfiobemeogaaiaaGreatJEdrDev5
import Derived.Test.YtfiobemeogaaiaaGreatOpenSta4
namespace Go.Proofs.YtfiobemeogaaiaaGreat
open Go.Proofs.Tryz
open Lib (hid)
open Go.RowKit
set_option linter.unusedVariables false
set_option linter.unusedSimpArgs false
set_option maxRecDepth 100000 in
set_option maxHeartbeats 3200000 in
theorem oD (s:Sta) (a:Option Addr) (l:List Opr) (c n:Nat) (w:World) (hin:StaIn w s) (hl:StaL s) (hr:Oprs w (·<w.heap.size) a l) (hn:l.length=n) (hm:n≤maxLen) (hfew:s.few=false) :
 Calls prog 4 #[s.v,.slice a n c] w fun e w'=>e=.returned (.bool true)∧Below w.heap.size w w':=by
 unfold maxLen at hm
 obtain ⟨wX,hwX,kS,aa,af⟩:=box1 w s.cells 31
 have cf:=eZ s wX (hin.later aa) hl
 have cw:=fun W (hW:Below w.heap.size w W)=>fE a l c W ((hr.below (fun _ h=>h) hW).more fun b h=>Nat.lt_of_lt_of_le h hW.size) (by unfold maxLen;omega)
 rw [hn] at cw
 rw [hfew] at cf
 have CF:=hid cf;have CW:=hid cw;have ab:=hid aa
 obtain ⟨z0,z1,z2,z3,z4,z5,f0,f1,f2,f3,f4,f5⟩:=kS.all6
 clear cf cw kS aa af hin hl hr hn hm
 go_enter func4,ntmps4
 go_wp2_with fail
 refine CF.out.mono ?_;rintro e w1 ⟨rfl,ac⟩
 have ad:=hid (ab.out.trans (ac.mono ab.out.size))
 clear ac
 go_wp2_with fail
 refine (dN _).mono ?_;rintro e w3 ⟨rfl,ae⟩
 have ag:=hid (ad.out.trans (ae.mono ad.out.size))
 clear ae z0 z1 z2 z3 z4 z5 f0 f1 f2 f3 f4 f5 hwX
 go_wp2
 go_ret
 exact ⟨rfl,ag.out⟩
set_option maxRecDepth 100000 in
set_option maxHeartbeats 3200000 in
theorem nJ (s:Sta) (a:Option Addr) (l:List Opr) (c n:Nat) (w:World) (hin:StaIn w s) (hl:StaL s) (hr:Oprs w (·<w.heap.size) a l) (hn:l.length=n) (hm:n≤maxLen) (hfew:s.few=true) (hw:fewO l=false) :
 Calls prog 4 #[s.v,.slice a n c] w fun e w'=>e=.returned (.bool true)∧Below w.heap.size w w':=by
 unfold maxLen at hm
 obtain ⟨wX,hwX,kS,aa,af⟩:=box1 w s.cells 31
 have cf:=eZ s wX (hin.later aa) hl
 have cw:=fun W (hW:Below w.heap.size w W)=>fE a l c W ((hr.below (fun _ h=>h) hW).more fun b h=>Nat.lt_of_lt_of_le h hW.size) (by unfold maxLen;omega)
 rw [hn] at cw
 rw [hfew] at cf
 simp only [hw] at cw
 have CF:=hid cf;have CW:=hid cw;have ac:=hid aa
 obtain ⟨z0,z1,z2,z3,z4,z5,f0,f1,f2,f3,f4,f5⟩:=kS.all6
 clear cf cw kS aa af hin hl hr hn hm
 go_enter func4,ntmps4
 go_wp2_with fail
 refine CF.out.mono ?_;rintro e w1 ⟨rfl,ad⟩
 have ab:=hid (ac.out.trans (ad.mono ac.out.size))
 clear ad
 go_wp2_with fail
 refine (CW.out _ ab.out).mono ?_;rintro e w2 ⟨rfl,rfl⟩
 go_wp2_with fail
 refine (dN _).mono ?_;rintro e w3 ⟨rfl,ae⟩
 have ag:=hid (ab.out.trans (ae.mono ab.out.size))
 clear ae z0 z1 z2 z3 z4 z5 f0 f1 f2 f3 f4 f5 hwX
 go_wp2
 go_ret
 exact ⟨rfl,ag.out⟩
set_option maxRecDepth 100000 in
set_option maxHeartbeats 3200000 in
theorem oC (s:Sta) (a:Option Addr) (l:List Opr) (c n:Nat) (w:World) (hin:StaIn w s) (hl:StaL s) (hr:Oprs w (·<w.heap.size) a l) (hn:l.length=n) (hm:n≤maxLen) (hfew:s.few=true) (hw:fewO l=true) (h20:20<n) :
 Calls prog 4 #[s.v,.slice a n c] w fun e w'=>e=.returned (.bool true)∧Below w.heap.size w w':=by
 unfold maxLen at hm
 obtain ⟨wX,hwX,kS,aa,af⟩:=box1 w s.cells 31
 have cf:=eZ s wX (hin.later aa) hl
 have cw:=fun W (hW:Below w.heap.size w W)=>fE a l c W ((hr.below (fun _ h=>h) hW).more fun b h=>Nat.lt_of_lt_of_le h hW.size) (by unfold maxLen;omega)
 rw [hn] at cw
 rw [hfew] at cf
 simp only [hw] at cw
 have g20:(20:Int)<(n:Int):=by omega
 clear h20
 have CF:=hid cf;have CW:=hid cw;have ac:=hid aa
 obtain ⟨z0,z1,z2,z3,z4,z5,f0,f1,f2,f3,f4,f5⟩:=kS.all6
 clear cf cw kS aa af hin hl hr hn hm
 go_enter func4,ntmps4
 go_wp2_with fail
 refine CF.out.mono ?_;rintro e w1 ⟨rfl,ad⟩
 have ab:=hid (ac.out.trans (ad.mono ac.out.size))
 clear ad
 go_wp2_with fail
 refine (CW.out _ ab.out).mono ?_;rintro e w2 ⟨rfl,rfl⟩
 go_wp2_with fail
 refine (dN _).mono ?_;rintro e w3 ⟨rfl,ae⟩
 have ag:=hid (ab.out.trans (ae.mono ab.out.size))
 clear ae z0 z1 z2 z3 z4 z5 f0 f1 f2 f3 f4 f5 hwX
 go_wp2
 go_ret
 exact ⟨rfl,ag.out⟩
set_option maxRecDepth 100000 in
set_option maxHeartbeats 3200000 in
theorem oY (s:Sta) (a:Option Addr) (l:List Opr) (c n:Nat) (w:World) (hin:StaIn w s) (hl:StaL s) (hr:Oprs w (·<w.heap.size) a l) (hn:l.length=n) (hz:StaZ s) (hfew:s.few=true) (hw:fewO l=true) (h20:n≤20) (hri:rightP s=false) :
 Calls prog 4 #[s.v,.slice a n c] w fun e w'=>e=.returned (.bool true)∧Below w.heap.size w w':=by
 obtain ⟨wX,hwX,kS,aa,ak⟩:=box1 w s.cells 31
 have cf:=eZ s wX (hin.later aa) hl
 have cw:=fun W (hW:Below w.heap.size w W)=>fE a l c W ((hr.below (fun _ h=>h) hW).more fun b h=>Nat.lt_of_lt_of_le h hW.size) (by unfold maxLen;omega)
 rw [hn] at cw
 rw [hfew] at cf
 simp only [hw] at cw
 have cl:=fun W (hW:Below wX.heap.size wX W)=>DG s W (hin.later (aa.trans (hW.mono aa.size))) hz hri
 have cr:=fun W (hW:Below wX.heap.size wX W)=>kZ s W (hin.later (aa.trans (hW.mono aa.size))) hz
 simp only [hri] at cr
 have g20:¬ (20:Int)<(n:Int):=by omega
 have CF:=hid cf;have CW:=hid cw;have CL:=hid cl;have CR:=hid cr;have af:=hid kS;have ab:=hid aa
 obtain ⟨z0,z1,z2,z3,z4,z5,f0,f1,f2,f3,f4,f5⟩:=kS.all6
 clear cf cw cl cr kS aa ak hin hl hr hn hz hfew hw hri h20
 go_enter func4,ntmps4
 go_wp2_with fail
 refine CF.out.mono ?_;rintro e w1 ⟨rfl,ac⟩
 have al:=hid (ab.out.trans (ac.mono ab.out.size));have ae:=hid ac
 clear z0 z1 z2 z3 z4 z5 f0 f1 f2 f3 f4 f5 hwX
 obtain ⟨z0,z1,z2,z3,z4,z5,f0,f1,f2,f3,f4,f5⟩:=(af.out.onto ac).all6
 clear ac
 go_wp2_with fail
 refine (CW.out _ al.out).mono ?_;rintro e w2 ⟨rfl,rfl⟩
 go_wp2_with fail
 refine (CL.out _ ae.out).mono ?_;rintro e w2 ⟨rfl,ag⟩
 have ad:=hid (ae.out.trans (ag.mono ae.out.size))
 clear ag z0 z1 z2 z3 z4 z5 f0 f1 f2 f3 f4 f5
 obtain ⟨z0,z1,z2,z3,z4,z5,f0,f1,f2,f3,f4,f5⟩:=(af.out.onto ad.out).all6
 go_wp2_with fail
 refine (CR.out _ ad.out).mono ?_;rintro e w4 ⟨rfl,ah⟩
 have ai:=hid (ad.out.trans (ah.mono ad.out.size))
 clear ah z0 z1 z2 z3 z4 z5 f0 f1 f2 f3 f4 f5
 go_wp2_with fail
 refine (dN _).mono ?_;rintro e w5 ⟨rfl,aj⟩
 have am:=hid (ai.out.trans (aj.mono ai.out.size))
 clear aj
 go_wp2
 go_ret
 exact ⟨rfl,ab.out.trans (am.out.mono ab.out.size)⟩
set_option maxRecDepth 100000 in
set_option maxHeartbeats 3200000 in
theorem pS (s:Sta) (a:Option Addr) (l:List Opr) (c n:Nat) (w:World) (hin:StaIn w s) (hl:StaL s) (hr:Oprs w (·<w.heap.size) a l) (hn:l.length=n) (hz:StaZ s) (hfew:s.few=true) (hf:∀ x∈l,x.fits) (hw:fewO l=true) (h20:n≤20) (hri:rightP s=true) :
 Calls prog 4 #[s.v,.slice a n c] w fun e w'=>e=.returned (.bool true)∧Below w.heap.size w w':=by
 obtain ⟨wX,hwX,kS,ag,bl⟩:=box1 w s.cells 31
 have cf:=eZ s wX (hin.later ag) hl
 have cw:=fun W (hW:Below w.heap.size w W)=>fE a l c W ((hr.below (fun _ h=>h) hW).more fun b h=>Nat.lt_of_lt_of_le h hW.size) (by unfold maxLen;omega)
 rw [hn] at cw
 rw [hfew] at cf
 simp only [hw] at cw
 have hbsl:w.heap.size<wX.heap.size:=by omega
 have cl:=fun W (hW:Below wX.heap.size wX W)=>mS (T:=[w.heap.size]) s W (fun i hi=>by rw [List.mem_singleton.1 hi];have:=hW.size;omega) (hin.later (ag.trans (hW.mono ag.size))) hz hri
 have cr:=fun W (hW:Below wX.heap.size wX W)=>kZ s W (hin.later (ag.trans (hW.mono ag.size))) hz
 simp only [hri] at cr
 have g20:¬ (20:Int)<(n:Int):=by omega
 have hsw:=fun (S':List Nat) (hS:∀ i∈S',w.heap.size≤i) W (hW:Below w.heap.size w W)=>(hin.bare.wide (S':=S') (fun i hi=>.inr (hS i hi))).later hW
 have CF:=hid cf;have CW:=hid cw;have CL:=hid cl;have CR:=hid cr;have bm:=hid kS;have aj:=hid ag;have HR:=hid hr;have HF:=hid hf;have HN:=hid hn;have HW:=hid (nS.1 hw).2;have bn:=hid hsw;have bk:=hid (Nat.le_refl w.heap.size);have bo:=hid hbsl
 obtain ⟨z0,z1,z2,z3,z4,z5,f0,f1,f2,f3,f4,f5⟩:=kS.all6
 clear cf cw cl cr kS ag bl hin hl hr hn hz hfew hf hw hri hsw hbsl
 go_enter func4,ntmps4
 go_wp2_with fail
 refine CF.out.mono ?_;rintro e w1 ⟨rfl,a1⟩
 have a9:=hid (bm.out.onto a1);have ai:=hid a1
 clear z0 z1 z2 z3 z4 z5 f0 f1 f2 f3 f4 f5 hwX
 obtain ⟨z0,z1,z2,z3,z4,z5,f0,f1,f2,f3,f4,f5⟩:=a9.out.all6
 clear a1
 go_wp2_with fail
 refine (CW.out _ (aj.out.trans (ai.out.mono aj.out.size))).mono ?_;rintro e w2 ⟨rfl,rfl⟩
 go_wp2_with fail
 refine (CL.out _ ai.out).mono ?_;rintro e w2 ⟨b,s1,rb,p,L,rfl,hi,hd,hbl,a2⟩
 have a3:=hid (ai.out.trans (a2.mono ai.out.size));have ax:=hid (a9.out.onto a2);have a4:=hid hi;have a5:=hid hd
 have ba:=hid (Nat.le_trans aj.out.size (Nat.le_trans ai.out.size hbl))
 have hne:b≠w.heap.size:=by have h1:=ai.out.size;have h2:=bo.out;omega
 have bb:=hid hne
 clear a2 hi hd hbl hne z0 z1 z2 z3 z4 z5 f0 f1 f2 f3 f4 f5
 obtain ⟨z0,z1,z2,z3,z4,z5,f0,f1,f2,f3,f4,f5⟩:=ax.out.all6
 go_wp2_with fail
 refine (CR.out _ a3.out).mono ?_;rintro e w4 ⟨rfl,aa⟩
 have hi:=a4.out.later aa
 have hkb:=ax.out.onto aa
 have hy:=aj.out.trans ((a3.out.trans (aa.mono a3.out.size)).mono aj.out.size)
 have hsb:=bn.out [b,w.heap.size] (fun i hi=>by simp only [List.mem_cons,List.not_mem_nil,or_false] at hi;rcases hi with rfl|rfl;exact ba.out;exact Nat.le_refl _) _ hy
 have hd:s.d=s1.d:=a5.out.symm
 have ak:=hid (fun W (hW:Below w4.heap.size w4 W)=>(hi.later hW).state [] (fun i hi=>absurd hi (by simp)))
 have CQ:=hid (fun (s5:Sta) (ac:s5.d=s1.d) W (hs:StaO [] W s5) (hW:Below w4.heap.size w4 W)=>(by
  have h1:=mZ s5 s W hs.in (hsb.later hW).in (hi.inv.of_d ac).few (show InvS (Sta.d s) by rw [hd];exact hi.inv).few
  rw [show s5.d=_ from ac.trans hd.symm,pB] at h1
  exact h1:Calls prog 16 #[s5.v,.agg #[.string s.t,.slice s.m.a s.m.l.length s.m.c,.slice s.u.a s.u.l.length s.u.c,.slice s.r.a s.r.l.length s.r.c,.bool s.o,.slice s.g.a s.g.l.length s.g.c]] W (RetB true W)))
 have FS:=hid (fun W (hW:Below w4.heap.size w4 W)=>(⟨(hkb.onto hW).cell 0 _ rfl,(hkb.onto hW).cell 1 _ rfl,(hkb.onto hW).cell 2 _ rfl,(hkb.onto hW).cell 3 _ rfl,(hkb.onto hW).cell 4 _ rfl,(hkb.onto hW).cell 5 _ rfl⟩:(fun W:World=>W.cell? ⟨w.heap.size,0,none⟩=some (.string s.t)∧W.cell? ⟨w.heap.size,1,none⟩=some (.slice s.m.a s.m.l.length s.m.c)∧W.cell? ⟨w.heap.size,2,none⟩=some (.slice s.u.a s.u.l.length s.u.c)∧W.cell? ⟨w.heap.size,3,none⟩=some (.slice s.r.a s.r.l.length s.r.c)∧W.cell? ⟨w.heap.size,4,none⟩=some (.bool s.o)∧W.cell? ⟨w.heap.size,5,none⟩=some (.slice s.g.a s.g.l.length s.g.c)) W))
 have HI:=hid hi;have KS:=hid hkb;have bc:=hid hsb;have HD:=hid hd;have HY:=hid hy
 clear aa hi hkb hy hsb hd z0 z1 z2 z3 z4 z5 f0 f1 f2 f3 f4 f5
 go_wp2_with fail
 refine wp_region_held_drew (S:=(fun W:World=>W.cell? ⟨w.heap.size,0,none⟩=some (.string s.t)∧W.cell? ⟨w.heap.size,1,none⟩=some (.slice s.m.a s.m.l.length s.m.c)∧W.cell? ⟨w.heap.size,2,none⟩=some (.slice s.u.a s.u.l.length s.u.c)∧W.cell? ⟨w.heap.size,3,none⟩=some (.slice s.r.a s.r.l.length s.r.c)∧W.cell? ⟨w.heap.size,4,none⟩=some (.bool s.o)∧W.cell? ⟨w.heap.size,5,none⟩=some (.slice s.g.a s.g.l.length s.g.c))) (by kernel_rfl) (FS.out _ (Below.refl _ _).drew) (fun hHeld=>?_)
 refine sqt 0 ?_
 refine sqt 1 ?_
 refine sqt 2 ?_
 refine sqt 3 ?_
 refine sqt 5 ?_
 refine sqr 4 fun K hK=>?_
 go_simp
 (go_at_call 17;refine (ak.out _ (Below.refl _ _).drew).mono ?_;rintro e v5 ⟨s5,rfl,ac,al,am⟩;have ah:=(Below.refl w4.heap.size w4).drew.trans am;have an:=hid (CQ.out s5 ac v5 al ah);have af:=hid ah;clear ac al am ah CQ ak)
 try go_wp2_with fail
 refine hK.out _ _ ?_ (fun hHeld=>?_)
 ·exact FS.out _ af.out
 clear hK K
 try simp only [Act.put,sqp]
 refine sqr 6 fun K hK=>?_
 go_simp
 (go_at_call 16;refine an.out.mono ?_;rintro e v6 ⟨rfl,ao⟩;have ae:=hid (af.out.trans (ao.mono af.out.size));clear ao an)
 try go_wp2_with fail
 refine hK.out _ _ ?_ (fun hHeld=>?_)
 ·exact FS.out _ ae.out
 clear hK K
 try simp only [Act.put,sqp]
 refine sqt 7 ?_
 refine sqt 8 ?_
 refine wpAnyH_done (by kernel_rfl) ?_ _
 have bp:=hid (HI.out.later ae.out);have bq:=hid (KS.out.onto ae.out);have br:=hid (bc.out.later ae.out);have bs:=hid (HY.out.trans (ae.out.mono HY.out.size))
 clear HI KS bc HY af ae FS
 go_wp2
 go_loopw [7] (fun i wr=>∃ (k:Nat) (s:Sta) (rb:Nat) (p:Option Addr) (L:List ByteArray) (S:Sta),k≤n∧i=.int .i64 k∧IsEd [w.heap.size] wr b s rb p L∧Blk wr w.heap.size S.cells 31∧StaO [b,w.heap.size] wr S∧S.d=s.d∧Below w.heap.size w wr) (fun i _=>n - (intOf i).toNat)
 case atStart=>exact ⟨0,s1,rb,p,L,s,Nat.zero_le _,rfl,bp.out,bq.out,br.out,HD.out,bs.out⟩
 case round =>
  obtain ⟨k,s,rb,p,L,S,hk,rfl,hi,hkb,hsb,hd,hbel⟩:=hrel
  have b0:(0:Int)≤(k:Int):=by omega
  by_cases hlt:k<n
  ·have hkl:k<l.length:=by rw [HN.out];exact hlt
   have fx:=HF.out (l[k]) (List.getElem_mem hkl)
   have sx:=HW.out (l[k]) (List.getElem_mem hkl)
   have b1:(k:Int)<(n:Int):=by omega
   obtain ⟨ad,rfl,-⟩:=GC HR.out hbel hkl
   have hq:∀ W,Below w.heap.size w W→W.cell? (ad.add (k * 4))=some (.int .i64 l[k].k)∧W.cell? ⟨(ad.add (k * 4)).block,(ad.add (k * 4)).off+1,none⟩=some (.int .i64 l[k].a)∧W.cell? ⟨(ad.add (k * 4)).block,(ad.add (k * 4)).off+2,none⟩=some (.int .i64 l[k].n)∧W.cell? ⟨(ad.add (k * 4)).block,(ad.add (k * 4)).off+3,none⟩=some (.string l[k].s):=fun W hW=>by
    obtain ⟨ad',e,q⟩:=GC HR.out hW hkl
    injection e with e
    rw [e]
    exact q
   have hblt:=hi.lt
   have hslt:w.heap.size<wr.heap.size:=hi.tlt w.heap.size (by simp)
   have hinv:InvS S.d:=by rw [hd];exact hi.inv
   have cdo:=fun W (S':List Nat) (hW:Below wr.heap.size wr W) (hS:∀ i∈S',i∈[b,w.heap.size]∨wr.heap.size≤i) (hI:InS S' W)=>IR S S' W ((hsb.wide hS).later hW) hI hinv (l[k]).k (l[k]).a (l[k]).n (l[k]).s (wH fx) (by omega)
   have cd:=fun W (hI:IsEd [w.heap.size] W b s rb p L)=>gZ hI (l[k]).k (l[k]).a (l[k]).n (l[k]).s (wH fx) (by omega)
   obtain ⟨x,hx⟩:∃ x,l[k]=x:=⟨_,rfl⟩
   rw [hd] at cdo
   simp only [hx] at hq cdo cd
   obtain ⟨xk,xa,xn,xs⟩:=x
   obtain ⟨R,hR⟩:∃ R,doD s.d xk xa xn xs=R:=⟨_,rfl⟩
   simp only [hR] at hq cdo cd
   obtain ⟨Rs,Re⟩:=R
   obtain ⟨t2,⟨ma2,ml2,mc2⟩,⟨ua2,ul2,uc2⟩,⟨ra2,rl2,rc2⟩,so2,⟨ga2,gl2,gc2⟩⟩:=S
   have HI:=hid hi;have KS:=hid hkb;have HQ:=hid hq;have aw:=hid hbel;have ay:=hid cdo;have bd:=hid cd;have az:=hid (And.intro hblt hslt)
   have FS:=hid (fun W (hW:Below wr.heap.size wr W)=>(⟨⟨(hkb.onto hW).cell 0 _ rfl,(hkb.onto hW).cell 1 _ rfl,(hkb.onto hW).cell 2 _ rfl,(hkb.onto hW).cell 3 _ rfl,(hkb.onto hW).cell 4 _ rfl,(hkb.onto hW).cell 5 _ rfl⟩,hq W (hbel.trans (hW.mono hbel.size))⟩:(fun W:World=>(W.cell? ⟨w.heap.size,0,none⟩=some (.string t2)∧W.cell? ⟨w.heap.size,1,none⟩=some (.slice ma2 ml2.length mc2)∧W.cell? ⟨w.heap.size,2,none⟩=some (.slice ua2 ul2.length uc2)∧W.cell? ⟨w.heap.size,3,none⟩=some (.slice ra2 rl2.length rc2)∧W.cell? ⟨w.heap.size,4,none⟩=some (.bool so2)∧W.cell? ⟨w.heap.size,5,none⟩=some (.slice ga2 gl2.length gc2))∧(W.cell? (ad.add (k * 4))=some (.int .i64 xk)∧W.cell? ⟨(ad.add (k * 4)).block,(ad.add (k * 4)).off+1,none⟩=some (.int .i64 xa)∧W.cell? ⟨(ad.add (k * 4)).block,(ad.add (k * 4)).off+2,none⟩=some (.int .i64 xn)∧W.cell? ⟨(ad.add (k * 4)).block,(ad.add (k * 4)).off+3,none⟩=some (.string xs))) W))
   clear hi hkb hsb hd hbel hq cdo cd fx sx hx hR hinv hblt hslt
   go_wp2_with fail
   refine wp_region_held_drew (S:=(fun W:World=>(W.cell? ⟨w.heap.size,0,none⟩=some (.string t2)∧W.cell? ⟨w.heap.size,1,none⟩=some (.slice ma2 ml2.length mc2)∧W.cell? ⟨w.heap.size,2,none⟩=some (.slice ua2 ul2.length uc2)∧W.cell? ⟨w.heap.size,3,none⟩=some (.slice ra2 rl2.length rc2)∧W.cell? ⟨w.heap.size,4,none⟩=some (.bool so2)∧W.cell? ⟨w.heap.size,5,none⟩=some (.slice ga2 gl2.length gc2))∧(W.cell? (ad.add (k * 4))=some (.int .i64 xk)∧W.cell? ⟨(ad.add (k * 4)).block,(ad.add (k * 4)).off+1,none⟩=some (.int .i64 xa)∧W.cell? ⟨(ad.add (k * 4)).block,(ad.add (k * 4)).off+2,none⟩=some (.int .i64 xn)∧W.cell? ⟨(ad.add (k * 4)).block,(ad.add (k * 4)).off+3,none⟩=some (.string xs)))) (by kernel_rfl) (FS.out _ (Below.refl _ _).drew) (fun hHeld=>?_)
   refine sqt 0 ?_
   refine sqt 1 ?_
   refine sqt 2 ?_
   refine sqt 3 ?_
   refine sqt 4 ?_
   refine wpAnyH_ready (rs:=[5,9]) (by kernel_rfl) (by simp) ?_
   refine AllReadyH.cons (by simp only [sqg];rfl) (fun K hK=>?ga) (AllReadyH.cons (by simp only [sqg];rfl) (fun K hK=>?gb) AllReadyH.nil)
   case' gb =>
    go_simp
    skip
    try go_wp2_with fail
    refine hK.out _ _ ?_ (fun hHeld=>?_)
    ·exact FS.out _ ((Below.refl _ _).drew.alloc (Nat.le_refl _) _)
    clear hK K
    try simp only [Act.put,sqp]
    refine sqr 5 fun K hK=>?_
    go_simp
    (go_at_call 11;refine (ay.out _ [b,w.heap.size,wr.heap.size] ((Below.refl _ _).drew.alloc (Nat.le_refl _) _) (fun i hi=>by simp only [List.mem_cons,List.not_mem_nil,or_false] at hi ⊢;rcases hi with h|h|h;exact .inl (.inl h);exact .inl (.inr h);exact .inr (Nat.le_of_eq h.symm)) (OY az.out.1 az.out.2)).mono ?_;rintro e w1 ⟨⟨t3,⟨ma3,ml3,mc3⟩,⟨ua3,ul3,uc3⟩,⟨ra3,rl3,rc3⟩,so3,⟨ga3,gl3,gc3⟩⟩,rfl,aq,ar,aa⟩;have au:=((Below.refl wr.heap.size wr).drew.alloc (Nat.le_refl _) _).trans (aa.mono (by simp));have a6:=hid (show Blk w1 wr.heap.size staZ.cells 31 from (Blk.new wr.drew staZ.cells 31).onto aa);have ab:=hid au;have av:=hid ar;have be:=hid aq;clear aa au ar aq ay)
    try go_wp2_with fail
    refine hK.out _ _ ?_ (fun hHeld=>?_)
    ·exact FS.out _ ab.out
    clear hK K
    try simp only [Act.put,sqp]
    refine sqt 6 ?_
    refine sqt 7 ?_
    refine sqt 8 ?_
    have kt:Blk w1 wr.heap.size staZ.cells 31:=a6.out
    obtain ⟨y0,y1,y2,y3,y4,y5,g0,g1,g2,g3,g4,g5⟩:=kt.all6
    refine sqr 10 fun K hK=>?_
    go_simp
    skip
    try go_wp2_with fail
    refine hK.out _ _ ?_ (fun hHeld=>?_)
    ·exact FS.out _ (by (iterate 6 refine Below.setCell ?_ (by show wr.heap.size≤wr.heap.size;exact Nat.le_refl _) _);exact ab.out)
    clear hK K
    try simp only [Act.put,sqp]
    refine sqt 11 ?_
    refine wpAnyH_done (by kernel_rfl) ?_ _
    obtain ⟨v,hv⟩:∃ v,(World.setCell (World.setCell (World.setCell (World.setCell (World.setCell (World.setCell w1 ⟨wr.heap.size,0,none⟩ (.string t3)) ⟨wr.heap.size,1,none⟩ (.slice ma3 ml3.length mc3)) ⟨wr.heap.size,2,none⟩ (.slice ua3 ul3.length uc3)) ⟨wr.heap.size,3,none⟩ (.slice ra3 rl3.length rc3)) ⟨wr.heap.size,4,none⟩ (.bool so3)) ⟨wr.heap.size,5,none⟩ (.slice ga3 gl3.length gc3))=v:=⟨_,rfl⟩
    obtain ⟨bt,hbt⟩:∃ x,wr.heap.size=x:=⟨_,rfl⟩
    have k2:Blk (World.setCell (World.setCell (World.setCell (World.setCell (World.setCell (World.setCell w1 ⟨wr.heap.size,0,none⟩ (.string t3)) ⟨wr.heap.size,1,none⟩ (.slice ma3 ml3.length mc3)) ⟨wr.heap.size,2,none⟩ (.slice ua3 ul3.length uc3)) ⟨wr.heap.size,3,none⟩ (.slice ra3 rl3.length rc3)) ⟨wr.heap.size,4,none⟩ (.bool so3)) ⟨wr.heap.size,5,none⟩ (.slice ga3 gl3.length gc3)) wr.heap.size #[.string t3,.slice ma3 ml3.length mc3,.slice ua3 ul3.length uc3,.slice ra3 rl3.length rc3,.bool so3,.slice ga3 gl3.length gc3] 31:=(((((a6.out.set 0 _).set 1 _).set 2 _).set 3 _).set 4 _).set 5 _
    have a7:Below wr.heap.size wr (World.setCell (World.setCell (World.setCell (World.setCell (World.setCell (World.setCell w1 ⟨wr.heap.size,0,none⟩ (.string t3)) ⟨wr.heap.size,1,none⟩ (.slice ma3 ml3.length mc3)) ⟨wr.heap.size,2,none⟩ (.slice ua3 ul3.length uc3)) ⟨wr.heap.size,3,none⟩ (.slice ra3 rl3.length rc3)) ⟨wr.heap.size,4,none⟩ (.bool so3)) ⟨wr.heap.size,5,none⟩ (.slice ga3 gl3.length gc3)):=by
     iterate 6 refine Below.setCell ?_ (by show wr.heap.size≤wr.heap.size;exact Nat.le_refl _) _
     exact ab.out
    have ap2:Apart [b,w.heap.size,wr.heap.size] w1 (World.setCell (World.setCell (World.setCell (World.setCell (World.setCell (World.setCell w1 ⟨wr.heap.size,0,none⟩ (.string t3)) ⟨wr.heap.size,1,none⟩ (.slice ma3 ml3.length mc3)) ⟨wr.heap.size,2,none⟩ (.slice ua3 ul3.length uc3)) ⟨wr.heap.size,3,none⟩ (.slice ra3 rl3.length rc3)) ⟨wr.heap.size,4,none⟩ (.bool so3)) ⟨wr.heap.size,5,none⟩ (.slice ga3 gl3.length gc3)):=by
     iterate 6 refine Apart.setCell ?_ (.inl (by simp)) _
     exact Apart.refl _ _
    have rs2:=av.out.apart ap2
    rw [hv] at k2 a7 rs2
    rw [hv,hbt]
    have KT:=hid (show Blk v bt #[.string t3,.slice ma3 ml3.length mc3,.slice ua3 ul3.length uc3,.slice ra3 rl3.length rc3,.bool so3,.slice ga3 gl3.length gc3] 31 by rw [← hbt];exact k2);have HX:=hid a7;have RS:=hid (rs2.wide (S':=[b,w.heap.size]) (fun i hi=>.inl (by simp only [List.mem_cons,List.not_mem_nil,or_false] at hi ⊢;rcases hi with h|h;exact .inl h;exact .inr (.inl h))))
    clear hv hbt k2 a7 ap2 rs2 ab av a6 kt y0 y1 y2 y3 y4 y5 g0 g1 g2 g3 g4 g5
   case' ga =>
    go_simp
    (go_at_call 11;refine (ay.out _ [b,w.heap.size] (Below.refl _ _).drew (fun i hi=>.inl hi) (RB az.out.1 az.out.2)).mono ?_;rintro e w1 ⟨⟨t3,⟨ma3,ml3,mc3⟩,⟨ua3,ul3,uc3⟩,⟨ra3,rl3,rc3⟩,so3,⟨ga3,gl3,gc3⟩⟩,rfl,aq,ar,aa⟩;have au:=(Below.refl wr.heap.size wr).drew.trans aa;have ab:=hid au;have av:=hid ar;have be:=hid aq;clear aa au ar aq ay)
    try go_wp2_with fail
    refine hK.out _ _ ?_ (fun hHeld=>?_)
    ·exact FS.out _ ab.out
    clear hK K
    try simp only [Act.put,sqp]
    refine sqt 6 ?_
    refine sqt 7 ?_
    refine sqt 8 ?_
    refine sqr 9 fun K hK=>?_
    go_simp
    skip
    try go_wp2_with fail
    refine hK.out _ _ ?_ (fun hHeld=>?_)
    ·exact FS.out _ (ab.out.alloc ab.out.size _)
    clear hK K
    try simp only [Act.put,sqp]
    refine sqr 10 fun K hK=>?_
    go_simp
    skip
    try go_wp2_with fail
    refine hK.out _ _ ?_ (fun hHeld=>?_)
    ·exact FS.out _ (ab.out.alloc ab.out.size _)
    clear hK K
    try simp only [Act.put,sqp]
    refine sqt 11 ?_
    refine wpAnyH_done (by kernel_rfl) ?_ _
    obtain ⟨v,hv,kt,hbv,hzv⟩:=box1 w1 #[.string t3,.slice ma3 ml3.length mc3,.slice ua3 ul3.length uc3,.slice ra3 rl3.length rc3,.bool so3,.slice ga3 gl3.length gc3] 31
    obtain ⟨bt,hbt⟩:∃ x,w1.heap.size=x:=⟨_,rfl⟩
    rw [hv,hbt]
    rw [hbt] at kt
    have KT:=hid kt;have HX:=hid (ab.out.trans (hbv.mono ab.out.size));have RS:=hid (av.out.later hbv)
    clear hv hbt kt hbv hzv ab av
   all_goals
    have ks:=KS.out.onto HX.out
    have hbx:=aw.out.trans (HX.out.mono aw.out.size)
    have k3:Blk (World.setCell (World.setCell (World.setCell (World.setCell (World.setCell (World.setCell v ⟨w.heap.size,0,none⟩ (.string t3)) ⟨w.heap.size,1,none⟩ (.slice ma3 ml3.length mc3)) ⟨w.heap.size,2,none⟩ (.slice ua3 ul3.length uc3)) ⟨w.heap.size,3,none⟩ (.slice ra3 rl3.length rc3)) ⟨w.heap.size,4,none⟩ (.bool so3)) ⟨w.heap.size,5,none⟩ (.slice ga3 gl3.length gc3)) w.heap.size #[.string t3,.slice ma3 ml3.length mc3,.slice ua3 ul3.length uc3,.slice ra3 rl3.length rc3,.bool so3,.slice ga3 gl3.length gc3] 31:=(((((ks.set 0 _).set 1 _).set 2 _).set 3 _).set 4 _).set 5 _
    have ap:Apart [w.heap.size] v (World.setCell (World.setCell (World.setCell (World.setCell (World.setCell (World.setCell v ⟨w.heap.size,0,none⟩ (.string t3)) ⟨w.heap.size,1,none⟩ (.slice ma3 ml3.length mc3)) ⟨w.heap.size,2,none⟩ (.slice ua3 ul3.length uc3)) ⟨w.heap.size,3,none⟩ (.slice ra3 rl3.length rc3)) ⟨w.heap.size,4,none⟩ (.bool so3)) ⟨w.heap.size,5,none⟩ (.slice ga3 gl3.length gc3)):=by
     iterate 6 refine Apart.setCell ?_ (.inl (by simp)) _
     exact Apart.refl _ _
    have a8:=(HI.out.later HX.out).aside (by simp) bb.out ks rfl ap
    have rs3:=RS.out.apart (ap.more (S':=[b,w.heap.size]) (by simp))
    have aa:=lR hbx bk.out ap
    obtain ⟨w3,bf⟩:∃ V',(World.setCell (World.setCell (World.setCell (World.setCell (World.setCell (World.setCell v ⟨w.heap.size,0,none⟩ (.string t3)) ⟨w.heap.size,1,none⟩ (.slice ma3 ml3.length mc3)) ⟨w.heap.size,2,none⟩ (.slice ua3 ul3.length uc3)) ⟨w.heap.size,3,none⟩ (.slice ra3 rl3.length rc3)) ⟨w.heap.size,4,none⟩ (.bool so3)) ⟨w.heap.size,5,none⟩ (.slice ga3 gl3.length gc3))=V':=⟨_,rfl⟩
    rw [bf] at k3 a8 rs3 aa
    have bu:=hid k3;have bv:=hid rs3;have bw:=hid aa;have CD:=hid (bd.out _ a8)
    obtain ⟨y0,y1,y2,y3,y4,y5,-,-,-,-,-,-⟩:=KT.out.all6
    obtain ⟨x0,x1,x2,x3,x4,x5,f0,f1,f2,f3,f4,f5⟩:=ks.all6
    obtain ⟨q0,q1,q2,q3⟩:=HQ.out _ aa
    clear ks hbx k3 ap a8 rs3 aa bd KT KS RS HX HI FS aw
    go_wp2_with fail
    refine CD.out.mono ?_;rintro e w2 ⟨s2,r2,p2,L2,rfl,bg,bh,a0⟩
    have a4:=hid bg;have ax:=hid (bu.out.apart a0 (by simpa using bb.out.symm));have bx:=hid (bv.out.apart (a0.more (by simp)));have bz:=hid (lR bw.out ba.out a0);have a5:=hid (be.out.trans bh.symm)
    clear y0 y1 y2 y3 y4 y5 x0 x1 x2 x3 x4 x5 f0 f1 f2 f3 f4 f5 q0 q1 q2 q3 bf bg bh a0 CD
    go_wp2
    go_roundw
    case rel=>exact ⟨k+1,s2,r2,p2,L2,⟨t3,⟨ma3,ml3,mc3⟩,⟨ua3,ul3,uc3⟩,⟨ra3,rl3,rc3⟩,so3,⟨ga3,gl3,gc3⟩⟩,by omega,by go_num,a4.out,ax.out,bx.out,a5.out,bz.out⟩
    case measure=>simp [intOf];omega
  ·obtain rfl:k=n:=by omega
   obtain ⟨t2,⟨ma2,ml2,mc2⟩,⟨ua2,ul2,uc2⟩,⟨ra2,rl2,rc2⟩,so2,⟨ga2,gl2,gc2⟩⟩:=S
   have hbel':=hid hbel
   have ak:=hid (fun W (hW:Below wr.heap.size wr W)=>(hi.later hW).state [] (fun i hi=>absurd hi (by simp)))
   have CQ:=hid (fun (s5:Sta) (ac:s5.d=s.d) W (hs:StaO [] W s5) (hW:Below wr.heap.size wr W)=>(by
    have h1:=mZ s5 ⟨t2,⟨ma2,ml2,mc2⟩,⟨ua2,ul2,uc2⟩,⟨ra2,rl2,rc2⟩,so2,⟨ga2,gl2,gc2⟩⟩ W hs.in (hsb.later hW).in (hi.inv.of_d ac).few (show InvS (Sta.d ⟨t2,⟨ma2,ml2,mc2⟩,⟨ua2,ul2,uc2⟩,⟨ra2,rl2,rc2⟩,so2,⟨ga2,gl2,gc2⟩⟩) by rw [hd];exact hi.inv).few
    rw [show s5.d=_ from ac.trans hd.symm,pB] at h1
    exact h1:Calls prog 16 #[s5.v,.agg #[.string t2,.slice ma2 ml2.length mc2,.slice ua2 ul2.length uc2,.slice ra2 rl2.length rc2,.bool so2,.slice ga2 gl2.length gc2]] W (RetB true W)))
   have FS:=hid (fun W (hW:Below wr.heap.size wr W)=>(⟨(hkb.onto hW).cell 0 _ rfl,(hkb.onto hW).cell 1 _ rfl,(hkb.onto hW).cell 2 _ rfl,(hkb.onto hW).cell 3 _ rfl,(hkb.onto hW).cell 4 _ rfl,(hkb.onto hW).cell 5 _ rfl⟩:(fun W:World=>W.cell? ⟨w.heap.size,0,none⟩=some (.string t2)∧W.cell? ⟨w.heap.size,1,none⟩=some (.slice ma2 ml2.length mc2)∧W.cell? ⟨w.heap.size,2,none⟩=some (.slice ua2 ul2.length uc2)∧W.cell? ⟨w.heap.size,3,none⟩=some (.slice ra2 rl2.length rc2)∧W.cell? ⟨w.heap.size,4,none⟩=some (.bool so2)∧W.cell? ⟨w.heap.size,5,none⟩=some (.slice ga2 gl2.length gc2)) W))
   clear hi hkb hsb hd hbel
   go_wp2_with fail
   refine wp_region_held_drew (S:=(fun W:World=>W.cell? ⟨w.heap.size,0,none⟩=some (.string t2)∧W.cell? ⟨w.heap.size,1,none⟩=some (.slice ma2 ml2.length mc2)∧W.cell? ⟨w.heap.size,2,none⟩=some (.slice ua2 ul2.length uc2)∧W.cell? ⟨w.heap.size,3,none⟩=some (.slice ra2 rl2.length rc2)∧W.cell? ⟨w.heap.size,4,none⟩=some (.bool so2)∧W.cell? ⟨w.heap.size,5,none⟩=some (.slice ga2 gl2.length gc2))) (by kernel_rfl) (FS.out _ (Below.refl _ _).drew) (fun hHeld=>?_)
   refine sqt 0 ?_
   refine sqt 2 ?_
   refine sqr 1 fun K hK=>?_
   go_simp
   (go_at_call 17;refine (ak.out _ (Below.refl _ _).drew).mono ?_;rintro e v5 ⟨s5,rfl,ac,al,am⟩;have ah:=(Below.refl wr.heap.size wr).drew.trans am;have an:=hid (CQ.out s5 ac v5 al ah);have af:=hid ah;clear ac al am ah CQ ak)
   try go_wp2_with fail
   refine hK.out _ _ ?_ (fun hHeld=>?_)
   ·exact FS.out _ af.out
   clear hK K
   try simp only [Act.put,sqp]
   refine sqr 3 fun K hK=>?_
   go_simp
   (go_at_call 16;refine an.out.mono ?_;rintro e v6 ⟨rfl,ao⟩;have ae:=hid (af.out.trans (ao.mono af.out.size));clear ao an)
   try go_wp2_with fail
   refine hK.out _ _ ?_ (fun hHeld=>?_)
   ·exact FS.out _ ae.out
   clear hK K
   try simp only [Act.put,sqp]
   refine sqt 4 ?_
   refine sqr 5 fun K hK=>?_
   go_simp
   (go_at_call 9;refine (dN _).mono ?_;rintro e v7 ⟨rfl,bi⟩;have bj:=hid (ae.out.trans (bi.mono ae.out.size));clear bi)
   try go_wp2_with fail
   refine hK.out _ _ ?_ (fun hHeld=>?_)
   ·exact FS.out _ bj.out
   clear hK K
   try simp only [Act.put,sqp]
   refine sqt 6 ?_
   refine sqt 7 ?_
   refine wpAnyH_done (by kernel_rfl) ?_ _
   go_wp2
   go_ret
   exact ⟨rfl,hbel'.out.trans (bj.out.mono hbel'.out.size)⟩
theorem editorLoads_walk (s:Sta) (a:Option Addr) (l:List Opr) (c:Nat) (w:World) (hin:StaIn w s) (hl:StaL s) (he:StaE s) (hr:Oprs w (·<w.heap.size) a l) (hf:∀ x∈l,x.fits) (hm:l.length≤maxLen) :
 Calls prog 4 #[s.v,.slice a l.length c] w fun e w'=>e=.returned (.bool true)∧Below w.heap.size w w':=by
 cases hs:s.few
 ·exact oD s a l c _ w hin hl hr rfl hm hs
 cases ho:fewO l
 ·exact nJ s a l c _ w hin hl hr rfl hm hs ho
 by_cases h20:l.length≤20
 ·have hz:=QA he hs
  cases hri:rightP s
  ·exact oY s a l c _ w hin hl hr rfl hz hs ho h20 hri
  ·exact pS s a l c _ w hin hl hr rfl hz hs hf ho h20 hri
 ·exact oC s a l c _ w hin hl hr rfl hm hs ho (by omega)
end Go.Proofs.YtfiobemeogaaiaaGreat
