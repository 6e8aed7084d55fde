/-
  LawEdr6
-/
import Derived.Test.YtfiobemeogaaiaaGreatJSq
import Derived.Test.YtfiobemeogaaiaaGreatJEdrDev5
import Derived.Test.YtfiobemeogaaiaaGreatJEdrRef3
namespace Go.Proofs.YtfiobemeogaaiaaGreat
open Lib (hid)
open Go.RowKit
set_option linter.unusedVariables false
set_option linter.unusedSimpArgs false
theorem KnotW.offs {w:World} {B:Nat→Prop} {b:Nat} {cs:Array Value} (hb:Blk w b cs 31) {v:ByteArray} (h0:cs[0]? = some (.string v)):∀ {h k:Nat} {L:List ByteArray},KnotW w B h k L→KnotW w (fun i=>B i∧i≠b) h k L
 | 0,k,L,⟨hk,s,e,hf,hB⟩=>⟨⟨hk,fun g=>by
  subst g
  have:=hB.symm.trans hb
  cases this⟩,s,e,hf,hB⟩
 | h+1,k,L,⟨hk,K,g,c,h2,h3,h4,h5,e,h6,h7,h8⟩=>⟨⟨hk,fun g=>by
  subst g
  have:=h8.symm.trans hb
  cases this⟩,K,g,c,h2,h3,h4,fun x hx=>(h5 x hx).offs hb h0,e,⟨h6,fun q=>by
  subst q
  have h9:=h7.2 0 (by rw [aJ];omega)
  have h10:=hb.cell 0 _ h0
  rw [Nat.zero_add] at h9
  have h11:=h10.symm.trans h9
  simp [ptrs] at h11⟩,h7,h8⟩
theorem RopeW.aparts {w w':World} {r p:Option Addr} {L:List ByteArray} {s:ByteArray} (h:RopeW w r p L s) {b:Nat} {cs:Array Value} (hb:Blk w b cs 31) {v:ByteArray} (h0:cs[0]? = some (.string v)) (ha:Apart [b] w w'):RopeW w' r p L s:=by
 have hn:∀ i,i<w.heap.size→i≠b→w'.heap[i]? = w.heap[i]? :=fun i hi hne=>ha.block i hi (by simpa using hne)
 refine ⟨⟨?_,h.x.tight,h.x.txt,h.x.small⟩,?_⟩
 ·rcases h.x.t with t|⟨k,hh,e,hk⟩
  ·exact .inl t
  ·exact .inr ⟨k,hh,e,(((hk.offs hb h0).keep ha.size fun i hi=>hn i hi.1.1 hi.2).weak fun i hi=>hi.1.on ha.size)⟩
 ·rcases h.at' with t|⟨k,e,hl,hc⟩
  ·exact .inl t
  ·refine .inr ⟨k,e,Nat.lt_of_lt_of_le hl ha.size,?_⟩
   have hne:k≠b:=fun g=>by
    subst g
    have:=(hb.cell 0 _ h0).symm.trans hc
    cases this
   exact (World.cell?_of_block (w:=w) (hn k hl hne)).trans hc
theorem IsEd.aside {w w':World} {b x:Nat} {T:List Nat} {s:Sta} {rb:Nat} {p:Option Addr} {L:List ByteArray} (h:IsEd T w b s rb p L) (hx:x∈T) (hxb:b≠x) {cs:Array Value} (hk:Blk w x cs 31) {v:ByteArray} (h0:cs[0]? = some (.string v)) (ha:Apart [x] w w'):IsEd T w' b s rb p L:=
 ⟨h.blk.apart ha (by simpa using hxb),h.rope.aparts hk h0 ha,h.rows.apart (ha.more fun i hi=>by rw [List.mem_singleton.1 hi];exact List.mem_cons_of_mem _ hx),h.ml,h.mc,h.inv,fun i hi=>Nat.lt_of_lt_of_le (h.tlt i hi) ha.size⟩
theorem IsEd.with {w w':World} {b x:Nat} {T:List Nat} {s:Sta} {rb:Nat} {p:Option Addr} {L:List ByteArray} (h:IsEd T w b s rb p L) (hb:Below w.heap.size w w') (hx:w.heap.size≤x) (hx2:x<w'.heap.size):IsEd (x::T) w' b s rb p L:=
 ⟨h.blk.onto hb,h.rope.later hb,(h.rows.wide fun i hi=>by simp only [List.mem_cons] at hi ⊢;rcases hi with h|rfl|h;exact .inl (.inl h);exact .inr hx;exact .inl (.inr h)).later hb,h.ml,h.mc,h.inv,fun i hi=>by
  rcases List.mem_cons.1 hi with rfl|hi
  ·exact hx2
  ·exact Nat.lt_of_lt_of_le (h.tlt i hi) hb.size⟩
theorem NS {w:World} {b x:Nat} (h1:b<w.heap.size) (h2:x<w.heap.size):InS [b,x] w.drew:=fun i hi=>by
 simp only [List.mem_cons,List.not_mem_nil,or_false] at hi
 rcases hi with rfl|rfl <;> assumption
theorem NB {w:World} {b x:Nat} {o:Obj} (h1:b<w.heap.size) (h2:x<w.heap.size):InS [b,x,w.heap.size] (w.drew.alloc o):=fun i hi=>by
 simp only [List.mem_cons,List.not_mem_nil,or_false] at hi
 rw [World.size_alloc]
 show i<w.heap.size+1
 rcases hi with rfl|rfl|rfl <;> omega
set_option maxRecDepth 100000 in
set_option maxHeartbeats 3200000 in
theorem pE (a:Option Addr) (l:List Opr) (c n:Nat) (nm:ByteArray) (w:World) (hr:Oprs w (·<w.heap.size) a l) (hf:∀ x∈l,x.fits) (hn:l.length=n) (hw:fewO l=true) :
 Calls Tryz.prog 3 #[.slice a n c,.string nm] w fun e w'=>e=.returned (.bool true)∧Below w.heap.size w w':=by
 have cw:=qP a l c w hr (by have:=(gE.1 hw).1;unfold maxLen;omega)
 have h60:=(gE.1 hw).1
 rw [hn] at h60
 rw [hw,hn] at cw
 have CW:=hid cw;have CN:=hid (EC w);have HR:=hid hr;have HF:=hid hf;have HN:=hid hn;have HW:=hid (gE.1 hw).2
 clear cw hr hf hn hw
 go_enter Tryz.func3,Tryz.ntmps3
 go_wp2_with fail
 refine CW.out.mono ?_;rintro e w1 ⟨rfl,rfl⟩
 go_wp2_with fail
 refine CN.out.mono ?_;rintro e w0 ⟨b,s0,r0,p0,L0,rfl,a2,bc,bd,ag⟩
 obtain ⟨bs,hbs⟩:∃ x,w0.heap.size=x:=⟨_,rfl⟩
 obtain ⟨wB,hwB,kB,hbB,hzB⟩:=box1 w0 staZ.cells 31
 have H0:=hid (a2.with hbB (Nat.le_refl _) (by omega));have bv:=hid bd;have bw:=hid (ag.trans (hbB.mono ag.size));have bx:=hid (show staZ.d=s0.d from bc.symm);have be:=hid kB
 have hne:b≠bs:=by have:=a2.lt;omega
 have bf:=hid hne;have bu:=hid (show w.heap.size≤bs by rw [← hbs];exact ag.size)
 rw [hbs] at H0 be
 subst hwB
 have bz:=hid hbs
 clear a2 bc bd ag hbB hzB kB hne hbs CW CN
 go_wp2
 rw [bz.out]
 go_loopw [7] (fun i wr=>∃ (k:Nat) (s:Sta) (rb:Nat) (p:Option Addr) (L:List ByteArray) (S:Sta),k≤n∧i=.int .i64 k∧IsEd [bs] wr b s rb p L∧Blk wr bs S.cells 31∧StaO [b,bs] wr S∧S.d=s.d∧Below w.heap.size w wr) (fun i _=>n - (intOf i).toNat)
 case atStart=>exact ⟨0,s0,r0,p0,L0,staZ,Nat.zero_le _,rfl,H0.out,be.out,⟨KPo.empty _ _,SPo.empty _ _,SPo.empty _ _,EPo.empty _ _⟩,bx.out,bw.out⟩
 case round =>
  obtain ⟨k,s,rb,p,L,S,hk,rfl,hi,hkb,hsb,hd,hbel⟩:=hrel
  have b0:(0:Int)≤(k:Int):=by omega
  by_cases hlt:k<n
  ·have hkl:k<l.length:=by rw [HN.out];exact hlt
   have fx:=HF.out (l[k]) (List.getElem_mem hkl)
   have sx:=HW.out (l[k]) (List.getElem_mem hkl)
   have b1:(k:Int)<(n:Int):=by omega
   obtain ⟨ad,rfl,-⟩:=FW HR.out hbel hkl
   have hq:∀ W,Below w.heap.size w W→W.cell? (ad.add (k * 4))=some (.int .i64 l[k].k)∧W.cell? ⟨(ad.add (k * 4)).block,(ad.add (k * 4)).off+1,none⟩=some (.int .i64 l[k].a)∧W.cell? ⟨(ad.add (k * 4)).block,(ad.add (k * 4)).off+2,none⟩=some (.int .i64 l[k].n)∧W.cell? ⟨(ad.add (k * 4)).block,(ad.add (k * 4)).off+3,none⟩=some (.string l[k].s):=fun W hW=>by
    obtain ⟨ad',e,q⟩:=FW HR.out hW hkl
    injection e with e
    rw [e]
    exact q
   have hblt:=hi.lt
   have hslt:bs<wr.heap.size:=hi.tlt bs (by simp)
   have hinv:InvS S.d:=by rw [hd];exact hi.inv
   have cdo:=fun W (S':List Nat) (hW:Below wr.heap.size wr W) (hS:∀ i∈S',i∈[b,bs]∨wr.heap.size≤i) (hI:InS S' W)=>GZ S S' W ((hsb.wide hS).later hW) hI hinv (l[k]).k (l[k]).a (l[k]).n (l[k]).s (uY fx) (by omega)
   have cd:=fun W (hI:IsEd [bs] W b s rb p L)=>gN hI (l[k]).k (l[k]).a (l[k]).n (l[k]).s (uY fx) (by omega)
   obtain ⟨x,hx⟩:∃ x,l[k]=x:=⟨_,rfl⟩
   rw [hd] at cdo
   simp only [hx] at hq cdo cd
   obtain ⟨xk,xa,xn,xs⟩:=x
   obtain ⟨R,hR⟩:∃ R,doD s.d xk xa xn xs=R:=⟨_,rfl⟩
   simp only [hR] at hq cdo cd
   obtain ⟨Rs,Re⟩:=R
   obtain ⟨t2,⟨ma2,ml2,mc2⟩,⟨ua2,ul2,uc2⟩,⟨ra2,rl2,rc2⟩,so2,⟨ga2,gl2,gc2⟩⟩:=S
   have HI:=hid hi;have KS:=hid hkb;have HQ:=hid hq;have ae:=hid hbel;have ar:=hid cdo;have bg:=hid cd;have au:=hid (And.intro hblt hslt)
   have FS:=hid (fun W (hW:Below wr.heap.size wr W)=>(⟨⟨(hkb.onto hW).cell 0 _ rfl,(hkb.onto hW).cell 1 _ rfl,(hkb.onto hW).cell 2 _ rfl,(hkb.onto hW).cell 3 _ rfl,(hkb.onto hW).cell 4 _ rfl,(hkb.onto hW).cell 5 _ rfl⟩,hq W (hbel.trans (hW.mono hbel.size))⟩:(fun W:World=>(W.cell? ⟨bs,0,none⟩=some (.string t2)∧W.cell? ⟨bs,1,none⟩=some (.slice ma2 ml2.length mc2)∧W.cell? ⟨bs,2,none⟩=some (.slice ua2 ul2.length uc2)∧W.cell? ⟨bs,3,none⟩=some (.slice ra2 rl2.length rc2)∧W.cell? ⟨bs,4,none⟩=some (.bool so2)∧W.cell? ⟨bs,5,none⟩=some (.slice ga2 gl2.length gc2))∧(W.cell? (ad.add (k * 4))=some (.int .i64 xk)∧W.cell? ⟨(ad.add (k * 4)).block,(ad.add (k * 4)).off+1,none⟩=some (.int .i64 xa)∧W.cell? ⟨(ad.add (k * 4)).block,(ad.add (k * 4)).off+2,none⟩=some (.int .i64 xn)∧W.cell? ⟨(ad.add (k * 4)).block,(ad.add (k * 4)).off+3,none⟩=some (.string xs))) W))
   clear hi hkb hsb hd hbel hq cdo cd fx sx hx hR hinv hblt hslt
   go_wp2_with fail
   refine wp_region_held_drew (S:=(fun W:World=>(W.cell? ⟨bs,0,none⟩=some (.string t2)∧W.cell? ⟨bs,1,none⟩=some (.slice ma2 ml2.length mc2)∧W.cell? ⟨bs,2,none⟩=some (.slice ua2 ul2.length uc2)∧W.cell? ⟨bs,3,none⟩=some (.slice ra2 rl2.length rc2)∧W.cell? ⟨bs,4,none⟩=some (.bool so2)∧W.cell? ⟨bs,5,none⟩=some (.slice ga2 gl2.length gc2))∧(W.cell? (ad.add (k * 4))=some (.int .i64 xk)∧W.cell? ⟨(ad.add (k * 4)).block,(ad.add (k * 4)).off+1,none⟩=some (.int .i64 xa)∧W.cell? ⟨(ad.add (k * 4)).block,(ad.add (k * 4)).off+2,none⟩=some (.int .i64 xn)∧W.cell? ⟨(ad.add (k * 4)).block,(ad.add (k * 4)).off+3,none⟩=some (.string xs)))) (by kernel_rfl) (FS.out _ (Below.refl _ _).drew) (fun hHeld=>?_)
   refine sqt 0 ?_
   refine sqt 1 ?_
   refine sqt 2 ?_
   refine sqt 3 ?_
   refine sqt 4 ?_
   refine wpAnyH_ready (rs:=[5,9]) (by kernel_rfl) (by simp) ?_
   refine AllReadyH.cons (by simp only [sqg];rfl) (fun K hK=>?ga) (AllReadyH.cons (by simp only [sqg];rfl) (fun K hK=>?gb) AllReadyH.nil)
   case' gb =>
    go_simp
    skip
    try go_wp2_with fail
    refine hK.out _ _ ?_ (fun hHeld=>?_)
    ·exact FS.out _ ((Below.refl _ _).drew.alloc (Nat.le_refl _) _)
    clear hK K
    try simp only [Act.put,sqp]
    refine sqr 5 fun K hK=>?_
    go_simp
    (go_at_call 11;refine (ar.out _ [b,bs,wr.heap.size] ((Below.refl _ _).drew.alloc (Nat.le_refl _) _) (fun i hi=>by simp only [List.mem_cons,List.not_mem_nil,or_false] at hi ⊢;rcases hi with h|h|h;exact .inl (.inl h);exact .inl (.inr h);exact .inr (Nat.le_of_eq h.symm)) (NB au.out.1 au.out.2)).mono ?_;rintro e w1 ⟨⟨t3,⟨ma3,ml3,mc3⟩,⟨ua3,ul3,uc3⟩,⟨ra3,rl3,rc3⟩,so3,⟨ga3,gl3,gc3⟩⟩,rfl,aj,ak,ac⟩;have al:=((Below.refl wr.heap.size wr).drew.alloc (Nat.le_refl _) _).trans (ac.mono (by simp));have a3:=hid (show Blk w1 wr.heap.size staZ.cells 31 from (Blk.new wr.drew staZ.cells 31).onto ac);have ab:=hid al;have am:=hid ak;have a4:=hid aj;clear ac al ak aj ar)
    try go_wp2_with fail
    refine hK.out _ _ ?_ (fun hHeld=>?_)
    ·exact FS.out _ ab.out
    clear hK K
    try simp only [Act.put,sqp]
    refine sqt 6 ?_
    refine sqt 7 ?_
    refine sqt 8 ?_
    have kt:Blk w1 wr.heap.size staZ.cells 31:=a3.out
    obtain ⟨y0,y1,y2,y3,y4,y5,g0,g1,g2,g3,g4,g5⟩:=kt.all6
    refine sqr 10 fun K hK=>?_
    go_simp
    skip
    try go_wp2_with fail
    refine hK.out _ _ ?_ (fun hHeld=>?_)
    ·exact FS.out _ (by (iterate 6 refine Below.setCell ?_ (by show wr.heap.size≤wr.heap.size;exact Nat.le_refl _) _);exact ab.out)
    clear hK K
    try simp only [Act.put,sqp]
    refine sqt 11 ?_
    refine wpAnyH_done (by kernel_rfl) ?_ _
    obtain ⟨v,hv⟩:∃ v,(World.setCell (World.setCell (World.setCell (World.setCell (World.setCell (World.setCell w1 ⟨wr.heap.size,0,none⟩ (.string t3)) ⟨wr.heap.size,1,none⟩ (.slice ma3 ml3.length mc3)) ⟨wr.heap.size,2,none⟩ (.slice ua3 ul3.length uc3)) ⟨wr.heap.size,3,none⟩ (.slice ra3 rl3.length rc3)) ⟨wr.heap.size,4,none⟩ (.bool so3)) ⟨wr.heap.size,5,none⟩ (.slice ga3 gl3.length gc3))=v:=⟨_,rfl⟩
    obtain ⟨bt,hbt⟩:∃ x,wr.heap.size=x:=⟨_,rfl⟩
    have k2:Blk (World.setCell (World.setCell (World.setCell (World.setCell (World.setCell (World.setCell w1 ⟨wr.heap.size,0,none⟩ (.string t3)) ⟨wr.heap.size,1,none⟩ (.slice ma3 ml3.length mc3)) ⟨wr.heap.size,2,none⟩ (.slice ua3 ul3.length uc3)) ⟨wr.heap.size,3,none⟩ (.slice ra3 rl3.length rc3)) ⟨wr.heap.size,4,none⟩ (.bool so3)) ⟨wr.heap.size,5,none⟩ (.slice ga3 gl3.length gc3)) wr.heap.size #[.string t3,.slice ma3 ml3.length mc3,.slice ua3 ul3.length uc3,.slice ra3 rl3.length rc3,.bool so3,.slice ga3 gl3.length gc3] 31:=(((((a3.out.set 0 _).set 1 _).set 2 _).set 3 _).set 4 _).set 5 _
    have a5:Below wr.heap.size wr (World.setCell (World.setCell (World.setCell (World.setCell (World.setCell (World.setCell w1 ⟨wr.heap.size,0,none⟩ (.string t3)) ⟨wr.heap.size,1,none⟩ (.slice ma3 ml3.length mc3)) ⟨wr.heap.size,2,none⟩ (.slice ua3 ul3.length uc3)) ⟨wr.heap.size,3,none⟩ (.slice ra3 rl3.length rc3)) ⟨wr.heap.size,4,none⟩ (.bool so3)) ⟨wr.heap.size,5,none⟩ (.slice ga3 gl3.length gc3)):=by
     iterate 6 refine Below.setCell ?_ (by show wr.heap.size≤wr.heap.size;exact Nat.le_refl _) _
     exact ab.out
    have ap2:Apart [b,bs,wr.heap.size] w1 (World.setCell (World.setCell (World.setCell (World.setCell (World.setCell (World.setCell w1 ⟨wr.heap.size,0,none⟩ (.string t3)) ⟨wr.heap.size,1,none⟩ (.slice ma3 ml3.length mc3)) ⟨wr.heap.size,2,none⟩ (.slice ua3 ul3.length uc3)) ⟨wr.heap.size,3,none⟩ (.slice ra3 rl3.length rc3)) ⟨wr.heap.size,4,none⟩ (.bool so3)) ⟨wr.heap.size,5,none⟩ (.slice ga3 gl3.length gc3)):=by
     iterate 6 refine Apart.setCell ?_ (.inl (by simp)) _
     exact Apart.refl _ _
    have rs2:=am.out.apart ap2
    rw [hv] at k2 a5 rs2
    rw [hv,hbt]
    have KT:=hid (show Blk v bt #[.string t3,.slice ma3 ml3.length mc3,.slice ua3 ul3.length uc3,.slice ra3 rl3.length rc3,.bool so3,.slice ga3 gl3.length gc3] 31 by rw [← hbt];exact k2);have HX:=hid a5;have RS:=hid (rs2.wide (S':=[b,bs]) (fun i hi=>.inl (by simp only [List.mem_cons,List.not_mem_nil,or_false] at hi ⊢;rcases hi with h|h;exact .inl h;exact .inr (.inl h))))
    clear hv hbt k2 a5 ap2 rs2 ab am a3 kt y0 y1 y2 y3 y4 y5 g0 g1 g2 g3 g4 g5
   case' ga =>
    go_simp
    (go_at_call 11;refine (ar.out _ [b,bs] (Below.refl _ _).drew (fun i hi=>.inl hi) (NS au.out.1 au.out.2)).mono ?_;rintro e w1 ⟨⟨t3,⟨ma3,ml3,mc3⟩,⟨ua3,ul3,uc3⟩,⟨ra3,rl3,rc3⟩,so3,⟨ga3,gl3,gc3⟩⟩,rfl,aj,ak,ac⟩;have al:=(Below.refl wr.heap.size wr).drew.trans ac;have ab:=hid al;have am:=hid ak;have a4:=hid aj;clear ac al ak aj ar)
    try go_wp2_with fail
    refine hK.out _ _ ?_ (fun hHeld=>?_)
    ·exact FS.out _ ab.out
    clear hK K
    try simp only [Act.put,sqp]
    refine sqt 6 ?_
    refine sqt 7 ?_
    refine sqt 8 ?_
    refine sqr 9 fun K hK=>?_
    go_simp
    skip
    try go_wp2_with fail
    refine hK.out _ _ ?_ (fun hHeld=>?_)
    ·exact FS.out _ (ab.out.alloc ab.out.size _)
    clear hK K
    try simp only [Act.put,sqp]
    refine sqr 10 fun K hK=>?_
    go_simp
    skip
    try go_wp2_with fail
    refine hK.out _ _ ?_ (fun hHeld=>?_)
    ·exact FS.out _ (ab.out.alloc ab.out.size _)
    clear hK K
    try simp only [Act.put,sqp]
    refine sqt 11 ?_
    refine wpAnyH_done (by kernel_rfl) ?_ _
    obtain ⟨v,hv,kt,hbv,hzv⟩:=box1 w1 #[.string t3,.slice ma3 ml3.length mc3,.slice ua3 ul3.length uc3,.slice ra3 rl3.length rc3,.bool so3,.slice ga3 gl3.length gc3] 31
    obtain ⟨bt,hbt⟩:∃ x,w1.heap.size=x:=⟨_,rfl⟩
    rw [hv,hbt]
    rw [hbt] at kt
    have KT:=hid kt;have HX:=hid (ab.out.trans (hbv.mono ab.out.size));have RS:=hid (am.out.later hbv)
    clear hv hbt kt hbv hzv ab am
   all_goals
    have ks:=KS.out.onto HX.out
    have hbx:=ae.out.trans (HX.out.mono ae.out.size)
    have k3:Blk (World.setCell (World.setCell (World.setCell (World.setCell (World.setCell (World.setCell v ⟨bs,0,none⟩ (.string t3)) ⟨bs,1,none⟩ (.slice ma3 ml3.length mc3)) ⟨bs,2,none⟩ (.slice ua3 ul3.length uc3)) ⟨bs,3,none⟩ (.slice ra3 rl3.length rc3)) ⟨bs,4,none⟩ (.bool so3)) ⟨bs,5,none⟩ (.slice ga3 gl3.length gc3)) bs #[.string t3,.slice ma3 ml3.length mc3,.slice ua3 ul3.length uc3,.slice ra3 rl3.length rc3,.bool so3,.slice ga3 gl3.length gc3] 31:=(((((ks.set 0 _).set 1 _).set 2 _).set 3 _).set 4 _).set 5 _
    have ap:Apart [bs] v (World.setCell (World.setCell (World.setCell (World.setCell (World.setCell (World.setCell v ⟨bs,0,none⟩ (.string t3)) ⟨bs,1,none⟩ (.slice ma3 ml3.length mc3)) ⟨bs,2,none⟩ (.slice ua3 ul3.length uc3)) ⟨bs,3,none⟩ (.slice ra3 rl3.length rc3)) ⟨bs,4,none⟩ (.bool so3)) ⟨bs,5,none⟩ (.slice ga3 gl3.length gc3)):=by
     iterate 6 refine Apart.setCell ?_ (.inl (by simp)) _
     exact Apart.refl _ _
    have av:=(HI.out.later HX.out).aside (by simp) bf.out ks rfl ap
    have rs3:=RS.out.apart (ap.more (S':=[b,bs]) (by simp))
    have ac:=kR hbx bu.out ap
    obtain ⟨w3,bh⟩:∃ V',(World.setCell (World.setCell (World.setCell (World.setCell (World.setCell (World.setCell v ⟨bs,0,none⟩ (.string t3)) ⟨bs,1,none⟩ (.slice ma3 ml3.length mc3)) ⟨bs,2,none⟩ (.slice ua3 ul3.length uc3)) ⟨bs,3,none⟩ (.slice ra3 rl3.length rc3)) ⟨bs,4,none⟩ (.bool so3)) ⟨bs,5,none⟩ (.slice ga3 gl3.length gc3))=V':=⟨_,rfl⟩
    rw [bh] at k3 av rs3 ac
    have hdr:=(Below.refl w3.heap.size w3).drew
    have bi:=hid (k3.onto hdr);have b7:=hid (av.later hdr);have b3:=hid (rs3.later hdr);have bj:=hid ac.drew;have CD:=hid (bg.out _ (av.later hdr))
    obtain ⟨y0,y1,y2,y3,y4,y5,-,-,-,-,-,-⟩:=KT.out.all6
    obtain ⟨x0,x1,x2,x3,x4,x5,f0,f1,f2,f3,f4,f5⟩:=ks.all6
    clear ks hbx k3 ap av rs3 ac hdr bg KT KS RS HX HI FS ae
    go_wp2_with fail
    clear y0 y1 y2 y3 y4 y5 x0 x1 x2 x3 x4 x5 f0 f1 f2 f3 f4 f5 bh
    refine wp_region_held_drew (S:=(fun W:World=>W.cell? ⟨bs,0,none⟩=some (.string t3)∧(W.cell? (ad.add (k * 4))=some (.int .i64 xk)∧W.cell? ⟨(ad.add (k * 4)).block,(ad.add (k * 4)).off+1,none⟩=some (.int .i64 xa)∧W.cell? ⟨(ad.add (k * 4)).block,(ad.add (k * 4)).off+2,none⟩=some (.int .i64 xn)∧W.cell? ⟨(ad.add (k * 4)).block,(ad.add (k * 4)).off+3,none⟩=some (.string xs)))) (by kernel_rfl) ⟨bi.out.cell 0 _ rfl,HQ.out _ bj.out⟩ (fun hHeld=>?_)
    refine sqt 0 ?_
    refine sqt 1 ?_
    refine sqt 2 ?_
    refine sqt 3 ?_
    refine sqt 4 ?_
    refine sqt 6 ?_
    refine sqr 5 fun K hK=>?_
    go_simp
    (go_at_call 12;refine CD.out.mono ?_;rintro e w2 ⟨s2,r2,p2,L2,rfl,aw,a6,ax⟩;have b4:=hid aw;have a7:=hid (bi.out.apart ax (by simpa using bf.out.symm));have b5:=hid (b3.out.apart (ax.more (by simp)));have a8:=hid (kR bj.out bv.out ax);have af:t3=s2.t:=(congrArg StaD.t (a4.out.trans a6.symm));have b6:=hid (a4.out.trans a6.symm);have cl:=kF aw.nw aw.rope;rw [← af] at cl;have CL:=hid cl;clear aw a6 ax af cl CD)
    try go_wp2_with fail
    refine hK.out _ _ ?_ (fun hHeld=>?_)
    ·exact ⟨a7.out.cell 0 _ rfl,HQ.out _ a8.out⟩
    clear hK K
    try simp only [Act.put,sqp]
    refine sqt 7 ?_
    refine sqt 8 ?_
    refine sqt 9 ?_
    refine sqt 11 ?_
    refine sqt 12 ?_
    refine sqt 13 ?_
    refine sqr 10 fun K hK=>?_
    go_simp
    (go_at_call 13;refine CL.out.mono ?_;rintro e w4 ⟨rfl,aa⟩;have an:=hid (a8.out.trans (aa.mono a8.out.size));have ai:=hid aa;clear aa CL)
    try go_wp2_with fail
    refine hK.out _ _ ?_ (fun hHeld=>?_)
    ·exact ⟨(a7.out.onto ai.out).cell 0 _ rfl,HQ.out _ an.out⟩
    clear hK K
    try simp only [Act.put,sqp]
    refine sqt 14 ?_
    refine sqt 15 ?_
    refine wpAnyH_done (by kernel_rfl) ?_ _
    go_wp2
    go_roundw
    case rel=>exact ⟨k+1,s2,r2,p2,L2,⟨t3,⟨ma3,ml3,mc3⟩,⟨ua3,ul3,uc3⟩,⟨ra3,rl3,rc3⟩,so3,⟨ga3,gl3,gc3⟩⟩,by omega,by go_num,b4.out.later ai.out,a7.out.onto ai.out,b5.out.later ai.out,b6.out,an.out⟩
    case measure=>simp [intOf];omega
  ·obtain rfl:k=n:=by omega
   have ah:S.m.l=s.m.l:=congrArg StaD.m hd
   have af:S.t=s.t:=congrArg StaD.t hd
   have hinv:InvS S.d:=by rw [hd];exact hi.inv
   have cf:=MC hi.nw hi.rows.in.m.row (Nat.le_trans hi.inv.ml (by decide)) nm
   have cg:=fun W (hW:Below wr.heap.size wr W)=>dK S.m.a S.m.l S.m.c nm _ W (hsb.in.later hW).m.row hinv.mz
   rw [ah] at cg
   obtain ⟨⟨fi,fb⟩,hfd⟩:∃ x,fndM s.m.l nm=x:=⟨_,rfl⟩
   simp only [hfd] at cf cg
   have FI:=hid (fun W (hW:Below wr.heap.size wr W)=>hi.later hW);have FK:=hid (fun W (hW:Below wr.heap.size wr W)=>hkb.onto hW);have FR:=hid (fun W (hW:Below wr.heap.size wr W)=>(hsb.later hW).in)
   have CF:=hid cf;have CG:=hid cg;have HD:=hid hd;have HT:=hid af;have HM:=hid ah;have bk:=hid hinv;have bl:=hid hi.inv;have ae:=hid hbel
   clear hi hkb hsb hd hbel ah af hinv cf cg hfd
   go_wp2_with fail
   refine CF.out.mono ?_;rintro e w4 ⟨rfl,aa⟩
   obtain ⟨t2,⟨ma2,ml2,mc2⟩,⟨ua2,ul2,uc2⟩,⟨ra2,rl2,rc2⟩,so2,⟨ga2,gl2,gc2⟩⟩:=S
   have ah:ml2=s.m.l:=HM.out
   have af:t2=s.t:=HT.out
   obtain ⟨y0,y1,y2,y3,y4,y5,-,-,-,-,-,-⟩:=(FK.out _ aa).all6
   rw [ah] at y1
   have hd:Sta.d ⟨t2,⟨ma2,ml2,mc2⟩,⟨ua2,ul2,uc2⟩,⟨ra2,rl2,rc2⟩,so2,⟨ga2,gl2,gc2⟩⟩=s.d:=HD.out
   have bm:=hid (fun W (hW:Below w4.heap.size w4 W)=>(FI.out W (aa.trans (hW.mono aa.size))).state [] (fun i hi=>absurd hi (by simp)))
   have CQ:=hid (fun (s5:Sta) (ao:s5.d=s.d) W (hs:StaO [] W s5) (hW:Below w4.heap.size w4 W)=>(by
    have h1:=vP s5 ⟨t2,⟨ma2,ml2,mc2⟩,⟨ua2,ul2,uc2⟩,⟨ra2,rl2,rc2⟩,so2,⟨ga2,gl2,gc2⟩⟩ W hs.in (FR.out W (aa.trans (hW.mono aa.size))) (bl.out.of_d ao).few bk.out.few
    rw [show s5.d=_ from ao.trans hd.symm,AE] at h1
    exact h1:Calls Tryz.prog 16 #[s5.v,.agg #[.string t2,.slice ma2 ml2.length mc2,.slice ua2 ul2.length uc2,.slice ra2 rl2.length rc2,.bool so2,.slice ga2 gl2.length gc2]] W (RetB true W)))
   have CR:=hid (fun W (hW:Below w4.heap.size w4 W)=>oQ (FI.out W (aa.trans (hW.mono aa.size))).nw)
   have ct:=fun W (hW:Below w4.heap.size w4 W)=>gZ (FI.out W (aa.trans (hW.mono aa.size))).rope
   rw [← af] at ct
   have CT:=hid ct
   have CY:=hid (fun W (hW:Below w4.heap.size w4 W)=>JB (FI.out W (aa.trans (hW.mono aa.size))).rope)
   have FS:=hid (fun W (hW:Below w4.heap.size w4 W)=>(by
    have h:=FK.out W (aa.trans (hW.mono aa.size))
    exact ⟨h.cell 0 _ rfl,h.cell 1 _ rfl,h.cell 2 _ rfl,h.cell 3 _ rfl,h.cell 4 _ rfl,h.cell 5 _ rfl⟩:(fun W:World=>W.cell? ⟨bs,0,none⟩=some (.string t2)∧W.cell? ⟨bs,1,none⟩=some (.slice ma2 ml2.length mc2)∧W.cell? ⟨bs,2,none⟩=some (.slice ua2 ul2.length uc2)∧W.cell? ⟨bs,3,none⟩=some (.slice ra2 rl2.length rc2)∧W.cell? ⟨bs,4,none⟩=some (.bool so2)∧W.cell? ⟨bs,5,none⟩=some (.slice ga2 gl2.length gc2)) W))
   have cg:=CG.out _ aa
   have bn:=hid cg
   have an:=hid (ae.out.trans (aa.mono ae.out.size))
   clear aa ah af hd ct cg CF CG FI FK FR ae bk bl HD HT
   go_wp2_with fail
   refine bn.out.mono ?_;rintro e w5 ⟨rfl,rfl⟩
   clear y0 y1 y2 y3 y4 y5 bn
   go_wp2_with fail
   refine wp_region_held_drew (S:=(fun W:World=>W.cell? ⟨bs,0,none⟩=some (.string t2)∧W.cell? ⟨bs,1,none⟩=some (.slice ma2 ml2.length mc2)∧W.cell? ⟨bs,2,none⟩=some (.slice ua2 ul2.length uc2)∧W.cell? ⟨bs,3,none⟩=some (.slice ra2 rl2.length rc2)∧W.cell? ⟨bs,4,none⟩=some (.bool so2)∧W.cell? ⟨bs,5,none⟩=some (.slice ga2 gl2.length gc2))) (by kernel_rfl) (FS.out _ (Below.refl _ _).drew) (fun hHeld=>?_)
   refine sqt 0 ?_
   refine sqt 2 ?_
   refine sqr 1 fun K hK=>?_
   go_simp
   (go_at_call 17;refine (bm.out _ (Below.refl _ _).drew).mono ?_;rintro e v5 ⟨s5,rfl,ao,bo,bp⟩;have a9:=(Below.refl w4.heap.size w4).drew.trans bp;have bq:=hid (CQ.out s5 ao v5 bo a9);have ba:=hid a9;clear ao bo bp a9 CQ bm)
   try go_wp2_with fail
   refine hK.out _ _ ?_ (fun hHeld=>?_)
   ·exact FS.out _ ba.out
   clear hK K
   try simp only [Act.put,sqp]
   refine sqr 3 fun K hK=>?_
   go_simp
   (go_at_call 16;refine bq.out.mono ?_;rintro e v6 ⟨rfl,br⟩;have ay:=hid (ba.out.trans (br.mono ba.out.size));clear br bq)
   try go_wp2_with fail
   refine hK.out _ _ ?_ (fun hHeld=>?_)
   ·exact FS.out _ ay.out
   clear hK K
   try simp only [Act.put,sqp]
   refine sqt 4 ?_
   refine sqt 5 ?_
   refine sqt 8 ?_
   refine sqt 9 ?_
   refine sqr 6 fun K hK=>?_
   go_simp
   (go_at_call 18;refine ((CR.out _ ay.out)).mono ?_;rintro e v7 ⟨rfl,hb⟩;have az:=hid (ay.out.trans (hb.mono ay.out.size));clear hb)
   try go_wp2_with fail
   refine hK.out _ _ ?_ (fun hHeld=>?_)
   ·exact FS.out _ az.out
   clear hK K
   try simp only [Act.put,sqp]
   refine sqr 7 fun K hK=>?_
   go_simp
   (go_at_call 19;refine ((CT.out _ az.out)).mono ?_;rintro e v8 ⟨rfl,hb⟩;have a0:=hid (az.out.trans (hb.mono az.out.size));clear hb)
   try go_wp2_with fail
   refine hK.out _ _ ?_ (fun hHeld=>?_)
   ·exact FS.out _ a0.out
   clear hK K
   try simp only [Act.put,sqp]
   refine sqt 10 ?_
   refine sqt 11 ?_
   refine sqt 12 ?_
   refine sqt 13 ?_
   refine sqr 14 fun K hK=>?_
   go_simp
   (go_at_call 18;refine ((CR.out _ a0.out)).mono ?_;rintro e v9 ⟨rfl,hb⟩;have a1:=hid (a0.out.trans (hb.mono a0.out.size));clear hb)
   try go_wp2_with fail
   refine hK.out _ _ ?_ (fun hHeld=>?_)
   ·exact FS.out _ a1.out
   clear hK K
   try simp only [Act.put,sqp]
   refine sqr 15 fun K hK=>?_
   go_simp
   (go_at_call 20;refine ((CY.out _ a1.out)).mono ?_;rintro e v10 ⟨rfl,hb⟩;have aq:=hid (a1.out.trans (hb.mono a1.out.size));clear hb)
   try go_wp2_with fail
   refine hK.out _ _ ?_ (fun hHeld=>?_)
   ·exact FS.out _ aq.out
   clear hK K
   try simp only [Act.put,sqp]
   refine sqt 16 ?_
   refine sqt 17 ?_
   refine sqt 18 ?_
   refine sqt 19 ?_
   refine sqt 20 ?_
   refine sqt 21 ?_
   refine sqt 22 ?_
   refine sqt 23 ?_
   refine sqt 24 ?_
   refine sqt 25 ?_
   refine sqt 26 ?_
   refine sqt 27 ?_
   refine sqr 28 fun K hK=>?_
   go_simp
   (go_at_call 9;refine (mB _).mono ?_;rintro e v11 ⟨rfl,hb⟩;have bb:=hid (aq.out.trans (hb.mono aq.out.size));clear hb)
   try go_wp2_with fail
   refine hK.out _ _ ?_ (fun hHeld=>?_)
   ·exact FS.out _ bb.out
   clear hK K
   try simp only [Act.put,sqp]
   refine sqt 29 ?_
   refine sqt 30 ?_
   refine wpAnyH_done (by kernel_rfl) ?_ _
   go_wp2
   go_ret
   exact ⟨rfl,an.out.trans (bb.out.mono an.out.size)⟩
set_option maxRecDepth 100000 in
set_option maxHeartbeats 3200000 in
theorem oG (a:Option Addr) (l:List Opr) (c n:Nat) (nm:ByteArray) (w:World) (hr:Oprs w (·<w.heap.size) a l) (hn:l.length=n) (hm:n≤maxLen) (hw:fewO l=false) :
 Calls Tryz.prog 3 #[.slice a n c,.string nm] w fun e w'=>e=.returned (.bool true)∧Below w.heap.size w w':=by
 have cw:=qP a l c w hr (by omega)
 rw [hn,hw] at cw
 have CW:=hid cw
 clear cw hr hn hm hw
 go_enter Tryz.func3,Tryz.ntmps3
 go_wp2_with fail
 refine CW.out.mono ?_;rintro e w1 ⟨rfl,rfl⟩
 go_wp2_with fail
 refine (mB _).mono ?_;rintro e w2 ⟨rfl,aa⟩
 go_wp2
 go_ret
 exact ⟨rfl,aa⟩
theorem editorPlays_walk (a:Option Addr) (l:List Opr) (c:Nat) (nm:ByteArray) (w:World) (hr:Oprs w (·<w.heap.size) a l) (hf:∀ x∈l,x.fits) (hm:l.length≤maxLen) (_hs:nm.size≤maxLen) :
 Calls Tryz.prog 3 #[.slice a l.length c,.string nm] w fun e w'=>e=.returned (.bool true)∧Below w.heap.size w w':=by
 cases h:fewO l
 ·exact oG a l c _ nm w hr rfl hm h
 ·exact pE a l c _ nm w hr hf rfl h
end Go.Proofs.YtfiobemeogaaiaaGreat
