/-
  LawRpl2
-/
import Derived.Test.YtbagenpobcgjnaaGreatJSq
import Derived.Test.YtbagenpobcgjnaaGreatLawRpl
import Derived.Test.YtbagenpobcgjnaaGreatJOpenSta2
import Derived.Test.YtbagenpobcgjnaaGreatJOpenOps
namespace Go.Proofs.YtbagenpobcgjnaaGreat
open Go.Proofs.Tryz
set_option maxRecDepth 100000
open Lib (hid)
open Go.RowKit
set_option linter.unusedVariables false
set_option linter.unusedSimpArgs false
theorem Oprs.take {w:World} {B:Nat→Prop} {a:Option Addr} {l:List Opr} (h:Oprs w B a l) (n:Nat):Oprs w B a (l.take n):=fun k hk=>by
 have hk2:k<l.length:=by rw [List.length_take] at hk;omega
 obtain ⟨ad,e,hb,q⟩:=h k hk2
 exact ⟨ad,e,hb,by rw [List.getElem_take];exact q⟩
theorem Oprs.drop {w:World} {B:Nat→Prop} {ad:Addr} {l:List Opr} (h:Oprs w B (some ad) l) (n:Nat):Oprs w B (some (ad.add (n * 4))) (l.drop n):=fun k hk=>by
 have hk2:n+k<l.length:=by rw [List.length_drop] at hk;omega
 obtain ⟨ad',e,hb,q⟩:=h (n+k) hk2
 obtain rfl:ad=ad':=by injection e
 have e1:(ad.add (n * 4)).add (k * 4)=ad.add ((n+k) * 4):=by rw [xR];congr 1;omega
 exact ⟨_,rfl,by rw [bD];exact hb,by rw [e1,List.getElem_drop];exact q⟩
set_option maxHeartbeats 3200000 in
theorem mK (a:Option Addr) (l:List Opr) (c n:Nat) (at':Int) (w:World) (hr:Oprs w (·<w.heap.size) a l) (hn:l.length=n) (hm:n≤maxLen) (hw:few4 l=false) :
 Calls prog 6 #[.slice a n c,.int .i64 at'] w fun e w'=>e=.returned (.bool true)∧Below w.heap.size w w':=by
 have cw:=gP a l c w hr (by rw [hn];exact hm)
 rw [hn,hw] at cw
 have CW:=hid cw
 clear cw hr hn hm hw
 go_enter func6,ntmps6
 go_wp2_with fail
 refine CW.out.mono ?_;rintro e w1 ⟨rfl,rfl⟩
 go_wp2_with fail
 refine (cO _).mono ?_;rintro e w2 ⟨rfl,aa⟩
 have ab:=hid aa
 clear aa
 go_wp2
 go_ret
 exact ⟨rfl,ab.out⟩
set_option maxHeartbeats 3200000 in
theorem mW (a:Option Addr) (l:List Opr) (c n:Nat) (at':Int) (w:World) (hr:Oprs w (·<w.heap.size) a l) (hn:l.length=n) (hw:few4 l=true) (h1:at'<0) :
 Calls prog 6 #[.slice a n c,.int .i64 at'] w fun e w'=>e=.returned (.bool true)∧Below w.heap.size w w':=by
 have hm:n≤maxLen:=by have:=(eD.1 hw).1;rw [hn] at this;unfold maxLen;omega
 have cw:=gP a l c w hr (by rw [hn];exact hm)
 rw [hn,hw] at cw
 have CW:=hid cw
 clear cw hr hn hm hw
 go_enter func6,ntmps6
 go_wp2_with fail
 refine CW.out.mono ?_;rintro e w1 ⟨rfl,rfl⟩
 go_wp2_with fail
 refine (cO _).mono ?_;rintro e w2 ⟨rfl,aa⟩
 have ab:=hid aa
 clear aa
 go_wp2
 go_ret
 exact ⟨rfl,ab.out⟩
set_option maxHeartbeats 3200000 in
theorem nG (a:Option Addr) (l:List Opr) (c n:Nat) (at':Int) (w:World) (hr:Oprs w (·<w.heap.size) a l) (hn:l.length=n) (hw:few4 l=true) (h1:¬ at'<0) (h2:(n:Int)<at') :
 Calls prog 6 #[.slice a n c,.int .i64 at'] w fun e w'=>e=.returned (.bool true)∧Below w.heap.size w w':=by
 have hm:n≤maxLen:=by have:=(eD.1 hw).1;rw [hn] at this;unfold maxLen;omega
 have cw:=gP a l c w hr (by rw [hn];exact hm)
 rw [hn,hw] at cw
 have CW:=hid cw
 clear cw hr hn hm hw
 go_enter func6,ntmps6
 go_wp2_with fail
 refine CW.out.mono ?_;rintro e w1 ⟨rfl,rfl⟩
 go_wp2_with fail
 refine (cO _).mono ?_;rintro e w2 ⟨rfl,aa⟩
 have ab:=hid aa
 clear aa
 go_wp2
 go_ret
 exact ⟨rfl,ab.out⟩
set_option maxHeartbeats 3200000 in
theorem pE (a:Option Addr) (l:List Opr) (c n:Nat) (at':Int) (w:World) (hr:Oprs w (·<w.heap.size) a l) (hn:l.length=n) (i:Nat) (hat:at'=i) (hi:i≤n) (hlc:n≤c) (hcm:c≤maxLen) (hnil:a=none→c=0) (hf:∀ x∈l,x.fits) (hw:few4 l=true) :
 Calls prog 6 #[.slice a n c,.int .i64 at'] w fun e w'=>e=.returned (.bool true)∧Below w.heap.size w w':=by
 subst hat
 have h40:=(eD.1 hw).1
 rw [hn] at h40
 have cw:=gP a l c w hr (by rw [hn];unfold maxLen;omega)
 rw [hn,hw] at cw
 have hfit:∀ x∈l,i64P x.a∧x.s.size≤1000000:=fun x hx=>⟨GT (hf x hx),Nat.le_trans ((eD.1 hw).2 x hx) (by decide)⟩
 have crun:=fun (s:Sta) (a':Option Addr) (l':List Opr) (c' n':Nat) (S':List Nat) V (hS':InS S' V) (hs:StaIn V s) (hz:StaZ s) (hr':Oprs V (·<V.heap.size) a' l') (hn':l'.length=n') (hle:n'≤n) (hsub:∀ x∈l',x∈l)=>qP s l' a' c' n' S' V hS' hs hz hr' hn' (by omega) (fun x hx=>hfit x (hsub x hx))
 have hrow:=fun V (hV:Below w.heap.size w V)=>(hr.below (fun _ h=>h) hV).more fun b h=>Nat.lt_of_lt_of_le h hV.size
 have happ:opsL l=opsL (l.take i)++opsL (l.drop i):=by unfold opsL;rw [← List.map_append,List.take_append_drop]
 have hrun:=NT (opsL (l.take i)) (opsL (l.drop i)) stD0
 rw [← happ] at hrun
 have c1:=crun staZ a l c n [] w (fun i hi=>absurd hi (by simp)) (lI w) oJ hr hn (Nat.le_refl _) (fun x hx=>hx)
 rw [show runS staZ (opsL l)=runR stD0 (opsL l) from if_pos fD] at c1
 have c2:=fun V (hV:Below w.heap.size w V)=>crun staZ a (l.take i) c i [] V (fun i hi=>absurd hi (by simp)) (lI V) oJ ((hrow V hV).take i) (by rw [List.length_take];omega) hi (fun x hx=>List.mem_of_mem_take hx)
 rw [show runS staZ (opsL (l.take i))=runR stD0 (opsL (l.take i)) from if_pos fD] at c2
 have a1:=uL (opsL l) stD0 pB
 have a2:=uL (opsL (l.take i)) stD0 pB
 obtain ⟨⟨rd,rn,re⟩,hR⟩:∃ R,runR stD0 (opsL l)=R:=⟨_,rfl⟩
 obtain ⟨⟨qd,qn,qe⟩,hQ⟩:∃ Q,runR stD0 (opsL (l.take i))=Q:=⟨_,rfl⟩
 rw [hR] at c1 a1 hrun
 rw [hQ] at a2 hrun c2
 simp only at a1 a2 hrun
 have CW:=hid cw;have C1:=hid c1;have C2:=hid c2;have a5:=hid crun;have a6:=hid hrow;have ao:=hid a1;have a7:=hid a2;have al:=hid hrun;have HR:=hid hR;have HN:=hid hn;have bz:=hid hnil;have am:=hid hfit;have HW:=hid hw
 have z0:(0:Int)≤(i:Int):=by omega
 have z1:(i:Int)≤(n:Int):=by omega
 have z2:(i:Int)≤(c:Int):=by omega
 have z3:¬ (i:Int)<0:=by omega
 have z4:¬ (n:Int)<(i:Int):=by omega
 clear cw c1 c2 crun hrow a1 a2 hrun hR hQ hn hnil hfit hw happ hf hr
 go_enter func6,ntmps6
 go_wp2_with fail
 refine CW.out.mono ?_;rintro e w1 ⟨rfl,rfl⟩
 go_wp2_with fail
 refine C1.out.mono ?_;rintro e w2 ⟨⟨t1,⟨ma1,ml1,mc1⟩,⟨ua1,ul1,uc1⟩,⟨ra1,rl1,rc1⟩,so1,⟨ga1,gl1,gc1⟩⟩,rfl,bi,ai,ae⟩
 obtain ⟨W1,bj,k1,af,b7⟩:=box1 w2 #[.string t1,.slice ma1 ml1.length mc1,.slice ua1 ul1.length uc1,.slice ra1 rl1.length rc1,.bool so1,.slice ga1 gl1.length gc1] 26
 have hb:=ae.trans (af.mono ae.size)
 have aj:=hid bi;have bk:=hid (ai.in.later af);have K1:=hid k1;have a8:=hid hb;have b8:=hid bj
 clear bi ai ae bj k1 af hb C1
 go_wp2_with fail
 rw [b8.out]
 refine (C2.out _ a8.out).mono ?_;rintro e w3 ⟨⟨t2,⟨ma2,ml2,mc2⟩,⟨ua2,ul2,uc2⟩,⟨ra2,rl2,rc2⟩,so2,⟨ga2,gl2,gc2⟩⟩,rfl,bl,bm,ab⟩
 obtain ⟨W3,bn,k2,ag,b9⟩:=box1 w3 #[.string t2,.slice ma2 ml2.length mc2,.slice ua2 ul2.length uc2,.slice ra2 rl2.length rc2,.bool so2,.slice ga2 gl2.length gc2] 26
 have hx:=ab.trans (ag.mono ab.size)
 have aq:=hid bl;have bo:=hid (bm.in.later ag);have K2:=hid k2;have ah:=hid (a8.out.trans (hx.mono a8.out.size));have a9:=hid bn
 have K13:=hid (K1.out.onto hx);have a0:=hid (bk.out.later hx)
 clear bl bm ab bn k2 ag hx C2 K1 bk
 by_cases hq:qe=0
 ·subst hq
  simp only [if_true] at al
  go_wp2_with fail
  rw [a9.out]
  obtain ⟨d,hd⟩:∃ d,(if c=i then a else a.map fun x=>x.add (i * 4))=d:=⟨_,rfl⟩
  have hrd:∀ V,Below w.heap.size w V→Oprs V (·<V.heap.size) d (l.drop i):=fun V hV=>by
   by_cases hci:c=i
   ·rw [List.drop_of_length_le (by rw [HN.out];omega)]
    exact fun k hk=>absurd hk (by simp)
   ·obtain ⟨ad,ha⟩:∃ ad,a=some ad:=by
     cases ha:a with
     | none=>have:=bz.out ha;omega
     | some ad=>exact ⟨ad,rfl⟩
    rw [← hd,if_neg hci,ha]
    exact Oprs.drop (by have:=a6.out V hV;rw [ha] at this;exact this) i
  have ca:=hid hrd;have cd:=hid hd
  clear hrd hd
  obtain ⟨⟨pd,pn,pe⟩,hP⟩:∃ P,runR qd (opsL (l.drop i))=P:=⟨_,rfl⟩
  have hrun:=al.out
  rw [hP] at hrun
  obtain ⟨h1,h2⟩:=Prod.mk.inj hrun
  obtain ⟨h3,h4⟩:=Prod.mk.inj h2
  simp only at h1 h3 h4
  clear hrun h2 al
  subst h1 h3 h4
  have hpn:qn+pn≤40:=by
   have:=nR (opsL l) stD0
   rw [HR.out,iQ,HN.out] at this
   exact Nat.le_trans this h40
  have C3:=hid (fun V (S':List Nat) (hV:Below W3.heap.size W3 V) (hI:InS S' V)=>(by
   have h1:=a5.out ⟨t2,⟨ma2,ml2,mc2⟩,⟨ua2,ul2,uc2⟩,⟨ra2,rl2,rc2⟩,so2,⟨ga2,gl2,gc2⟩⟩ d (l.drop i) (c - i) (n - i) S' V hI (bo.out.later hV) (show InvS (Sta.d ⟨t2,⟨ma2,ml2,mc2⟩,⟨ua2,ul2,uc2⟩,⟨ra2,rl2,rc2⟩,so2,⟨ga2,gl2,gc2⟩⟩) by rw [aq.out];exact a7.out).z25 (ca.out V (ah.out.trans (hV.mono ah.out.size))) (by rw [List.length_drop,HN.out]) (by omega) (fun x hx=>List.mem_of_mem_drop hx)
   have h2:runS ⟨t2,⟨ma2,ml2,mc2⟩,⟨ua2,ul2,uc2⟩,⟨ra2,rl2,rc2⟩,so2,⟨ga2,gl2,gc2⟩⟩ (opsL (l.drop i))=(rd,pn,re):=by
    unfold runS
    rw [if_pos ((lU _).2 (show InvS (Sta.d ⟨t2,⟨ma2,ml2,mc2⟩,⟨ua2,ul2,uc2⟩,⟨ra2,rl2,rc2⟩,so2,⟨ga2,gl2,gc2⟩⟩) by rw [aq.out];exact a7.out)),show Sta.d ⟨t2,⟨ma2,ml2,mc2⟩,⟨ua2,ul2,uc2⟩,⟨ra2,rl2,rc2⟩,so2,⟨ga2,gl2,gc2⟩⟩=qd from aq.out,hP]
   rw [h2] at h1
   exact h1:Calls prog 10 #[.agg #[.string t2,.slice ma2 ml2.length mc2,.slice ua2 ul2.length uc2,.slice ra2 rl2.length rc2,.bool so2,.slice ga2 gl2.length gc2],.slice d (n - i) (c - i)] V (RetRun S' V (rd,pn,re))))
  clear a5 hP b7 b9
  have k2:=K2.out
  have FS:=hid (fun V (hV:Below W3.heap.size W3 V)=>(⟨(k2.onto hV).cell 0 _ rfl,(k2.onto hV).cell 1 _ rfl,(k2.onto hV).cell 2 _ rfl,(k2.onto hV).cell 3 _ rfl,(k2.onto hV).cell 4 _ rfl,(k2.onto hV).cell 5 _ rfl⟩:(fun V:World=>V.cell? ⟨w3.heap.size,0,none⟩=some (.string t2)∧V.cell? ⟨w3.heap.size,1,none⟩=some (.slice ma2 ml2.length mc2)∧V.cell? ⟨w3.heap.size,2,none⟩=some (.slice ua2 ul2.length uc2)∧V.cell? ⟨w3.heap.size,3,none⟩=some (.slice ra2 rl2.length rc2)∧V.cell? ⟨w3.heap.size,4,none⟩=some (.bool so2)∧V.cell? ⟨w3.heap.size,5,none⟩=some (.slice ga2 gl2.length gc2)) V))
  clear k2
  refine wp_region_held_drew (S:=(fun V:World=>V.cell? ⟨w3.heap.size,0,none⟩=some (.string t2)∧V.cell? ⟨w3.heap.size,1,none⟩=some (.slice ma2 ml2.length mc2)∧V.cell? ⟨w3.heap.size,2,none⟩=some (.slice ua2 ul2.length uc2)∧V.cell? ⟨w3.heap.size,3,none⟩=some (.slice ra2 rl2.length rc2)∧V.cell? ⟨w3.heap.size,4,none⟩=some (.bool so2)∧V.cell? ⟨w3.heap.size,5,none⟩=some (.slice ga2 gl2.length gc2))) (by kernel_rfl) (FS.out _ (Below.refl _ _).drew) (fun hHeld=>?_)
  refine sqt 0 ?_
  refine sqt 1 ?_
  refine sqt 2 ?_
  refine wpAnyH_take (i:=3) (v:=.slice d (n - i) (c - i)) (by simp only [sqg];rfl) (by kernel_rfl) (by kernel_rfl) (by kernel_rfl) (fun _ _ _ h=>by exact h) (Or.inl ⟨by rfl,?_⟩) (by assumption) ?_
  ·(intro w hSw;(try dsimp only at hSw);go_simp;exact cd.out)
  try simp only [Act.put,sqp]
  refine wpAnyH_ready (rs:=[4,9]) (by kernel_rfl) (by simp) ?_
  refine AllReadyH.cons (by simp only [sqg];rfl) (fun K hK=>?ga) (AllReadyH.cons (by simp only [sqg];rfl) (fun K hK=>?gb) AllReadyH.nil)
  case' gb =>
   go_simp
   skip
   try go_wp2_with fail
   refine hK.out _ _ ?_ (fun hHeld=>?_)
   ·exact FS.out _ ((Below.refl _ _).drew.alloc (Nat.le_refl _) _)
   clear hK K
   try simp only [Act.put,sqp]
   refine sqr 4 fun K hK=>?_
   go_simp
   (go_at_call 10;refine (C3.out _ [W3.heap.size] ((Below.refl _ _).drew.alloc (Nat.le_refl _) _) (fun i hi=>by rw [List.mem_singleton.1 hi,World.size_alloc];exact Nat.lt_succ_self _)).mono ?_;rintro e w1 ⟨⟨t3,⟨ma3,ml3,mc3⟩,⟨ua3,ul3,uc3⟩,⟨ra3,rl3,rc3⟩,so3,⟨ga3,gl3,gc3⟩⟩,rfl,ar,au,ab⟩;have av:=((Below.refl W3.heap.size W3).drew.alloc (Nat.le_refl _) _).trans (ab.mono (by simp));have ba:=hid (show Blk w1 W3.heap.size #[.string ⟨#[]⟩,.slice none 0 0,.slice none 0 0,.slice none 0 0,.bool false,.slice none 0 0] 26 from (Blk.new W3.drew #[.string ⟨#[]⟩,.slice none 0 0,.slice none 0 0,.slice none 0 0,.bool false,.slice none 0 0] 26).onto ab);have aa:=hid av;have aw:=hid au;have bb:=hid ar;clear ab av au ar C3)
   try go_wp2_with fail
   refine hK.out _ _ ?_ (fun hHeld=>?_)
   ·exact FS.out _ aa.out
   clear hK K
   try simp only [Act.put,sqp]
   refine sqt 5 ?_
   refine sqt 6 ?_
   refine sqt 7 ?_
   refine sqt 8 ?_
   have kt:Blk w1 W3.heap.size #[.string ⟨#[]⟩,.slice none 0 0,.slice none 0 0,.slice none 0 0,.bool false,.slice none 0 0] 26:=ba.out
   obtain ⟨y0,y1,y2,y3,y4,y5,g0,g1,g2,g3,g4,g5⟩:=kt.all6
   refine sqr 10 fun K hK=>?_
   go_simp
   skip
   try go_wp2_with fail
   refine hK.out _ _ ?_ (fun hHeld=>?_)
   ·exact FS.out _ (by (iterate 6 refine Below.setCell ?_ (by show W3.heap.size≤W3.heap.size;exact Nat.le_refl _) _);exact aa.out)
   clear hK K
   try simp only [Act.put,sqp]
   refine sqt 11 ?_
   refine sqt 12 ?_
   refine wpAnyH_done (by kernel_rfl) ?_ _
   obtain ⟨v,hv⟩:∃ v,World.setCell (World.setCell (World.setCell (World.setCell (World.setCell (World.setCell w1 ⟨W3.heap.size,0,none⟩ (.string t3)) ⟨W3.heap.size,1,none⟩ (.slice ma3 ml3.length mc3)) ⟨W3.heap.size,2,none⟩ (.slice ua3 ul3.length uc3)) ⟨W3.heap.size,3,none⟩ (.slice ra3 rl3.length rc3)) ⟨W3.heap.size,4,none⟩ (.bool so3)) ⟨W3.heap.size,5,none⟩ (.slice ga3 gl3.length gc3)=v:=⟨_,rfl⟩
   obtain ⟨bt,hbt⟩:∃ x,W3.heap.size=x:=⟨_,rfl⟩
   have k2:Blk (World.setCell (World.setCell (World.setCell (World.setCell (World.setCell (World.setCell w1 ⟨W3.heap.size,0,none⟩ (.string t3)) ⟨W3.heap.size,1,none⟩ (.slice ma3 ml3.length mc3)) ⟨W3.heap.size,2,none⟩ (.slice ua3 ul3.length uc3)) ⟨W3.heap.size,3,none⟩ (.slice ra3 rl3.length rc3)) ⟨W3.heap.size,4,none⟩ (.bool so3)) ⟨W3.heap.size,5,none⟩ (.slice ga3 gl3.length gc3)) W3.heap.size #[.string t3,.slice ma3 ml3.length mc3,.slice ua3 ul3.length uc3,.slice ra3 rl3.length rc3,.bool so3,.slice ga3 gl3.length gc3] 26:=(((((ba.out.set 0 _).set 1 _).set 2 _).set 3 _).set 4 _).set 5 _
   have bc:Below W3.heap.size W3 (World.setCell (World.setCell (World.setCell (World.setCell (World.setCell (World.setCell w1 ⟨W3.heap.size,0,none⟩ (.string t3)) ⟨W3.heap.size,1,none⟩ (.slice ma3 ml3.length mc3)) ⟨W3.heap.size,2,none⟩ (.slice ua3 ul3.length uc3)) ⟨W3.heap.size,3,none⟩ (.slice ra3 rl3.length rc3)) ⟨W3.heap.size,4,none⟩ (.bool so3)) ⟨W3.heap.size,5,none⟩ (.slice ga3 gl3.length gc3)):=by
    iterate 6 refine Below.setCell ?_ (by show W3.heap.size≤W3.heap.size;exact Nat.le_refl _) _
    exact aa.out
   have ap2:Apart [W3.heap.size] w1 (World.setCell (World.setCell (World.setCell (World.setCell (World.setCell (World.setCell w1 ⟨W3.heap.size,0,none⟩ (.string t3)) ⟨W3.heap.size,1,none⟩ (.slice ma3 ml3.length mc3)) ⟨W3.heap.size,2,none⟩ (.slice ua3 ul3.length uc3)) ⟨W3.heap.size,3,none⟩ (.slice ra3 rl3.length rc3)) ⟨W3.heap.size,4,none⟩ (.bool so3)) ⟨W3.heap.size,5,none⟩ (.slice ga3 gl3.length gc3)):=by
    iterate 6 refine Apart.setCell ?_ (.inl (by simp)) _
    exact Apart.refl _ _
   have rs2:=(aw.out.apart ap2).in
   rw [hv] at k2 bc rs2
   rw [hv,hbt]
   have KT:=hid (show Blk v bt #[.string t3,.slice ma3 ml3.length mc3,.slice ua3 ul3.length uc3,.slice ra3 rl3.length rc3,.bool so3,.slice ga3 gl3.length gc3] 26 by rw [← hbt];exact k2);have HX:=hid bc;have RS:=hid rs2
   clear hv hbt k2 bc ap2 rs2 aa aw ba kt y0 y1 y2 y3 y4 y5 g0 g1 g2 g3 g4 g5
  case' ga =>
   go_simp
   (go_at_call 10;refine (C3.out _ [] (Below.refl _ _).drew (fun i hi=>absurd hi (by simp))).mono ?_;rintro e w1 ⟨⟨t3,⟨ma3,ml3,mc3⟩,⟨ua3,ul3,uc3⟩,⟨ra3,rl3,rc3⟩,so3,⟨ga3,gl3,gc3⟩⟩,rfl,ar,au,ab⟩;have av:=(Below.refl W3.heap.size W3).drew.trans ab;have aa:=hid av;have aw:=hid au;have bb:=hid ar;clear ab av au ar C3)
   try go_wp2_with fail
   refine hK.out _ _ ?_ (fun hHeld=>?_)
   ·exact FS.out _ aa.out
   clear hK K
   try simp only [Act.put,sqp]
   refine sqt 5 ?_
   refine sqt 6 ?_
   refine sqt 7 ?_
   refine sqt 8 ?_
   refine sqr 9 fun K hK=>?_
   go_simp
   skip
   try go_wp2_with fail
   refine hK.out _ _ ?_ (fun hHeld=>?_)
   ·exact FS.out _ (aa.out.alloc aa.out.size _)
   clear hK K
   try simp only [Act.put,sqp]
   refine sqr 10 fun K hK=>?_
   go_simp
   skip
   try go_wp2_with fail
   refine hK.out _ _ ?_ (fun hHeld=>?_)
   ·exact FS.out _ (aa.out.alloc aa.out.size _)
   clear hK K
   try simp only [Act.put,sqp]
   refine sqt 11 ?_
   refine sqt 12 ?_
   refine wpAnyH_done (by kernel_rfl) ?_ _
   obtain ⟨v,hv,kt,hbv,hzv⟩:=box1 w1 #[.string t3,.slice ma3 ml3.length mc3,.slice ua3 ul3.length uc3,.slice ra3 rl3.length rc3,.bool so3,.slice ga3 gl3.length gc3] 26
   obtain ⟨bt,hbt⟩:∃ x,w1.heap.size=x:=⟨_,rfl⟩
   rw [hv,hbt]
   rw [hbt] at kt
   have KT:=hid kt;have HX:=hid (aa.out.trans (hbv.mono aa.out.size));have RS:=hid (aw.out.in.later hbv)
   clear hv hbt kt hbv hzv aa aw
  all_goals
   have hx:=HX.out
   have ai:=a0.out.later hx
   have cs:=gT ⟨t1,⟨ma1,ml1,mc1⟩,⟨ua1,ul1,uc1⟩,⟨ra1,rl1,rc1⟩,so1,⟨ga1,gl1,gc1⟩⟩ ⟨t3,⟨ma3,ml3,mc3⟩,⟨ua3,ul3,uc3⟩,⟨ra3,rl3,rc3⟩,so3,⟨ga3,gl3,gc3⟩⟩ v ai RS.out (show InvS (Sta.d ⟨t1,⟨ma1,ml1,mc1⟩,⟨ua1,ul1,uc1⟩,⟨ra1,rl1,rc1⟩,so1,⟨ga1,gl1,gc1⟩⟩) by rw [aj.out];exact ao.out).few (show InvS (Sta.d ⟨t3,⟨ma3,ml3,mc3⟩,⟨ua3,ul3,uc3⟩,⟨ra3,rl3,rc3⟩,so3,⟨ga3,gl3,gc3⟩⟩) by rw [bb.out];exact ao.out).few
   rw [show Sta.d ⟨t1,⟨ma1,ml1,mc1⟩,⟨ua1,ul1,uc1⟩,⟨ra1,rl1,rc1⟩,so1,⟨ga1,gl1,gc1⟩⟩=Sta.d ⟨t3,⟨ma3,ml3,mc3⟩,⟨ua3,ul3,uc3⟩,⟨ra3,rl3,rc3⟩,so3,⟨ga3,gl3,gc3⟩⟩ from aj.out.trans bb.out.symm,iT] at cs
   have CS:=hid cs;have bd:=hid (ah.out.trans (hx.mono ah.out.size));have K14:=hid (K13.out.onto hx);have bf:=hid ai
   obtain ⟨x0,x1,x2,x3,x4,x5,-,-,-,-,-,-⟩:=(K13.out.onto hx).all6
   obtain ⟨y0,y1,y2,y3,y4,y5,-,-,-,-,-,-⟩:=KT.out.all6
   have r1:(((qn+pn:Nat):Int) != (qn:Int)+(pn:Int))=false:=by simp
   have r2:IntKind.i64.wrap ((qn:Int)+(pn:Int))=(qn:Int)+(pn:Int):=by rw [IntKind.wrap_i64];omega
   clear hx ai cs FS K13 a0 ah
   go_wp2_with fail
   refine CS.out.mono ?_;rintro e w6 ⟨rfl,a4⟩
   have bg:=hid (bd.out.trans (a4.mono bd.out.size));have K16:=hid (K14.out.onto a4);have b3:=hid (bf.out.later a4)
   clear a4 x0 x1 x2 x3 x4 x5 y0 y1 y2 y3 y4 y5 CS K14 bf bd KT RS HX
   obtain ⟨i0,ce,b4,b5,b6⟩:=info_parts LA
   have hrn:qn+pn≤n:=by
    have:=nR (opsL l) stD0
    rw [HR.out,iQ,HN.out] at this
    exact this
   have bp:=bg.out.size
   go_wp2
   go_loopw [14,15] (fun f j wr=>∃ k:Nat,k≤qn+pn∧j=.int .i64 k∧wr.ownsRow w6.heap.size 38 3 f k (Frm.flat ((l.take k).map frmC))∧(∀ x∈l.take k,(bytC x).2=0)∧Below w6.heap.size w6 wr) (fun _ j _=>qn+pn - (intOf j).toNat)
   case atStart=>exact ⟨0,Nat.zero_le _,rfl,World.ownsRow_nil _ _ _ _,fun x hx=>absurd hx (by simp),Below.refl _ _⟩
   case round =>
    obtain ⟨k,hk,rfl,hown,hall,hbel⟩:=hrel
    have hbw:=bg.out.trans (hbel.mono bp)
    by_cases hlt:k<qn+pn
    ·have hkl:k<l.length:=by rw [HN.out];omega
     obtain ⟨ad,ha,hab,q0,q1,q2,q3⟩:=a6.out wr hbw k hkl
     have hfx:=am.out l[k] (List.getElem_mem hkl)
     have cc:=AV l[k] wr
     have cb:=fun V=>AL (cleanO l[k]).k (cleanO l[k]).a (cleanO l[k]).n (cleanO l[k]).s (Nat.le_trans (jI l[k]) (Nat.le_trans hfx.2 (by decide))) V
     rw [show bytesR (cleanO l[k]).k (cleanO l[k]).a (cleanO l[k]).n (cleanO l[k]).s=bytC l[k] from rfl] at cb
     have hnext:∀ y,(∀ x∈l.take k,(bytC x).2=0)→l[k]=y→(bytC y).2=0→∀ x∈l.take (k+1),(bytC x).2=0:=fun y h e h2 x hx=>by
      rw [List.take_add_one,List.getElem?_eq_getElem hkl,e] at hx
      rcases List.mem_append.1 hx with hx|hx
      ·exact h x hx
      ·have:x=y:=by simpa using hx
       rw [this];exact h2
     have hflat:Frm.flat ((l.take (k+1)).map frmC)=Frm.flat ((l.take k).map frmC)++[.int .i64 0,.int .i64 0,.string (bytC l[k]).1]:=by
      rw [List.take_add_one,List.getElem?_eq_getElem hkl,List.map_append,Frm.flat_app]
      rfl
     have hbs:=rL l[k]
     obtain ⟨y,hy⟩:∃ y,l[k]=y:=⟨_,rfl⟩
     have hnx:=hnext y hall hy
     rw [hy] at q0 q1 q2 q3 cc cb hflat hbs hfx
     obtain ⟨⟨bs,be⟩,hby⟩:∃ z,bytC y=z:=⟨_,rfl⟩
     rw [hby] at cb hnx hflat hbs
     simp only at cb hnx hflat hbs
     subst ha
     have CC:=hid cc;have CB:=hid cb;have cg:=hid hnx;have ch:=hid hflat;have co:=hid hbs
     have b0:(0:Int)≤(k:Int):=by omega
     have b1:(k:Int)<(n:Int):=by omega
     have b2:(k:Int)<(qn:Int)+(pn:Int):=by omega
     clear cc cb hnext hnx hflat hbs hy hby hall hab hfx
     go_wp2_with fail
     refine CC.out.mono ?_;rintro e v1 ⟨rfl,ae⟩
     have bq:=hid (hbel.trans (ae.mono hbel.size));have ci:=hid (kY hown ae)
     clear ae q0 q1 q2 q3 CC
     go_wp2_with fail
     refine (CB.out _).mono ?_;rintro e v2 ⟨rfl,af⟩
     have ak:=hid (bq.out.trans (af.mono bq.out.size));have cj:=hid (kY ci.out af)
     clear af CB hbel hown hbw
     by_cases hbe:be=0
     ·subst hbe
      have hsz:=ak.out.size
      have an:=cj.out
      have hnews:=GQ v2 0 0 bs 38
      go_wp2_with (at_builtin;refine wpList_append_own _ rfl _ _ 36 rfl w6.heap.size 38 i0 _ 3 32 underlying36 ce b4 b5 b6 rfl (by decide) _ _ _ rfl (an.alloc _) ⟨v2.heap.size,0,none⟩ 1 1 [.int .i64 0,.int .i64 0,.string bs] rfl rfl hnews (NM _ _ _) (by unfold maxLen;omega) (by omega) (by simp;omega) ?_;intro v' v3 hown' hgrow _)
      have ck:=hid ((ak.out.alloc ak.out.size (.cells #[.int .i64 0,.int .i64 0,.string bs] 38)).grown hgrow (by have:=ak.out.size;simp;omega) (aM an))
      have cl:=hid hown'
      clear hown' hgrow an hnews
      go_wp2
      go_roundw
      case rel=>exact ⟨k+1,by omega,by go_num,by rw [ch.out];exact cl.out,cg.out (by trivial),ck.out⟩
      case measure=>simp [intOf];omega
     ·have g1:(be != 0)=true:=by simp [hbe]
      go_wp2_with fail
      refine (cO _).mono ?_;rintro e v4 ⟨rfl,ac⟩
      have ax:=hid (bg.out.trans ((ak.out.trans (ac.mono ak.out.size)).mono bp))
      clear ac
      go_wp2
      go_ret
      exact ⟨rfl,ax.out⟩
    ·obtain rfl:k=qn+pn:=by omega
     have hlk:((l.take (qn+pn)).map frmC).length=qn+pn:=by rw [List.length_map,List.length_take,HN.out];omega
     have hmem:∀ x∈(l.take (qn+pn)).map frmC,∃ y∈l,(bytC y).2=0∧x=frmC y:=fun x hx=>by
      obtain ⟨y,hy,rfl⟩:=List.mem_map.1 hx
      exact ⟨y,List.mem_of_mem_take hy,hall y hy,rfl⟩
     obtain ⟨a3,c3,cm,hfr⟩:=LW (l:=(l.take (qn+pn)).map frmC) (by rw [hlk];exact hown)
     subst cm
     have hxs:runR stD0 (frmX ((l.take (qn+pn)).map frmC))=(rd,qn+pn,0):=by
      rw [GA _ hall,wC]
      have h1:=zI (opsL l) stD0
      rw [HR.out] at h1
      simp only at h1
      have h2:opsL (l.take (qn+pn))=(opsL l).take (qn+pn):=by unfold opsL;rw [List.map_take]
      rw [h2]
      exact h1
     have cf:=sZ staZ ((l.take (qn+pn)).map frmC) a3 c3 (qn+pn) [] wr (fun i hi=>absurd hi (by simp)) (lI wr) oJ (hfr.more fun b h=>h.2) hlk (by omega) (fun x hx=>by
      obtain ⟨y,hy,h0,rfl⟩:=hmem x hx
      have:=(am.out y hy).2
      exact Nat.le_trans (rL y) (by omega)) (fun x hx=>by
      obtain ⟨y,hy,h0,rfl⟩:=hmem x hx
      rw [qM h0]
      exact ⟨DK (am.out y hy).1,Nat.le_trans (jI y) (am.out y hy).2⟩)
     rw [show runS staZ (frmX ((l.take (qn+pn)).map frmC))=(rd,qn+pn,0) from (if_pos fD).trans hxs] at cf
     rw [hlk]
     have CF:=hid (show Calls prog 13 #[.agg #[.string ⟨#[]⟩,.slice none 0 0,.slice none 0 0,.slice none 0 0,.bool false,.slice none 0 0],.slice a3 (qn+pn) c3] wr _ from cf);have HV:=hid hbel;have br:=hid hbw
     have b1:¬ (((qn+pn:Nat):Int)<(qn:Int)+(pn:Int)):=by omega
     clear cf hbel hbw hxs hfr hmem hlk hown hall
     go_wp2_with fail
     refine CF.out.mono ?_;rintro e v1 ⟨⟨t4,⟨ma4,ml4,mc4⟩,⟨ua4,ul4,uc4⟩,⟨ra4,rl4,rc4⟩,so4,⟨ga4,gl4,gc4⟩⟩,rfl,bh,bu,ag⟩
     obtain ⟨V,hV,k4,hbV,hzV⟩:=box1 v1 #[.string t4,.slice ma4 ml4.length mc4,.slice ua4 ul4.length uc4,.slice ra4 rl4.length rc4,.bool so4,.slice ga4 gl4.length gc4] 26
     have hx:=ag.trans (hbV.mono ag.size)
     have bv:=bu.in.later hbV
     have bw:=b3.out.later (HV.out.trans (hx.mono HV.out.size))
     have cs:=gT ⟨t1,⟨ma1,ml1,mc1⟩,⟨ua1,ul1,uc1⟩,⟨ra1,rl1,rc1⟩,so1,⟨ga1,gl1,gc1⟩⟩ ⟨t4,⟨ma4,ml4,mc4⟩,⟨ua4,ul4,uc4⟩,⟨ra4,rl4,rc4⟩,so4,⟨ga4,gl4,gc4⟩⟩ V bw bv (show InvS (Sta.d ⟨t1,⟨ma1,ml1,mc1⟩,⟨ua1,ul1,uc1⟩,⟨ra1,rl1,rc1⟩,so1,⟨ga1,gl1,gc1⟩⟩) by rw [aj.out];exact ao.out).few (show InvS (Sta.d ⟨t4,⟨ma4,ml4,mc4⟩,⟨ua4,ul4,uc4⟩,⟨ra4,rl4,rc4⟩,so4,⟨ga4,gl4,gc4⟩⟩) by rw [bh];exact ao.out).few
     rw [show Sta.d ⟨t1,⟨ma1,ml1,mc1⟩,⟨ua1,ul1,uc1⟩,⟨ra1,rl1,rc1⟩,so1,⟨ga1,gl1,gc1⟩⟩=Sta.d ⟨t4,⟨ma4,ml4,mc4⟩,⟨ua4,ul4,uc4⟩,⟨ra4,rl4,rc4⟩,so4,⟨ga4,gl4,gc4⟩⟩ from aj.out.trans bh.symm,iT] at cs
     have CS:=hid cs;have bx:=hid (br.out.trans (hx.mono br.out.size));have cn:=hid hV
     obtain ⟨x0,x1,x2,x3,x4,x5,-,-,-,-,-,-⟩:=(K16.out.onto (HV.out.trans (hx.mono HV.out.size))).all6
     obtain ⟨y0,y1,y2,y3,y4,y5,-,-,-,-,-,-⟩:=k4.all6
     rw [← hV] at x0 x1 x2 x3 x4 x5 y0 y1 y2 y3 y4 y5
     clear bh bu ag hV k4 hbV hx bv bw cs
     go_wp2_with fail
     rw [cn.out]
     refine CS.out.mono ?_;rintro e v6 ⟨rfl,ay⟩
     have az:=hid (bx.out.trans (ay.mono bx.out.size))
     clear ay x0 x1 x2 x3 x4 x5 y0 y1 y2 y3 y4 y5
     go_wp2_with fail
     refine (cO _).mono ?_;rintro e v7 ⟨rfl,ac⟩
     have ax:=hid (az.out.trans (ac.mono az.out.size))
     clear ac
     go_wp2
     go_ret
     exact ⟨by first|rfl|simp,ax.out⟩
 ·have g1:(qe != 0)=true:=by simp [hq]
  have hrun:=al.out
  rw [if_neg hq] at hrun
  obtain ⟨h1,h2⟩:=Prod.mk.inj hrun
  obtain ⟨h3,h4⟩:=Prod.mk.inj h2
  clear hrun h2
  subst h1 h3 h4
  have cs:=fun V (hV:Below W3.heap.size W3 V)=>gT ⟨t1,⟨ma1,ml1,mc1⟩,⟨ua1,ul1,uc1⟩,⟨ra1,rl1,rc1⟩,so1,⟨ga1,gl1,gc1⟩⟩ ⟨t2,⟨ma2,ml2,mc2⟩,⟨ua2,ul2,uc2⟩,⟨ra2,rl2,rc2⟩,so2,⟨ga2,gl2,gc2⟩⟩ V (a0.out.later hV) (bo.out.later hV) (show InvS (Sta.d ⟨t1,⟨ma1,ml1,mc1⟩,⟨ua1,ul1,uc1⟩,⟨ra1,rl1,rc1⟩,so1,⟨ga1,gl1,gc1⟩⟩) by rw [aj.out];exact ao.out).few (show InvS (Sta.d ⟨t2,⟨ma2,ml2,mc2⟩,⟨ua2,ul2,uc2⟩,⟨ra2,rl2,rc2⟩,so2,⟨ga2,gl2,gc2⟩⟩) by rw [aq.out];exact a7.out).few
  rw [show Sta.d ⟨t1,⟨ma1,ml1,mc1⟩,⟨ua1,ul1,uc1⟩,⟨ra1,rl1,rc1⟩,so1,⟨ga1,gl1,gc1⟩⟩=Sta.d ⟨t2,⟨ma2,ml2,mc2⟩,⟨ua2,ul2,uc2⟩,⟨ra2,rl2,rc2⟩,so2,⟨ga2,gl2,gc2⟩⟩ from aj.out.trans aq.out.symm,iT] at cs
  have CS:=hid (cs W3 (Below.refl _ _))
  obtain ⟨x0,x1,x2,x3,x4,x5,-,-,-,-,-,-⟩:=K13.out.all6
  obtain ⟨y0,y1,y2,y3,y4,y5,-,-,-,-,-,-⟩:=K2.out.all6
  rw [← a9.out] at x0 x1 x2 x3 x4 x5 y0 y1 y2 y3 y4 y5
  clear cs
  go_wp2_with fail
  rw [a9.out]
  refine CS.out.mono ?_;rintro e w6 ⟨rfl,ay⟩
  have az:=hid (ah.out.trans (ay.mono ah.out.size))
  clear ay x0 x1 x2 x3 x4 x5 y0 y1 y2 y3 y4 y5
  go_wp2_with fail
  refine (cO _).mono ?_;rintro e w7 ⟨rfl,ac⟩
  have ax:=hid (az.out.trans (ac.mono az.out.size))
  clear ac
  go_wp2
  go_ret
  exact ⟨by first|rfl|simp,ax.out⟩
theorem replayParts_walk (a:Option Addr) (l:List Opr) (c:Nat) (at':Int) (w:World) (hr:Oprs w (·<w.heap.size) a l) (hf:∀ x∈l,x.fits) (hlc:l.length≤c) (hcm:c≤maxLen) (hnil:a=none→c=0) (_:(Lit.int .i64 at').wf=true) :
 Calls prog 6 #[.slice a l.length c,.int .i64 at'] w fun e w'=>e=.returned (.bool true)∧Below w.heap.size w w':=by
 cases ho:few4 l
 ·exact mK a l c _ at' w hr rfl (Nat.le_trans hlc hcm) ho
 by_cases h1:at'<0
 ·exact mW a l c _ at' w hr rfl ho h1
 by_cases h2:(l.length:Int)<at'
 ·exact nG a l c _ at' w hr rfl ho h1 h2
 exact pE a l c _ at' w hr rfl at'.toNat (by omega) (by omega) hlc hcm hnil hf ho
end Go.Proofs.YtbagenpobcgjnaaGreat
