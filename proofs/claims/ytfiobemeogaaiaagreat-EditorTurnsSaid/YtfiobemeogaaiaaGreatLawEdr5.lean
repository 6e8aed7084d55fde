/-
  LawEdr5
-/
import Derived.Test.YtfiobemeogaaiaaGreatJSq
import Derived.Test.YtfiobemeogaaiaaGreatJEdrDev5
import Derived.Test.YtfiobemeogaaiaaGreatJEdrMath
namespace Go.Proofs.YtfiobemeogaaiaaGreat
open Lib (hid)
open Go.RowKit
set_option linter.unusedVariables false
set_option linter.unusedSimpArgs false
abbrev opK (k:Int):Value:=.agg #[.int .i64 k,.int .i64 0,.int .i64 0,.string ⟨#[]⟩]
theorem do5 (s:StaD):doD s 5 0 0 ⟨#[]⟩=undoD s:=by simp [doD]
theorem do6 (s:StaD):doD s 6 0 0 ⟨#[]⟩=redoD s:=by simp [doD]
theorem do8 (s:StaD):doD s 8 0 0 ⟨#[]⟩=endD s:=by simp [doD]
theorem bB {w:World} {T:List Nat} {b:Nat} {s:Sta} {rb:Nat} {p:Option Addr} {L:List ByteArray} (h:IsEd T w b s rb p L) (k:Int) {R:StaD×Int} {c:Int} (hR:doD s.d k 0 0 ⟨#[]⟩=R) (hc:R.2=c) :
 Calls Tryz.prog 12 #[.pointer (some ⟨b,0,none⟩),opK k] w fun e w'=>∃ (s':Sta) (rb':Nat) (p':Option Addr) (L':List ByteArray),e=.returned (.int .i64 c)∧IsEd T w' b s' rb' p' L'∧s'.d=R.1∧Apart [b] w w':=by
 have h1:=bP h k 0 0 ⟨#[]⟩ (by unfold i64P;omega) (by decide)
 rw [hR] at h1
 rw [← hc]
 exact h1
theorem aR {b:Nat} {w:World} (h:b<w.heap.size):InS [b] w:=fun i hi=>by rw [List.mem_singleton.1 hi];exact h
section
variable (t : ByteArray) (ma : Option Addr) (mn mc : Nat) (ua : Option Addr) (un uc : Nat) (ra : Option Addr) (rn rc : Nat) (o : Bool) (ga : Option Addr) (gn gc : Nat)
theorem yV (w:World):(Instr.field 31 (.agg #[.string t,.slice ma mn mc,.slice ua un uc,.slice ra rn rc,.bool o,.slice ga gn gc]) 0).run Tryz.prog w=.ok (.string t) w:=by kernel_rfl
theorem xS (w:World):(Instr.field 31 (.agg #[.string t,.slice ma mn mc,.slice ua un uc,.slice ra rn rc,.bool o,.slice ga gn gc]) 2).run Tryz.prog w=.ok (.slice ua un uc) w:=by kernel_rfl
end
set_option maxRecDepth 100000 in
set_option maxHeartbeats 3200000 in
theorem kR (a:Option Addr) (l:List Opr) (c n:Nat) (xk xa xn:Int) (xs:ByteArray) (w:World) (hr:Oprs w (·<w.heap.size) a l) (hn:l.length=n) (hm:n≤maxLen) (hw:fewO l=false):Calls Tryz.prog 6 #[.slice a n c,.agg #[.int .i64 xk,.int .i64 xa,.int .i64 xn,.string xs]] w fun e w'=>e=.returned (.bool true)∧Below w.heap.size w w':=by
 obtain ⟨wX,hwX,kX,aa,hz⟩:=box1 w #[.int .i64 xk,.int .i64 xa,.int .i64 xn,.string xs] 36
 obtain ⟨z0,z1,z2,z3,-,-,-,-⟩:=kX.four
 have cw:=cW a l c wX ((hr.below (fun _ h=>h) aa).more fun b h=>Nat.lt_of_lt_of_le h aa.size) (by omega)
 rw [hw,hn] at cw
 unfold maxLen at hm
 have CW:=hid cw;have ab:=hid aa
 clear cw hr hn hw kX aa hz
 go_enter Tryz.func6,Tryz.ntmps6
 go_wp2_with fail
 refine CW.out.mono ?_;rintro e w1 ⟨rfl,rfl⟩
 go_wp2_with fail
 refine (aO _).mono ?_;rintro e w2 ⟨rfl,ac⟩
 have ad:=hid (ab.out.trans (ac.mono ab.out.size))
 clear ac z0 z1 z2 z3 hwX
 go_wp2
 go_ret
 exact ⟨rfl,ad.out⟩
set_option maxRecDepth 100000 in
set_option maxHeartbeats 3200000 in
theorem kF (a:Option Addr) (l:List Opr) (c n:Nat) (xk xa xn:Int) (xs:ByteArray) (w:World) (hr:Oprs w (·<w.heap.size) a l) (hn:l.length=n) (hm:n≤maxLen) (hw:fewO l=true) (h1:30<n):Calls Tryz.prog 6 #[.slice a n c,.agg #[.int .i64 xk,.int .i64 xa,.int .i64 xn,.string xs]] w fun e w'=>e=.returned (.bool true)∧Below w.heap.size w w':=by
 obtain ⟨wX,hwX,kX,aa,hz⟩:=box1 w #[.int .i64 xk,.int .i64 xa,.int .i64 xn,.string xs] 36
 obtain ⟨z0,z1,z2,z3,-,-,-,-⟩:=kX.four
 have cw:=cW a l c wX ((hr.below (fun _ h=>h) aa).more fun b h=>Nat.lt_of_lt_of_le h aa.size) (by omega)
 rw [hw,hn] at cw
 unfold maxLen at hm
 have g1:(30:Int)<(n:Int):=by omega
 clear h1
 have CW:=hid cw;have ab:=hid aa
 clear cw hr hn hw kX aa hz
 go_enter Tryz.func6,Tryz.ntmps6
 go_wp2_with fail
 refine CW.out.mono ?_;rintro e w1 ⟨rfl,rfl⟩
 go_wp2_with fail
 refine (aO _).mono ?_;rintro e w2 ⟨rfl,ac⟩
 have ad:=hid (ab.out.trans (ac.mono ab.out.size))
 clear ac z0 z1 z2 z3 hwX
 go_wp2
 go_ret
 exact ⟨rfl,ad.out⟩
set_option maxRecDepth 100000 in
set_option maxHeartbeats 3200000 in
theorem kU (a:Option Addr) (l:List Opr) (c n:Nat) (xk xa xn:Int) (xs:ByteArray) (w:World) (hr:Oprs w (·<w.heap.size) a l) (hn:l.length=n) (hm:n≤maxLen) (hw:fewO l=true) (h1:n≤30) (h2:600<xs.size):Calls Tryz.prog 6 #[.slice a n c,.agg #[.int .i64 xk,.int .i64 xa,.int .i64 xn,.string xs]] w fun e w'=>e=.returned (.bool true)∧Below w.heap.size w w':=by
 obtain ⟨wX,hwX,kX,aa,hz⟩:=box1 w #[.int .i64 xk,.int .i64 xa,.int .i64 xn,.string xs] 36
 obtain ⟨z0,z1,z2,z3,-,-,-,-⟩:=kX.four
 have cw:=cW a l c wX ((hr.below (fun _ h=>h) aa).more fun b h=>Nat.lt_of_lt_of_le h aa.size) (by omega)
 rw [hw,hn] at cw
 unfold maxLen at hm
 have g1:¬ (30:Int)<(n:Int):=by omega
 have g2:(600:Int)<(xs.size:Int):=by omega
 clear h1 h2
 have CW:=hid cw;have ab:=hid aa
 clear cw hr hn hw kX aa hz
 go_enter Tryz.func6,Tryz.ntmps6
 go_wp2_with fail
 refine CW.out.mono ?_;rintro e w1 ⟨rfl,rfl⟩
 go_wp2_with fail
 refine (aO _).mono ?_;rintro e w2 ⟨rfl,ac⟩
 have ad:=hid (ab.out.trans (ac.mono ab.out.size))
 clear ac z0 z1 z2 z3 hwX
 go_wp2
 go_ret
 exact ⟨rfl,ad.out⟩
set_option maxRecDepth 100000 in
set_option maxHeartbeats 3200000 in
theorem kH (a:Option Addr) (l:List Opr) (c n:Nat) (xk xa xn:Int) (xs:ByteArray) (w:World) (hr:Oprs w (·<w.heap.size) a l) (hn:l.length=n) (hm:n≤maxLen) (hw:fewO l=true) (h1:n≤30) (h2:xs.size≤600) (h3:¬ (xk=1∨xk=2)):Calls Tryz.prog 6 #[.slice a n c,.agg #[.int .i64 xk,.int .i64 xa,.int .i64 xn,.string xs]] w fun e w'=>e=.returned (.bool true)∧Below w.heap.size w w':=by
 obtain ⟨wX,hwX,kX,aa,hz⟩:=box1 w #[.int .i64 xk,.int .i64 xa,.int .i64 xn,.string xs] 36
 obtain ⟨z0,z1,z2,z3,-,-,-,-⟩:=kX.four
 have cw:=cW a l c wX ((hr.below (fun _ h=>h) aa).more fun b h=>Nat.lt_of_lt_of_le h aa.size) (by omega)
 rw [hw,hn] at cw
 unfold maxLen at hm
 have g1:¬ (30:Int)<(n:Int):=by omega
 have g2:¬ (600:Int)<(xs.size:Int):=by omega
 have g3:¬ xk=1:=fun e=>h3 (.inl e)
 have g4:¬ xk=2:=fun e=>h3 (.inr e)
 have g5:(xk != 1)=true:=bne_iff_ne.2 g3
 have g6:(xk != 2)=true:=bne_iff_ne.2 g4
 clear h1 h2 h3
 have CW:=hid cw;have ab:=hid aa
 clear cw hr hn hw kX aa hz
 go_enter Tryz.func6,Tryz.ntmps6
 go_wp2_with fail
 refine CW.out.mono ?_;rintro e w1 ⟨rfl,rfl⟩
 go_wp2_with fail
 refine (aO _).mono ?_;rintro e w2 ⟨rfl,ac⟩
 have ad:=hid (ab.out.trans (ac.mono ab.out.size))
 clear ac z0 z1 z2 z3 hwX
 go_wp2
 go_ret
 exact ⟨rfl,ad.out⟩
set_option maxRecDepth 100000 in
set_option maxHeartbeats 3200000 in
theorem lN (a:Option Addr) (l:List Opr) (c n:Nat) (xa xn:Int) (xs:ByteArray) (w:World) (hr:Oprs w (·<w.heap.size) a l) (hf:∀ x∈l,x.fits) (hn:l.length=n) (hw:fewO l=true) (h30:n≤30) (hxi:i64P xa) (hxs:xs.size≤600):Calls Tryz.prog 6 #[.slice a n c,.agg #[.int .i64 1,.int .i64 xa,.int .i64 xn,.string xs]] w fun e w'=>e=.returned (.bool true)∧Below w.heap.size w w':=by
 obtain ⟨wX,hwX,kX,az,hz⟩:=box1 w #[.int .i64 1,.int .i64 xa,.int .i64 xn,.string xs] 36
 obtain ⟨z0,z1,z2,z3,-,-,-,-⟩:=kX.four
 have cw:=cW a l c wX ((hr.below (fun _ h=>h) az).more fun b h=>Nat.lt_of_lt_of_le h az.size) (by unfold maxLen;omega)
 rw [hw,hn] at cw
 have g1:¬ (30:Int)<(n:Int):=by omega
 have g2:¬ (600:Int)<(xs.size:Int):=by omega
 have CW:=hid cw;have CN:=hid (qA wX);have HR:=hid hr;have HF:=hid hf;have HN:=hid hn;have HW:=hid (fZ.1 hw).2;have bu:=hid az;have KX:=hid kX;have HZ:=hid hz;have d2:=hid hxs;have d3:=hid hxi
 clear cw hr hf hn hw kX az hz hxs hxi
 have cf0:=yV;have cf2:=xS
 go_enter Tryz.func6,Tryz.ntmps6
 go_wp2_with fail
 refine CW.out.mono ?_;rintro e w1 ⟨rfl,rfl⟩
 go_wp2_with fail
 refine CN.out.mono ?_;rintro e w0 ⟨b,s0,r0,p0,L0,rfl,cy,-,az,a8⟩
 have cz:=hid cy;have c3:=hid (bu.out.trans (a8.mono bu.out.size));have c4:=hid (KX.out.onto a8)
 have hbl:w.heap.size≤b:=Nat.le_trans bu.out.size az
 have hnx:w.heap.size≠b:=by have:=HZ.out;omega
 have ai:=hid hbl;have c5:=hid hnx
 clear cy az a8 hbl hnx CW CN KX z0 z1 z2 z3 hwX bu HZ
 go_wp2
 go_loopw [6] (fun i wr=>∃ (k:Nat) (s:Sta) (rb:Nat) (p:Option Addr) (L:List ByteArray),k≤n∧i=.int .i64 k∧IsEd [] wr b s rb p L∧Below w.heap.size w wr∧Blk wr w.heap.size #[.int .i64 1,.int .i64 xa,.int .i64 xn,.string xs] 36) (fun i _=>n - (intOf i).toNat)
 case atStart=>exact ⟨0,s0,r0,p0,L0,Nat.zero_le _,rfl,cz.out,c3.out,c4.out⟩
 case round =>
  obtain ⟨k,s,rb,p,L,hk,rfl,hi,hbel,hkx⟩:=hrel
  have b0:(0:Int)≤(k:Int):=by omega
  by_cases hlt:k<n
  ·have hkl:k<l.length:=by rw [HN.out];exact hlt
   have fx:=HF.out (l[k]) (List.getElem_mem hkl)
   have sx:=HW.out (l[k]) (List.getElem_mem hkl)
   have b1:(k:Int)<(n:Int):=by omega
   obtain ⟨ad,rfl,q0,q1,q2,q3⟩:=xN HR.out hbel hkl
   have cd:=bP hi (l[k]).k (l[k]).a (l[k]).n (l[k]).s (oQ fx) (by omega)
   obtain ⟨x,hx⟩:∃ x,l[k]=x:=⟨_,rfl⟩
   rw [hx] at q0 q1 q2 q3 cd
   obtain ⟨yk,ya,yn,ys⟩:=x
   simp only at q0 q1 q2 q3 cd
   have CD:=hid cd;have ae:=hid hbel;have bv:=hid hkx
   clear cd hi hbel hkx hx fx sx
   go_wp2_with fail
   refine CD.out.mono ?_;rintro e w2 ⟨s2,r2,p2,L2,rfl,ab,af,aa⟩
   have H2:=hid (And.intro ab aa)
   clear q0 q1 q2 q3 ab af aa CD
   go_wp2
   go_roundw
   case rel=>exact ⟨k+1,s2,r2,p2,L2,by omega,by go_num,H2.out.1,aG ae.out ai.out H2.out.2,bv.out.apart H2.out.2 (by simpa using c5.out)⟩
   case measure=>simp [intOf];omega
  ·obtain rfl:k=n:=by omega
   have CE:=hid (show Calls Tryz.prog 12 #[.pointer (some ⟨b,0,none⟩),.agg #[.int .i64 8,.int .i64 0,.int .i64 0,.string ⟨#[]⟩]] wr _ from bB hi 8 (do8 s.d) rfl)
   have ae:=hid hbel;have bv:=hid hkx
   clear hi hbel hkx cz c3 c4
   go_wp2_with fail
   refine CE.out.mono ?_;rintro e w2 ⟨s2,r2,p2,L2,rfl,ab,af,aa⟩
   have c6:s2.d.o=false:=by rw [af];exact pP _
   have al:=hid ab;have c7:=hid c6;have am:=hid (aG ae.out ai.out aa);have au:=hid (bv.out.apart aa (by simpa using c5.out))
   have CS:=hid (ab.state [b] (aR ab.lt))
   clear ab af aa c6 CE ae bv
   go_wp2_with fail
   refine CS.out.mono ?_;rintro e w3 ⟨s3,rfl,av,c8,bw⟩
   obtain ⟨wA,hwA,kA,hbA,hzA⟩:=box1 w3 s3.cells 31
   have a9:=bw.trans (hbA.mono bw.size)
   have i3:=al.out.later a9
   have KA:=hid kA;have d4:=hid i3;have bx:=hid av;have c9:=hid (am.out.trans (a9.mono am.out.size));have da:=hid (au.out.onto a9);have db:=hid (c8.later hbA)
   have hnA:w3.heap.size≠b:=by have h1:=al.out.lt;have h2:=bw.size;omega
   have ce:=hid hnA
   obtain ⟨z0,z1,z2,z3,-,-,-,-⟩:=da.out.four
   have cd:=bP i3 1 xa xn xs d3.out (by have:=d2.out;omega)
   obtain ⟨R,hR⟩:∃ R,doD s2.d 1 xa xn xs=R:=⟨_,rfl⟩
   have hno:R.2≠0→R.1=s2.d:=fun h=>by rw [← hR] at h ⊢;exact EW h
   have hyes:R.2=0→R.1.o=false∧(R.1.t=s2.d.t∨(MidT R.1 R.1 []∧(undoD R.1).1.t=s2.d.t∧0<R.1.u.length)):=fun h=>by rw [← hR] at h ⊢;exact tI (by exact .inl rfl) c7.out al.out.inv h
   rw [hR] at cd
   obtain ⟨Rs,Re⟩:=R
   have CD:=hid cd;have cf:=hid hno;have br:=hid hyes
   clear cd a9 i3 hnA hR hno hyes av c8 bw hbA hzA kA CS al c7 am au d4 da
   go_wp2_with fail
   refine CD.out.mono ?_;rintro e w4 ⟨s4,r4,p4,L4,rfl,an,cg,bz⟩
   have ao:=hid (KA.out.apart bz (by simpa using ce.out));have ch:=hid (db.out.apart bz);have bb:=hid (aG c9.out ai.out bz);have b3:=hid cg
   clear z0 z1 z2 z3 hwA bz CD KA db c9
   by_cases hE:Re=0
   ·subst hE
    have bc:=hid (an.state [b] (aR an.lt));have b4:=hid an
    obtain ⟨hoR,htR⟩:=br.out rfl
    have dc:=hid hoR;have ci:=hid htR
    clear an cg hoR htR br cf
    go_wp2_with fail
    refine bc.out.mono ?_;rintro e w5 ⟨s5,rfl,bd,b5,a0⟩
    obtain ⟨wB,hwB,kB,hbB,hzB⟩:=box1 w5 s5.cells 31
    have ba:=a0.trans (hbB.mono a0.size)
    have HI:=hid (b4.out.later ba)
    have KA:=hid (ao.out.onto ba)
    have HB:=hid (bb.out.trans (ba.mono bb.out.size))
    have hnB:w5.heap.size≠b:=by have h1:=b4.out.lt;have h2:=a0.size;omega
    have aw:=hid hnB
    have KB:=hid kB
    have htx:s4.d.t=s5.t:=(congrArg StaD.t bd).symm
    have hta:s2.d.t=s3.t:=(congrArg StaD.t bx.out).symm
    have h4R:s4.d=Rs:=b3.out
    have dd:s4.d.o=false:=by rw [h4R];exact dc.out
    have b6:MidT s4.d s4.d []:=MidT.start b4.out.inv dd
    obtain ⟨y0,-⟩:=kB.all6
    obtain ⟨z0,-⟩:=KA.out.all6
    obtain ⟨t5,cj⟩:∃ t,s5.t=t:=⟨_,rfl⟩
    obtain ⟨t3,ck⟩:∃ t,s3.t=t:=⟨_,rfl⟩
    have ah:=hid cj;have be:=hid ck
    rw [cj] at y0
    rw [ck] at z0
    clear cj ck
    have a1:=hid htx;have ay:=hid b6;have b7:=hid hta;have H4R:=hid h4R
    clear a0 hbB hzB ba hnB htx hta h4R dd b6 bd b5 kB bc b4 ao bb ch b3 bx dc
    by_cases hts:t5=t3
    ·subst hts
     have HM:=ay
     have b8:=hid (show s4.t=t5 from (show s4.t=s5.t from a1.out).trans ah.out)
     clear ci b7 H4R ay a1 KA be
     have bf:=hid (HI.out.state [b] (aR HI.out.lt))
     go_wp2_with fail
     refine bf.out.mono ?_;rintro e w9 ⟨s9,rfl,bg,cl,aq⟩
     obtain ⟨m,hm⟩:∃ m,s9.u.l.length=m:=⟨_,rfl⟩
     have hmu:s4.d.u.length=m:=by rw [← bg,← hm];show (lsP s9.u.l).length=_;rw [aA]
     have d1:m≤16:=by rw [← hmu];exact HM.out.n
     obtain ⟨t9,m9,⟨ua,ul,uc⟩,r9,o9,g9⟩:=s9
     dsimp only at hm
     simp only [Sta.v,Sta.cs]
     rw [hm]
     have bh:=hid (HI.out.later aq)
     have bi:=hid (HB.out.trans (aq.mono HB.out.size))
     have bj:=hid (KB.out.onto aq)
     have a2:=hid hmu
     clear bg cl aq hm hmu bf HI HB KB
     go_wp2
     go_loopw [13] (fun i wr=>∃ (j:Nat) (s:Sta) (rb:Nat) (p:Option Addr) (L:List ByteArray) (Q:List (List Edt)),j≤m∧i=.int .i64 j∧IsEd [] wr b s rb p L∧MidT s4.d s.d Q∧s.d.u.length+j=m∧Below w.heap.size w wr∧Blk wr w5.heap.size s5.cells 31) (fun i _=>m - (intOf i).toNat)
     case atStart=>exact ⟨0,s4,r4,p4,L4,[],Nat.zero_le _,rfl,bh.out,HM.out,a2.out,bi.out,bj.out⟩
     case round =>
      obtain ⟨j,s,rb,p,L,Q,hj,rfl,hi,hq,hlen,hbel,hkb⟩:=hrel
      have j0:(0:Int)≤(j:Int):=by omega
      by_cases hlt:j<m
      ·have j1:(j:Int)<(m:Int):=by omega
       have j2:(j:Int)<20:=by omega
       obtain ⟨e1,st,aj,a3⟩:=hq.undo (by omega)
       have ac:(undoD s.d).1.u.length+(j+1)=m:=by omega
       have ak:=hid (And.intro aj ac);have ae:=hid hbel;have ag:=hid hkb
       have CO:=hid (show Calls Tryz.prog 12 #[.pointer (some ⟨b,0,none⟩),.agg #[.int .i64 5,.int .i64 0,.int .i64 0,.string ⟨#[]⟩]] wr _ from bB hi 5 (do5 s.d) e1)
       clear hi hq hlen hbel hkb e1 aj a3 ac
       go_wp2_with fail
       refine CO.out.mono ?_;rintro e w2 ⟨s2,r2,p2,L2,rfl,ab,af,aa⟩
       have H2:=hid (And.intro ab (And.intro af aa))
       clear ab af aa CO
       go_wp2
       go_roundw
       case rel=>exact ⟨j+1,s2,r2,p2,L2,st::Q,by omega,by go_num,H2.out.1,by rw [H2.out.2.1];exact ak.out.1,by rw [H2.out.2.1];exact ak.out.2,aG ae.out ai.out H2.out.2.2,ag.out.apart H2.out.2.2 (by simpa using aw.out)⟩
       case measure=>simp [intOf];omega
      ·obtain rfl:j=m:=by omega
       have a4:s.d.u.length=0:=by omega
       have a5:=a2;have HQ:=hid hq;have bk:=hid a4;have ae:=hid hbel;have ag:=hid hkb
       have CO:=hid (show Calls Tryz.prog 12 #[.pointer (some ⟨b,0,none⟩),.agg #[.int .i64 5,.int .i64 0,.int .i64 0,.string ⟨#[]⟩]] wr _ from bB hi 5 ((do5 s.d).trans (hq.none a4)) rfl)
       clear hi hq a4 hlen hbel hkb a2 bh bi bj
       go_wp2_with fail
       refine CO.out.mono ?_;rintro e w2 ⟨s2,r2,p2,L2,rfl,ab,af,aa⟩
       have al:=hid ab;have a6:=hid af;have am:=hid (aG ae.out ai.out aa);have au:=hid (ag.out.apart aa (by simpa using aw.out))
       clear ab af aa CO ae ag
       go_wp2
       go_loopw [14] (fun i wr=>∃ (k:Nat) (s:Sta) (rb:Nat) (p:Option Addr) (L:List ByteArray) (Q:List (List Edt)),k≤j∧i=.int .i64 k∧IsEd [] wr b s rb p L∧MidT s4.d s.d Q∧s.d.u.length=k∧Below w.heap.size w wr∧Blk wr w5.heap.size s5.cells 31) (fun i _=>j - (intOf i).toNat)
       case atStart=>exact ⟨0,s2,r2,p2,L2,Q,Nat.zero_le _,rfl,al.out,by rw [show s2.d=s.d from a6.out];exact HQ.out,by rw [show s2.d=s.d from a6.out];exact bk.out,am.out,au.out⟩
       case round =>
        obtain ⟨k,s',rb',p',L',Q',hk,rfl,hi,hq,hlen,hbel,hkb⟩:=hrel
        have k0:(0:Int)≤(k:Int):=by omega
        by_cases hlt2:k<j
        ·have k1:(k:Int)<(j:Int):=by omega
         have k2:(k:Int)<20:=by omega
         obtain ⟨q,Q2,rfl⟩:∃ q Q2,Q'=q::Q2:=by
          cases Q' with
          | nil=>exact absurd hq.whole.2 (by rw [hlen,a5.out];omega)
          | cons q Q2=>exact ⟨q,Q2,rfl⟩
         obtain ⟨e1,aj,a3⟩:=hq.redo
         have ac:(redoD s'.d).1.u.length=k+1:=by omega
         have ak:=hid (And.intro aj ac);have ae:=hid hbel;have ag:=hid hkb
         have CO:=hid (show Calls Tryz.prog 12 #[.pointer (some ⟨b,0,none⟩),.agg #[.int .i64 6,.int .i64 0,.int .i64 0,.string ⟨#[]⟩]] wr _ from bB hi 6 (do6 s'.d) e1)
         clear hi hq hlen hbel hkb e1 aj a3 ac
         go_wp2_with fail
         refine CO.out.mono ?_;rintro e w3 ⟨s3,r3,p3,L3,rfl,bl,av,bm⟩
         have H3:=hid (And.intro bl (And.intro av bm))
         clear bl av bm CO
         go_wp2
         go_roundw
         case rel=>exact ⟨k+1,s3,r3,p3,L3,Q2,by omega,by go_num,H3.out.1,by rw [H3.out.2.1];exact ak.out.1,by rw [H3.out.2.1];exact ak.out.2,aG ae.out ai.out H3.out.2.2,ag.out.apart H3.out.2.2 (by simpa using aw.out)⟩
         case measure=>simp [intOf];omega
        ·obtain rfl:k=j:=by omega
         obtain rfl:Q'=[]:=by
          have h1:=congrArg List.length hq.u
          rw [List.length_append,hlen,a5.out] at h1
          exact List.length_eq_zero_iff.1 (by omega)
         have hw:=hq.whole
         have ht:s'.t=s4.t:=hw.1
         have HI:=hid hi;have HT:=hid (ht.trans b8.out);have cm:=hid hlen;have HB:=hid hbel;have HK:=hid hkb
         have bn:=hid (fun W (hW:Below wr.heap.size wr W)=>(hi.later hW).state [b] (aR (hi.later hW).lt))
         clear hi hq hlen hbel hkb hw ht al a6 am au HQ bk
         go_wp2_with fail
         refine wp_region_held_drew (S:=(fun W:World=>W.cell? ⟨w5.heap.size,0,none⟩=some (.string t5))) (by kernel_rfl) ((HK.out.onto (Below.refl _ _).drew).cell 0 _ (by rw [← ah.out];rfl)) (fun hHeld=>?_)
         refine sqt 0 ?_
         refine sqt 3 ?_
         refine sqt 4 ?_
         refine sqr 1 fun K hK=>?_
         go_simp
         (go_at_call 17;refine (bn.out _ (Below.refl _ _).drew).mono ?_;rintro e wF ⟨sF,rfl,hdF,hsF,hbF⟩;have hxF:=(Below.refl wr.heap.size wr).drew.trans hbF;have ar:=hid hxF;have htF:t5=sF.t:=(HT.out.symm.trans (congrArg StaD.t hdF).symm);clear hdF hsF hbF hxF;obtain ⟨tF,⟨maF,mlF,mcF⟩,⟨uaF,ulF,ucF⟩,⟨raF,rlF,rcF⟩,ooF,⟨gaF,glF,gcF⟩⟩:=sF;dsimp only [Sta.v,Sta.cs];obtain rfl:t5=tF:=htF)
         try go_wp2_with fail
         refine hK.out _ _ ?_ (fun hHeld=>?_)
         ·exact (HK.out.onto ar.out).cell 0 _ (by rw [← ah.out];rfl)
         clear hK K
         try simp only [Act.put,sqp]
         refine sqt 2 ?_
         refine sqt 5 ?_
         refine sqt 6 ?_
         refine sqt 7 ?_
         refine sqt 11 ?_
         refine sqr 8 fun K hK=>?_
         go_simp
         (go_at_call 17;refine (bn.out _ ar.out).mono ?_;rintro e wG ⟨sG,rfl,hdG,hsG,hbG⟩;have a7:=hid (ar.out.trans (hbG.mono ar.out.size));have hlG:sG.u.l.length=k:=(by rw [← aA];exact (congrArg (fun x=>x.u.length) hdG).trans cm.out);clear hdG hsG hbG;obtain ⟨tG,⟨maG,mlG,mcG⟩,⟨uaG,ulG,ucG⟩,⟨raG,rlG,rcG⟩,ooG,⟨gaG,glG,gcG⟩⟩:=sG;dsimp only [Sta.v,Sta.cs];dsimp only at hlG;rw [hlG];clear hlG)
         try go_wp2_with fail
         refine hK.out _ _ ?_ (fun hHeld=>?_)
         ·exact (HK.out.onto a7.out).cell 0 _ (by rw [← ah.out];rfl)
         clear hK K
         try simp only [Act.put,sqp]
         refine sqt 9 ?_
         refine sqt 10 ?_
         refine sqt 12 ?_
         refine sqt 13 ?_
         refine sqt 14 ?_
         refine sqr 15 fun K hK=>?_
         go_simp
         (go_at_call 9;refine (aO _).mono ?_;rintro e wH ⟨rfl,hbH⟩;have bo:=hid (a7.out.trans (hbH.mono a7.out.size));clear hbH)
         try go_wp2_with fail
         refine hK.out _ _ ?_ (fun hHeld=>?_)
         ·exact (HK.out.onto bo.out).cell 0 _ (by rw [← ah.out];rfl)
         clear hK K
         try simp only [Act.put,sqp]
         refine sqt 16 ?_
         refine sqt 17 ?_
         refine wpAnyH_done (by kernel_rfl) ?_ _
         go_wp2
         go_ret
         exact ⟨rfl,HB.out.trans (bo.out.mono HB.out.size)⟩
    ·have hbl:(t5.toList == t3.toList)=false:=dG hts
     obtain ⟨-,hut,hul⟩:=ci.out.resolve_left (fun e=>hts (by rw [← ah.out,← be.out,← a1.out,← b7.out,H4R.out];exact e))
     obtain ⟨e1,st,cn,-⟩:=ay.out.undo (by rw [H4R.out];exact hul)
     obtain ⟨e2,de,-⟩:=cn.redo
     have co:(undoD s4.d).1.t=t3:=by rw [H4R.out,hut,b7.out,be.out]
     have CO:=hid (show Calls Tryz.prog 12 #[.pointer (some ⟨b,0,none⟩),.agg #[.int .i64 5,.int .i64 0,.int .i64 0,.string ⟨#[]⟩]] wB _ from bB HI.out 5 (do5 s4.d) e1)
     have d5:=hid cn;have df:=hid de;have dg:=hid e2;have dh:=hid co
     clear hut hul e1 cn e2 de co ci b7 H4R ay HI
     go_wp2_with fail
     refine CO.out.mono ?_;rintro e w6 ⟨s6,r6,p6,L6,rfl,b9,di,ca⟩
     have dj:=hid b9;have cb:=hid di;have cp:=hid (aG HB.out ai.out ca);have dk:=hid (KB.out.apart ca (by simpa using aw.out));have dl:=hid (KA.out.apart ca (by simpa using ce.out))
     have dm:=hid (b9.state [b] (aR b9.lt))
     clear b9 di ca CO KA KB HB z0 y0 hwB
     go_wp2_with fail
     refine dm.out.mono ?_;rintro e w7 ⟨s7,rfl,dn,d6,ax⟩
     have d7:t3=s7.t:=by have h1:=congrArg StaD.t dn;rw [cb.out,dh.out] at h1;exact h1.symm
     have e2:=dg.out
     have dp:=hid (dj.out.later ax);have dq:=hid (cp.out.trans (ax.mono cp.out.size));have dr:=hid (dk.out.onto ax);have ds:=hid (dl.out.onto ax)
     rw [← cb.out] at e2
     have CP:=hid (show Calls Tryz.prog 12 #[.pointer (some ⟨b,0,none⟩),.agg #[.int .i64 6,.int .i64 0,.int .i64 0,.string ⟨#[]⟩]] w7 _ from bB dp.out 6 (do6 s6.d) e2)
     obtain ⟨t7,⟨ma7,ml7,mc7⟩,⟨ua7,ul7,uc7⟩,⟨ra7,rl7,rc7⟩,oo7,⟨ga7,gl7,gc7⟩⟩:=s7;dsimp only [Sta.v,Sta.cs]
     obtain rfl:t3=t7:=d7
     clear e2 dn d6 ax dm dj cp dk dl
     go_wp2_with fail
     refine CP.out.mono ?_;rintro e w8 ⟨s8,r8,p8,L8,rfl,bp,dt,cc⟩
     have cq:MidT s4.d s8.d []:=by rw [dt,cb.out];exact df.out
     have du:s8.t=t5:=(show s8.d.t=s4.d.t from cq.t).trans (a1.out.trans ah.out)
     have b8:=hid du;have HM:=hid (MidT.start bp.inv cq.o)
     have dv:=hid bp;have cr:=hid (aG dq.out ai.out cc);have ct:=hid (dr.out.apart cc (by simpa using aw.out));have dw:=hid (ds.out.apart cc (by simpa using ce.out))
     have FS:=hid (fun W (hW:Below w8.heap.size w8 W)=>(⟨(dw.out.onto hW).cell 0 _ (by rw [← be.out];rfl),(ct.out.onto hW).cell 0 _ (by rw [← ah.out];rfl)⟩:(fun W:World=>W.cell? ⟨w3.heap.size,0,none⟩=some (.string t3)∧W.cell? ⟨w5.heap.size,0,none⟩=some (.string t5)) W))
     have dx:=hid (fun W (hW:Below w8.heap.size w8 W)=>(bp.later hW).state [b] (aR (bp.later hW).lt))
     clear bp dt cc cq du CP dp dq dr ds d5 df dg dh cb a1
     go_wp2_with fail
     refine wp_region_held_drew (S:=(fun W:World=>W.cell? ⟨w3.heap.size,0,none⟩=some (.string t3)∧W.cell? ⟨w5.heap.size,0,none⟩=some (.string t5))) (by kernel_rfl) (FS.out _ (Below.refl _ _).drew) (fun hHeld=>?_)
     refine sqt 0 ?_
     refine sqt 1 ?_
     refine sqt 2 ?_
     refine sqt 3 ?_
     refine sqt 4 ?_
     refine sqt 5 ?_
     refine sqt 6 ?_
     refine sqt 7 ?_
     refine sqt 8 ?_
     refine sqt 9 ?_
     refine sqt 10 ?_
     refine sqt 11 ?_
     refine sqt 12 ?_
     refine sqt 13 ?_
     refine sqt 16 ?_
     refine sqt 17 ?_
     refine sqr 14 fun K hK=>?_
     go_simp
     (go_at_call 17;refine (dx.out _ (Below.refl _ _).drew).mono ?_;rintro e wC ⟨sC,rfl,hdC,hsC,hbC⟩;have hxC:=(Below.refl w8.heap.size w8).drew.trans hbC;have bq:=hid hxC;have htC:t5=sC.t:=(b8.out.symm.trans (congrArg StaD.t hdC).symm);clear hdC hsC hbC hxC;obtain ⟨tC,⟨maC,mlC,mcC⟩,⟨uaC,ulC,ucC⟩,⟨raC,rlC,rcC⟩,ooC,⟨gaC,glC,gcC⟩⟩:=sC;dsimp only [Sta.v,Sta.cs];obtain rfl:t5=tC:=htC)
     try go_wp2_with fail
     refine hK.out _ _ ?_ (fun hHeld=>?_)
     ·exact FS.out _ bq.out
     clear hK K
     try simp only [Act.put,sqp]
     refine sqt 15 ?_
     refine sqt 18 ?_
     refine sqt 19 ?_
     refine wpAnyH_done (by kernel_rfl) ?_ _
     have HI:=hid (dv.out.later bq.out);have HB:=hid (cr.out.trans (bq.out.mono cr.out.size));have KB:=hid (ct.out.onto bq.out)
     clear FS dx dv cr ct dw bq be
     have bf:=hid (HI.out.state [b] (aR HI.out.lt))
     go_wp2_with fail
     refine bf.out.mono ?_;rintro e w9 ⟨s9,rfl,bg,cl,aq⟩
     obtain ⟨m,hm⟩:∃ m,s9.u.l.length=m:=⟨_,rfl⟩
     have hmu:s8.d.u.length=m:=by rw [← bg,← hm];show (lsP s9.u.l).length=_;rw [aA]
     have d1:m≤16:=by rw [← hmu];exact HM.out.n
     obtain ⟨t9,m9,⟨ua,ul,uc⟩,r9,o9,g9⟩:=s9
     dsimp only at hm
     simp only [Sta.v,Sta.cs]
     rw [hm]
     have bh:=hid (HI.out.later aq)
     have bi:=hid (HB.out.trans (aq.mono HB.out.size))
     have bj:=hid (KB.out.onto aq)
     have a2:=hid hmu
     clear bg cl aq hm hmu bf HI HB KB
     go_wp2
     go_loopw [13] (fun i wr=>∃ (j:Nat) (s:Sta) (rb:Nat) (p:Option Addr) (L:List ByteArray) (Q:List (List Edt)),j≤m∧i=.int .i64 j∧IsEd [] wr b s rb p L∧MidT s8.d s.d Q∧s.d.u.length+j=m∧Below w.heap.size w wr∧Blk wr w5.heap.size s5.cells 31) (fun i _=>m - (intOf i).toNat)
     case atStart=>exact ⟨0,s8,r8,p8,L8,[],Nat.zero_le _,rfl,bh.out,HM.out,a2.out,bi.out,bj.out⟩
     case round =>
      obtain ⟨j,s,rb,p,L,Q,hj,rfl,hi,hq,hlen,hbel,hkb⟩:=hrel
      have j0:(0:Int)≤(j:Int):=by omega
      by_cases hlt:j<m
      ·have j1:(j:Int)<(m:Int):=by omega
       have j2:(j:Int)<20:=by omega
       obtain ⟨e1,st,aj,a3⟩:=hq.undo (by omega)
       have ac:(undoD s.d).1.u.length+(j+1)=m:=by omega
       have ak:=hid (And.intro aj ac);have ae:=hid hbel;have ag:=hid hkb
       have CO:=hid (show Calls Tryz.prog 12 #[.pointer (some ⟨b,0,none⟩),.agg #[.int .i64 5,.int .i64 0,.int .i64 0,.string ⟨#[]⟩]] wr _ from bB hi 5 (do5 s.d) e1)
       clear hi hq hlen hbel hkb e1 aj a3 ac
       go_wp2_with fail
       refine CO.out.mono ?_;rintro e w2 ⟨s2,r2,p2,L2,rfl,ab,af,aa⟩
       have H2:=hid (And.intro ab (And.intro af aa))
       clear ab af aa CO
       go_wp2
       go_roundw
       case rel=>exact ⟨j+1,s2,r2,p2,L2,st::Q,by omega,by go_num,H2.out.1,by rw [H2.out.2.1];exact ak.out.1,by rw [H2.out.2.1];exact ak.out.2,aG ae.out ai.out H2.out.2.2,ag.out.apart H2.out.2.2 (by simpa using aw.out)⟩
       case measure=>simp [intOf];omega
      ·obtain rfl:j=m:=by omega
       have a4:s.d.u.length=0:=by omega
       have a5:=a2;have HQ:=hid hq;have bk:=hid a4;have ae:=hid hbel;have ag:=hid hkb
       have CO:=hid (show Calls Tryz.prog 12 #[.pointer (some ⟨b,0,none⟩),.agg #[.int .i64 5,.int .i64 0,.int .i64 0,.string ⟨#[]⟩]] wr _ from bB hi 5 ((do5 s.d).trans (hq.none a4)) rfl)
       clear hi hq a4 hlen hbel hkb a2 bh bi bj
       go_wp2_with fail
       refine CO.out.mono ?_;rintro e w2 ⟨s2,r2,p2,L2,rfl,ab,af,aa⟩
       have al:=hid ab;have a6:=hid af;have am:=hid (aG ae.out ai.out aa);have au:=hid (ag.out.apart aa (by simpa using aw.out))
       clear ab af aa CO ae ag
       go_wp2
       go_loopw [14] (fun i wr=>∃ (k:Nat) (s:Sta) (rb:Nat) (p:Option Addr) (L:List ByteArray) (Q:List (List Edt)),k≤j∧i=.int .i64 k∧IsEd [] wr b s rb p L∧MidT s8.d s.d Q∧s.d.u.length=k∧Below w.heap.size w wr∧Blk wr w5.heap.size s5.cells 31) (fun i _=>j - (intOf i).toNat)
       case atStart=>exact ⟨0,s2,r2,p2,L2,Q,Nat.zero_le _,rfl,al.out,by rw [show s2.d=s.d from a6.out];exact HQ.out,by rw [show s2.d=s.d from a6.out];exact bk.out,am.out,au.out⟩
       case round =>
        obtain ⟨k,s',rb',p',L',Q',hk,rfl,hi,hq,hlen,hbel,hkb⟩:=hrel
        have k0:(0:Int)≤(k:Int):=by omega
        by_cases hlt2:k<j
        ·have k1:(k:Int)<(j:Int):=by omega
         have k2:(k:Int)<20:=by omega
         obtain ⟨q,Q2,rfl⟩:∃ q Q2,Q'=q::Q2:=by
          cases Q' with
          | nil=>exact absurd hq.whole.2 (by rw [hlen,a5.out];omega)
          | cons q Q2=>exact ⟨q,Q2,rfl⟩
         obtain ⟨e1,aj,a3⟩:=hq.redo
         have ac:(redoD s'.d).1.u.length=k+1:=by omega
         have ak:=hid (And.intro aj ac);have ae:=hid hbel;have ag:=hid hkb
         have CO:=hid (show Calls Tryz.prog 12 #[.pointer (some ⟨b,0,none⟩),.agg #[.int .i64 6,.int .i64 0,.int .i64 0,.string ⟨#[]⟩]] wr _ from bB hi 6 (do6 s'.d) e1)
         clear hi hq hlen hbel hkb e1 aj a3 ac
         go_wp2_with fail
         refine CO.out.mono ?_;rintro e w3 ⟨s3,r3,p3,L3,rfl,bl,av,bm⟩
         have H3:=hid (And.intro bl (And.intro av bm))
         clear bl av bm CO
         go_wp2
         go_roundw
         case rel=>exact ⟨k+1,s3,r3,p3,L3,Q2,by omega,by go_num,H3.out.1,by rw [H3.out.2.1];exact ak.out.1,by rw [H3.out.2.1];exact ak.out.2,aG ae.out ai.out H3.out.2.2,ag.out.apart H3.out.2.2 (by simpa using aw.out)⟩
         case measure=>simp [intOf];omega
        ·obtain rfl:k=j:=by omega
         obtain rfl:Q'=[]:=by
          have h1:=congrArg List.length hq.u
          rw [List.length_append,hlen,a5.out] at h1
          exact List.length_eq_zero_iff.1 (by omega)
         have hw:=hq.whole
         have ht:s'.t=s8.t:=hw.1
         have HI:=hid hi;have HT:=hid (ht.trans b8.out);have cm:=hid hlen;have HB:=hid hbel;have HK:=hid hkb
         have bn:=hid (fun W (hW:Below wr.heap.size wr W)=>(hi.later hW).state [b] (aR (hi.later hW).lt))
         clear hi hq hlen hbel hkb hw ht al a6 am au HQ bk
         go_wp2_with fail
         refine wp_region_held_drew (S:=(fun W:World=>W.cell? ⟨w5.heap.size,0,none⟩=some (.string t5))) (by kernel_rfl) ((HK.out.onto (Below.refl _ _).drew).cell 0 _ (by rw [← ah.out];rfl)) (fun hHeld=>?_)
         refine sqt 0 ?_
         refine sqt 3 ?_
         refine sqt 4 ?_
         refine sqr 1 fun K hK=>?_
         go_simp
         (go_at_call 17;refine (bn.out _ (Below.refl _ _).drew).mono ?_;rintro e wF ⟨sF,rfl,hdF,hsF,hbF⟩;have hxF:=(Below.refl wr.heap.size wr).drew.trans hbF;have ar:=hid hxF;have htF:t5=sF.t:=(HT.out.symm.trans (congrArg StaD.t hdF).symm);clear hdF hsF hbF hxF;obtain ⟨tF,⟨maF,mlF,mcF⟩,⟨uaF,ulF,ucF⟩,⟨raF,rlF,rcF⟩,ooF,⟨gaF,glF,gcF⟩⟩:=sF;dsimp only [Sta.v,Sta.cs];obtain rfl:t5=tF:=htF)
         try go_wp2_with fail
         refine hK.out _ _ ?_ (fun hHeld=>?_)
         ·exact (HK.out.onto ar.out).cell 0 _ (by rw [← ah.out];rfl)
         clear hK K
         try simp only [Act.put,sqp]
         refine sqt 2 ?_
         refine sqt 5 ?_
         refine sqt 6 ?_
         refine sqt 7 ?_
         refine sqt 11 ?_
         refine sqr 8 fun K hK=>?_
         go_simp
         (go_at_call 17;refine (bn.out _ ar.out).mono ?_;rintro e wG ⟨sG,rfl,hdG,hsG,hbG⟩;have a7:=hid (ar.out.trans (hbG.mono ar.out.size));have hlG:sG.u.l.length=k:=(by rw [← aA];exact (congrArg (fun x=>x.u.length) hdG).trans cm.out);clear hdG hsG hbG;obtain ⟨tG,⟨maG,mlG,mcG⟩,⟨uaG,ulG,ucG⟩,⟨raG,rlG,rcG⟩,ooG,⟨gaG,glG,gcG⟩⟩:=sG;dsimp only [Sta.v,Sta.cs];dsimp only at hlG;rw [hlG];clear hlG)
         try go_wp2_with fail
         refine hK.out _ _ ?_ (fun hHeld=>?_)
         ·exact (HK.out.onto a7.out).cell 0 _ (by rw [← ah.out];rfl)
         clear hK K
         try simp only [Act.put,sqp]
         refine sqt 9 ?_
         refine sqt 10 ?_
         refine sqt 12 ?_
         refine sqt 13 ?_
         refine sqt 14 ?_
         refine sqr 15 fun K hK=>?_
         go_simp
         (go_at_call 9;refine (aO _).mono ?_;rintro e wH ⟨rfl,hbH⟩;have bo:=hid (a7.out.trans (hbH.mono a7.out.size));clear hbH)
         try go_wp2_with fail
         refine hK.out _ _ ?_ (fun hHeld=>?_)
         ·exact (HK.out.onto bo.out).cell 0 _ (by rw [← ah.out];rfl)
         clear hK K
         try simp only [Act.put,sqp]
         refine sqt 16 ?_
         refine sqt 17 ?_
         refine wpAnyH_done (by kernel_rfl) ?_ _
         go_wp2
         go_ret
         exact ⟨rfl,HB.out.trans (bo.out.mono HB.out.size)⟩
   ·have hrs:Rs=s2.d:=cf.out hE
    have FS:=hid (fun W (hW:Below w4.heap.size w4 W)=>(⟨(ao.out.onto hW).cell 0 _ rfl,(ao.out.onto hW).cell 1 _ rfl,(ao.out.onto hW).cell 2 _ rfl,(ao.out.onto hW).cell 3 _ rfl,(ao.out.onto hW).cell 4 _ rfl,(ao.out.onto hW).cell 5 _ rfl⟩:(fun W:World=>W.cell? ⟨w3.heap.size,0,none⟩=some (.string s3.t)∧W.cell? ⟨w3.heap.size,1,none⟩=some (.slice s3.m.a s3.m.l.length s3.m.c)∧W.cell? ⟨w3.heap.size,2,none⟩=some (.slice s3.u.a s3.u.l.length s3.u.c)∧W.cell? ⟨w3.heap.size,3,none⟩=some (.slice s3.r.a s3.r.l.length s3.r.c)∧W.cell? ⟨w3.heap.size,4,none⟩=some (.bool s3.o)∧W.cell? ⟨w3.heap.size,5,none⟩=some (.slice s3.g.a s3.g.l.length s3.g.c)) W))
    have bc:=hid (fun W (hW:Below w4.heap.size w4 W)=>(an.later hW).state [b] (aR (an.later hW).lt))
    have bs:s4.d=s3.d:=(b3.out.trans hrs).trans bx.out.symm
    have CQ:=hid (fun (s5:Sta) (hd:s5.d=s4.d) W (hs:StaO [b] W s5) (hW:Below w4.heap.size w4 W)=>(by
     have h1:=jJ s5 s3 W hs.in (ch.out.later hW).in (an.inv.of_d hd).few (an.inv.of_d bs.symm).few
     rw [show s5.d=s3.d from hd.trans bs,lO] at h1
     exact h1:Calls Tryz.prog 16 #[s5.v,.agg #[.string s3.t,.slice s3.m.a s3.m.l.length s3.m.c,.slice s3.u.a s3.u.l.length s3.u.c,.slice s3.r.a s3.r.l.length s3.r.c,.bool s3.o,.slice s3.g.a s3.g.l.length s3.g.c]] W (RetB true W)))
    have hEb:(Re == 0)=false:=beq_eq_false_iff_ne.2 hE
    clear hrs an cg bs cf br b3 ch ao bx
    go_wp2_with fail
    refine wp_region_held_drew (S:=(fun W:World=>W.cell? ⟨w3.heap.size,0,none⟩=some (.string s3.t)∧W.cell? ⟨w3.heap.size,1,none⟩=some (.slice s3.m.a s3.m.l.length s3.m.c)∧W.cell? ⟨w3.heap.size,2,none⟩=some (.slice s3.u.a s3.u.l.length s3.u.c)∧W.cell? ⟨w3.heap.size,3,none⟩=some (.slice s3.r.a s3.r.l.length s3.r.c)∧W.cell? ⟨w3.heap.size,4,none⟩=some (.bool s3.o)∧W.cell? ⟨w3.heap.size,5,none⟩=some (.slice s3.g.a s3.g.l.length s3.g.c))) (by kernel_rfl) (FS.out _ (Below.refl _ _).drew) (fun hHeld=>?_)
    refine sqt 0 ?_
    refine sqt 2 ?_
    refine sqr 1 fun K hK=>?_
    go_simp
    (go_at_call 17;refine (bc.out _ (Below.refl _ _).drew).mono ?_;rintro e w5 ⟨s5,rfl,bd,b5,a0⟩;have cu:=(Below.refl w4.heap.size w4).drew.trans a0;have dy:=hid (CQ.out s5 bd w5 b5 cu);have cv:=hid cu;clear bd b5 a0 cu CQ bc)
    try go_wp2_with fail
    refine hK.out _ _ ?_ (fun hHeld=>?_)
    ·exact FS.out _ cv.out
    clear hK K
    try simp only [Act.put,sqp]
    refine sqr 3 fun K hK=>?_
    go_simp
    (go_at_call 16;refine dy.out.mono ?_;rintro e w6 ⟨rfl,dz⟩;have cx:=hid (cv.out.trans (dz.mono cv.out.size));clear dz dy)
    try go_wp2_with fail
    refine hK.out _ _ ?_ (fun hHeld=>?_)
    ·exact FS.out _ cx.out
    clear hK K
    try simp only [Act.put,sqp]
    refine sqt 4 ?_
    refine sqr 5 fun K hK=>?_
    go_simp
    (go_at_call 9;refine (aO _).mono ?_;rintro e w7 ⟨rfl,ax⟩;have d0:=hid (cx.out.trans (ax.mono cx.out.size));clear ax)
    try go_wp2_with fail
    refine hK.out _ _ ?_ (fun hHeld=>?_)
    ·exact FS.out _ d0.out
    clear hK K
    try simp only [Act.put,sqp]
    refine sqt 6 ?_
    refine sqt 7 ?_
    refine wpAnyH_done (by kernel_rfl) ?_ _
    go_wp2
    go_ret
    exact ⟨rfl,bb.out.trans (d0.out.mono bb.out.size)⟩
set_option maxRecDepth 100000 in
set_option maxHeartbeats 3200000 in
theorem lI (a:Option Addr) (l:List Opr) (c n:Nat) (xa xn:Int) (xs:ByteArray) (w:World) (hr:Oprs w (·<w.heap.size) a l) (hf:∀ x∈l,x.fits) (hn:l.length=n) (hw:fewO l=true) (h30:n≤30) (hxi:i64P xa) (hxs:xs.size≤600):Calls Tryz.prog 6 #[.slice a n c,.agg #[.int .i64 2,.int .i64 xa,.int .i64 xn,.string xs]] w fun e w'=>e=.returned (.bool true)∧Below w.heap.size w w':=by
 obtain ⟨wX,hwX,kX,az,hz⟩:=box1 w #[.int .i64 2,.int .i64 xa,.int .i64 xn,.string xs] 36
 obtain ⟨z0,z1,z2,z3,-,-,-,-⟩:=kX.four
 have cw:=cW a l c wX ((hr.below (fun _ h=>h) az).more fun b h=>Nat.lt_of_lt_of_le h az.size) (by unfold maxLen;omega)
 rw [hw,hn] at cw
 have g1:¬ (30:Int)<(n:Int):=by omega
 have g2:¬ (600:Int)<(xs.size:Int):=by omega
 have CW:=hid cw;have CN:=hid (qA wX);have HR:=hid hr;have HF:=hid hf;have HN:=hid hn;have HW:=hid (fZ.1 hw).2;have bu:=hid az;have KX:=hid kX;have HZ:=hid hz;have d2:=hid hxs;have d3:=hid hxi
 clear cw hr hf hn hw kX az hz hxs hxi
 have cf0:=yV;have cf2:=xS
 go_enter Tryz.func6,Tryz.ntmps6
 go_wp2_with fail
 refine CW.out.mono ?_;rintro e w1 ⟨rfl,rfl⟩
 go_wp2_with fail
 refine CN.out.mono ?_;rintro e w0 ⟨b,s0,r0,p0,L0,rfl,cy,-,az,a8⟩
 have cz:=hid cy;have c3:=hid (bu.out.trans (a8.mono bu.out.size));have c4:=hid (KX.out.onto a8)
 have hbl:w.heap.size≤b:=Nat.le_trans bu.out.size az
 have hnx:w.heap.size≠b:=by have:=HZ.out;omega
 have ai:=hid hbl;have c5:=hid hnx
 clear cy az a8 hbl hnx CW CN KX z0 z1 z2 z3 hwX bu HZ
 go_wp2
 go_loopw [6] (fun i wr=>∃ (k:Nat) (s:Sta) (rb:Nat) (p:Option Addr) (L:List ByteArray),k≤n∧i=.int .i64 k∧IsEd [] wr b s rb p L∧Below w.heap.size w wr∧Blk wr w.heap.size #[.int .i64 2,.int .i64 xa,.int .i64 xn,.string xs] 36) (fun i _=>n - (intOf i).toNat)
 case atStart=>exact ⟨0,s0,r0,p0,L0,Nat.zero_le _,rfl,cz.out,c3.out,c4.out⟩
 case round =>
  obtain ⟨k,s,rb,p,L,hk,rfl,hi,hbel,hkx⟩:=hrel
  have b0:(0:Int)≤(k:Int):=by omega
  by_cases hlt:k<n
  ·have hkl:k<l.length:=by rw [HN.out];exact hlt
   have fx:=HF.out (l[k]) (List.getElem_mem hkl)
   have sx:=HW.out (l[k]) (List.getElem_mem hkl)
   have b1:(k:Int)<(n:Int):=by omega
   obtain ⟨ad,rfl,q0,q1,q2,q3⟩:=xN HR.out hbel hkl
   have cd:=bP hi (l[k]).k (l[k]).a (l[k]).n (l[k]).s (oQ fx) (by omega)
   obtain ⟨x,hx⟩:∃ x,l[k]=x:=⟨_,rfl⟩
   rw [hx] at q0 q1 q2 q3 cd
   obtain ⟨yk,ya,yn,ys⟩:=x
   simp only at q0 q1 q2 q3 cd
   have CD:=hid cd;have ae:=hid hbel;have bv:=hid hkx
   clear cd hi hbel hkx hx fx sx
   go_wp2_with fail
   refine CD.out.mono ?_;rintro e w2 ⟨s2,r2,p2,L2,rfl,ab,af,aa⟩
   have H2:=hid (And.intro ab aa)
   clear q0 q1 q2 q3 ab af aa CD
   go_wp2
   go_roundw
   case rel=>exact ⟨k+1,s2,r2,p2,L2,by omega,by go_num,H2.out.1,aG ae.out ai.out H2.out.2,bv.out.apart H2.out.2 (by simpa using c5.out)⟩
   case measure=>simp [intOf];omega
  ·obtain rfl:k=n:=by omega
   have CE:=hid (show Calls Tryz.prog 12 #[.pointer (some ⟨b,0,none⟩),.agg #[.int .i64 8,.int .i64 0,.int .i64 0,.string ⟨#[]⟩]] wr _ from bB hi 8 (do8 s.d) rfl)
   have ae:=hid hbel;have bv:=hid hkx
   clear hi hbel hkx cz c3 c4
   go_wp2_with fail
   refine CE.out.mono ?_;rintro e w2 ⟨s2,r2,p2,L2,rfl,ab,af,aa⟩
   have c6:s2.d.o=false:=by rw [af];exact pP _
   have al:=hid ab;have c7:=hid c6;have am:=hid (aG ae.out ai.out aa);have au:=hid (bv.out.apart aa (by simpa using c5.out))
   have CS:=hid (ab.state [b] (aR ab.lt))
   clear ab af aa c6 CE ae bv
   go_wp2_with fail
   refine CS.out.mono ?_;rintro e w3 ⟨s3,rfl,av,c8,bw⟩
   obtain ⟨wA,hwA,kA,hbA,hzA⟩:=box1 w3 s3.cells 31
   have a9:=bw.trans (hbA.mono bw.size)
   have i3:=al.out.later a9
   have KA:=hid kA;have d4:=hid i3;have bx:=hid av;have c9:=hid (am.out.trans (a9.mono am.out.size));have da:=hid (au.out.onto a9);have db:=hid (c8.later hbA)
   have hnA:w3.heap.size≠b:=by have h1:=al.out.lt;have h2:=bw.size;omega
   have ce:=hid hnA
   obtain ⟨z0,z1,z2,z3,-,-,-,-⟩:=da.out.four
   have cd:=bP i3 2 xa xn xs d3.out (by have:=d2.out;omega)
   obtain ⟨R,hR⟩:∃ R,doD s2.d 2 xa xn xs=R:=⟨_,rfl⟩
   have hno:R.2≠0→R.1=s2.d:=fun h=>by rw [← hR] at h ⊢;exact EW h
   have hyes:R.2=0→R.1.o=false∧(R.1.t=s2.d.t∨(MidT R.1 R.1 []∧(undoD R.1).1.t=s2.d.t∧0<R.1.u.length)):=fun h=>by rw [← hR] at h ⊢;exact tI (by exact .inr rfl) c7.out al.out.inv h
   rw [hR] at cd
   obtain ⟨Rs,Re⟩:=R
   have CD:=hid cd;have cf:=hid hno;have br:=hid hyes
   clear cd a9 i3 hnA hR hno hyes av c8 bw hbA hzA kA CS al c7 am au d4 da
   go_wp2_with fail
   refine CD.out.mono ?_;rintro e w4 ⟨s4,r4,p4,L4,rfl,an,cg,bz⟩
   have ao:=hid (KA.out.apart bz (by simpa using ce.out));have ch:=hid (db.out.apart bz);have bb:=hid (aG c9.out ai.out bz);have b3:=hid cg
   clear z0 z1 z2 z3 hwA bz CD KA db c9
   by_cases hE:Re=0
   ·subst hE
    have bc:=hid (an.state [b] (aR an.lt));have b4:=hid an
    obtain ⟨hoR,htR⟩:=br.out rfl
    have dc:=hid hoR;have ci:=hid htR
    clear an cg hoR htR br cf
    go_wp2_with fail
    refine bc.out.mono ?_;rintro e w5 ⟨s5,rfl,bd,b5,a0⟩
    obtain ⟨wB,hwB,kB,hbB,hzB⟩:=box1 w5 s5.cells 31
    have ba:=a0.trans (hbB.mono a0.size)
    have HI:=hid (b4.out.later ba)
    have KA:=hid (ao.out.onto ba)
    have HB:=hid (bb.out.trans (ba.mono bb.out.size))
    have hnB:w5.heap.size≠b:=by have h1:=b4.out.lt;have h2:=a0.size;omega
    have aw:=hid hnB
    have KB:=hid kB
    have htx:s4.d.t=s5.t:=(congrArg StaD.t bd).symm
    have hta:s2.d.t=s3.t:=(congrArg StaD.t bx.out).symm
    have h4R:s4.d=Rs:=b3.out
    have dd:s4.d.o=false:=by rw [h4R];exact dc.out
    have b6:MidT s4.d s4.d []:=MidT.start b4.out.inv dd
    obtain ⟨y0,-⟩:=kB.all6
    obtain ⟨z0,-⟩:=KA.out.all6
    obtain ⟨t5,cj⟩:∃ t,s5.t=t:=⟨_,rfl⟩
    obtain ⟨t3,ck⟩:∃ t,s3.t=t:=⟨_,rfl⟩
    have ah:=hid cj;have be:=hid ck
    rw [cj] at y0
    rw [ck] at z0
    clear cj ck
    have a1:=hid htx;have ay:=hid b6;have b7:=hid hta;have H4R:=hid h4R
    clear a0 hbB hzB ba hnB htx hta h4R dd b6 bd b5 kB bc b4 ao bb ch b3 bx dc
    by_cases hts:t5=t3
    ·subst hts
     have HM:=ay
     have b8:=hid (show s4.t=t5 from (show s4.t=s5.t from a1.out).trans ah.out)
     clear ci b7 H4R ay a1 KA be
     have bf:=hid (HI.out.state [b] (aR HI.out.lt))
     go_wp2_with fail
     refine bf.out.mono ?_;rintro e w9 ⟨s9,rfl,bg,cl,aq⟩
     obtain ⟨m,hm⟩:∃ m,s9.u.l.length=m:=⟨_,rfl⟩
     have hmu:s4.d.u.length=m:=by rw [← bg,← hm];show (lsP s9.u.l).length=_;rw [aA]
     have d1:m≤16:=by rw [← hmu];exact HM.out.n
     obtain ⟨t9,m9,⟨ua,ul,uc⟩,r9,o9,g9⟩:=s9
     dsimp only at hm
     simp only [Sta.v,Sta.cs]
     rw [hm]
     have bh:=hid (HI.out.later aq)
     have bi:=hid (HB.out.trans (aq.mono HB.out.size))
     have bj:=hid (KB.out.onto aq)
     have a2:=hid hmu
     clear bg cl aq hm hmu bf HI HB KB
     go_wp2
     go_loopw [13] (fun i wr=>∃ (j:Nat) (s:Sta) (rb:Nat) (p:Option Addr) (L:List ByteArray) (Q:List (List Edt)),j≤m∧i=.int .i64 j∧IsEd [] wr b s rb p L∧MidT s4.d s.d Q∧s.d.u.length+j=m∧Below w.heap.size w wr∧Blk wr w5.heap.size s5.cells 31) (fun i _=>m - (intOf i).toNat)
     case atStart=>exact ⟨0,s4,r4,p4,L4,[],Nat.zero_le _,rfl,bh.out,HM.out,a2.out,bi.out,bj.out⟩
     case round =>
      obtain ⟨j,s,rb,p,L,Q,hj,rfl,hi,hq,hlen,hbel,hkb⟩:=hrel
      have j0:(0:Int)≤(j:Int):=by omega
      by_cases hlt:j<m
      ·have j1:(j:Int)<(m:Int):=by omega
       have j2:(j:Int)<20:=by omega
       obtain ⟨e1,st,aj,a3⟩:=hq.undo (by omega)
       have ac:(undoD s.d).1.u.length+(j+1)=m:=by omega
       have ak:=hid (And.intro aj ac);have ae:=hid hbel;have ag:=hid hkb
       have CO:=hid (show Calls Tryz.prog 12 #[.pointer (some ⟨b,0,none⟩),.agg #[.int .i64 5,.int .i64 0,.int .i64 0,.string ⟨#[]⟩]] wr _ from bB hi 5 (do5 s.d) e1)
       clear hi hq hlen hbel hkb e1 aj a3 ac
       go_wp2_with fail
       refine CO.out.mono ?_;rintro e w2 ⟨s2,r2,p2,L2,rfl,ab,af,aa⟩
       have H2:=hid (And.intro ab (And.intro af aa))
       clear ab af aa CO
       go_wp2
       go_roundw
       case rel=>exact ⟨j+1,s2,r2,p2,L2,st::Q,by omega,by go_num,H2.out.1,by rw [H2.out.2.1];exact ak.out.1,by rw [H2.out.2.1];exact ak.out.2,aG ae.out ai.out H2.out.2.2,ag.out.apart H2.out.2.2 (by simpa using aw.out)⟩
       case measure=>simp [intOf];omega
      ·obtain rfl:j=m:=by omega
       have a4:s.d.u.length=0:=by omega
       have a5:=a2;have HQ:=hid hq;have bk:=hid a4;have ae:=hid hbel;have ag:=hid hkb
       have CO:=hid (show Calls Tryz.prog 12 #[.pointer (some ⟨b,0,none⟩),.agg #[.int .i64 5,.int .i64 0,.int .i64 0,.string ⟨#[]⟩]] wr _ from bB hi 5 ((do5 s.d).trans (hq.none a4)) rfl)
       clear hi hq a4 hlen hbel hkb a2 bh bi bj
       go_wp2_with fail
       refine CO.out.mono ?_;rintro e w2 ⟨s2,r2,p2,L2,rfl,ab,af,aa⟩
       have al:=hid ab;have a6:=hid af;have am:=hid (aG ae.out ai.out aa);have au:=hid (ag.out.apart aa (by simpa using aw.out))
       clear ab af aa CO ae ag
       go_wp2
       go_loopw [14] (fun i wr=>∃ (k:Nat) (s:Sta) (rb:Nat) (p:Option Addr) (L:List ByteArray) (Q:List (List Edt)),k≤j∧i=.int .i64 k∧IsEd [] wr b s rb p L∧MidT s4.d s.d Q∧s.d.u.length=k∧Below w.heap.size w wr∧Blk wr w5.heap.size s5.cells 31) (fun i _=>j - (intOf i).toNat)
       case atStart=>exact ⟨0,s2,r2,p2,L2,Q,Nat.zero_le _,rfl,al.out,by rw [show s2.d=s.d from a6.out];exact HQ.out,by rw [show s2.d=s.d from a6.out];exact bk.out,am.out,au.out⟩
       case round =>
        obtain ⟨k,s',rb',p',L',Q',hk,rfl,hi,hq,hlen,hbel,hkb⟩:=hrel
        have k0:(0:Int)≤(k:Int):=by omega
        by_cases hlt2:k<j
        ·have k1:(k:Int)<(j:Int):=by omega
         have k2:(k:Int)<20:=by omega
         obtain ⟨q,Q2,rfl⟩:∃ q Q2,Q'=q::Q2:=by
          cases Q' with
          | nil=>exact absurd hq.whole.2 (by rw [hlen,a5.out];omega)
          | cons q Q2=>exact ⟨q,Q2,rfl⟩
         obtain ⟨e1,aj,a3⟩:=hq.redo
         have ac:(redoD s'.d).1.u.length=k+1:=by omega
         have ak:=hid (And.intro aj ac);have ae:=hid hbel;have ag:=hid hkb
         have CO:=hid (show Calls Tryz.prog 12 #[.pointer (some ⟨b,0,none⟩),.agg #[.int .i64 6,.int .i64 0,.int .i64 0,.string ⟨#[]⟩]] wr _ from bB hi 6 (do6 s'.d) e1)
         clear hi hq hlen hbel hkb e1 aj a3 ac
         go_wp2_with fail
         refine CO.out.mono ?_;rintro e w3 ⟨s3,r3,p3,L3,rfl,bl,av,bm⟩
         have H3:=hid (And.intro bl (And.intro av bm))
         clear bl av bm CO
         go_wp2
         go_roundw
         case rel=>exact ⟨k+1,s3,r3,p3,L3,Q2,by omega,by go_num,H3.out.1,by rw [H3.out.2.1];exact ak.out.1,by rw [H3.out.2.1];exact ak.out.2,aG ae.out ai.out H3.out.2.2,ag.out.apart H3.out.2.2 (by simpa using aw.out)⟩
         case measure=>simp [intOf];omega
        ·obtain rfl:k=j:=by omega
         obtain rfl:Q'=[]:=by
          have h1:=congrArg List.length hq.u
          rw [List.length_append,hlen,a5.out] at h1
          exact List.length_eq_zero_iff.1 (by omega)
         have hw:=hq.whole
         have ht:s'.t=s4.t:=hw.1
         have HI:=hid hi;have HT:=hid (ht.trans b8.out);have cm:=hid hlen;have HB:=hid hbel;have HK:=hid hkb
         have bn:=hid (fun W (hW:Below wr.heap.size wr W)=>(hi.later hW).state [b] (aR (hi.later hW).lt))
         clear hi hq hlen hbel hkb hw ht al a6 am au HQ bk
         go_wp2_with fail
         refine wp_region_held_drew (S:=(fun W:World=>W.cell? ⟨w5.heap.size,0,none⟩=some (.string t5))) (by kernel_rfl) ((HK.out.onto (Below.refl _ _).drew).cell 0 _ (by rw [← ah.out];rfl)) (fun hHeld=>?_)
         refine sqt 0 ?_
         refine sqt 3 ?_
         refine sqt 4 ?_
         refine sqr 1 fun K hK=>?_
         go_simp
         (go_at_call 17;refine (bn.out _ (Below.refl _ _).drew).mono ?_;rintro e wF ⟨sF,rfl,hdF,hsF,hbF⟩;have hxF:=(Below.refl wr.heap.size wr).drew.trans hbF;have ar:=hid hxF;have htF:t5=sF.t:=(HT.out.symm.trans (congrArg StaD.t hdF).symm);clear hdF hsF hbF hxF;obtain ⟨tF,⟨maF,mlF,mcF⟩,⟨uaF,ulF,ucF⟩,⟨raF,rlF,rcF⟩,ooF,⟨gaF,glF,gcF⟩⟩:=sF;dsimp only [Sta.v,Sta.cs];obtain rfl:t5=tF:=htF)
         try go_wp2_with fail
         refine hK.out _ _ ?_ (fun hHeld=>?_)
         ·exact (HK.out.onto ar.out).cell 0 _ (by rw [← ah.out];rfl)
         clear hK K
         try simp only [Act.put,sqp]
         refine sqt 2 ?_
         refine sqt 5 ?_
         refine sqt 6 ?_
         refine sqt 7 ?_
         refine sqt 11 ?_
         refine sqr 8 fun K hK=>?_
         go_simp
         (go_at_call 17;refine (bn.out _ ar.out).mono ?_;rintro e wG ⟨sG,rfl,hdG,hsG,hbG⟩;have a7:=hid (ar.out.trans (hbG.mono ar.out.size));have hlG:sG.u.l.length=k:=(by rw [← aA];exact (congrArg (fun x=>x.u.length) hdG).trans cm.out);clear hdG hsG hbG;obtain ⟨tG,⟨maG,mlG,mcG⟩,⟨uaG,ulG,ucG⟩,⟨raG,rlG,rcG⟩,ooG,⟨gaG,glG,gcG⟩⟩:=sG;dsimp only [Sta.v,Sta.cs];dsimp only at hlG;rw [hlG];clear hlG)
         try go_wp2_with fail
         refine hK.out _ _ ?_ (fun hHeld=>?_)
         ·exact (HK.out.onto a7.out).cell 0 _ (by rw [← ah.out];rfl)
         clear hK K
         try simp only [Act.put,sqp]
         refine sqt 9 ?_
         refine sqt 10 ?_
         refine sqt 12 ?_
         refine sqt 13 ?_
         refine sqt 14 ?_
         refine sqr 15 fun K hK=>?_
         go_simp
         (go_at_call 9;refine (aO _).mono ?_;rintro e wH ⟨rfl,hbH⟩;have bo:=hid (a7.out.trans (hbH.mono a7.out.size));clear hbH)
         try go_wp2_with fail
         refine hK.out _ _ ?_ (fun hHeld=>?_)
         ·exact (HK.out.onto bo.out).cell 0 _ (by rw [← ah.out];rfl)
         clear hK K
         try simp only [Act.put,sqp]
         refine sqt 16 ?_
         refine sqt 17 ?_
         refine wpAnyH_done (by kernel_rfl) ?_ _
         go_wp2
         go_ret
         exact ⟨rfl,HB.out.trans (bo.out.mono HB.out.size)⟩
    ·have hbl:(t5.toList == t3.toList)=false:=dG hts
     obtain ⟨-,hut,hul⟩:=ci.out.resolve_left (fun e=>hts (by rw [← ah.out,← be.out,← a1.out,← b7.out,H4R.out];exact e))
     obtain ⟨e1,st,cn,-⟩:=ay.out.undo (by rw [H4R.out];exact hul)
     obtain ⟨e2,de,-⟩:=cn.redo
     have co:(undoD s4.d).1.t=t3:=by rw [H4R.out,hut,b7.out,be.out]
     have CO:=hid (show Calls Tryz.prog 12 #[.pointer (some ⟨b,0,none⟩),.agg #[.int .i64 5,.int .i64 0,.int .i64 0,.string ⟨#[]⟩]] wB _ from bB HI.out 5 (do5 s4.d) e1)
     have d5:=hid cn;have df:=hid de;have dg:=hid e2;have dh:=hid co
     clear hut hul e1 cn e2 de co ci b7 H4R ay HI
     go_wp2_with fail
     refine CO.out.mono ?_;rintro e w6 ⟨s6,r6,p6,L6,rfl,b9,di,ca⟩
     have dj:=hid b9;have cb:=hid di;have cp:=hid (aG HB.out ai.out ca);have dk:=hid (KB.out.apart ca (by simpa using aw.out));have dl:=hid (KA.out.apart ca (by simpa using ce.out))
     have dm:=hid (b9.state [b] (aR b9.lt))
     clear b9 di ca CO KA KB HB z0 y0 hwB
     go_wp2_with fail
     refine dm.out.mono ?_;rintro e w7 ⟨s7,rfl,dn,d6,ax⟩
     have d7:t3=s7.t:=by have h1:=congrArg StaD.t dn;rw [cb.out,dh.out] at h1;exact h1.symm
     have e2:=dg.out
     have dp:=hid (dj.out.later ax);have dq:=hid (cp.out.trans (ax.mono cp.out.size));have dr:=hid (dk.out.onto ax);have ds:=hid (dl.out.onto ax)
     rw [← cb.out] at e2
     have CP:=hid (show Calls Tryz.prog 12 #[.pointer (some ⟨b,0,none⟩),.agg #[.int .i64 6,.int .i64 0,.int .i64 0,.string ⟨#[]⟩]] w7 _ from bB dp.out 6 (do6 s6.d) e2)
     obtain ⟨t7,⟨ma7,ml7,mc7⟩,⟨ua7,ul7,uc7⟩,⟨ra7,rl7,rc7⟩,oo7,⟨ga7,gl7,gc7⟩⟩:=s7;dsimp only [Sta.v,Sta.cs]
     obtain rfl:t3=t7:=d7
     clear e2 dn d6 ax dm dj cp dk dl
     go_wp2_with fail
     refine CP.out.mono ?_;rintro e w8 ⟨s8,r8,p8,L8,rfl,bp,dt,cc⟩
     have cq:MidT s4.d s8.d []:=by rw [dt,cb.out];exact df.out
     have du:s8.t=t5:=(show s8.d.t=s4.d.t from cq.t).trans (a1.out.trans ah.out)
     have b8:=hid du;have HM:=hid (MidT.start bp.inv cq.o)
     have dv:=hid bp;have cr:=hid (aG dq.out ai.out cc);have ct:=hid (dr.out.apart cc (by simpa using aw.out));have dw:=hid (ds.out.apart cc (by simpa using ce.out))
     have FS:=hid (fun W (hW:Below w8.heap.size w8 W)=>(⟨(dw.out.onto hW).cell 0 _ (by rw [← be.out];rfl),(ct.out.onto hW).cell 0 _ (by rw [← ah.out];rfl)⟩:(fun W:World=>W.cell? ⟨w3.heap.size,0,none⟩=some (.string t3)∧W.cell? ⟨w5.heap.size,0,none⟩=some (.string t5)) W))
     have dx:=hid (fun W (hW:Below w8.heap.size w8 W)=>(bp.later hW).state [b] (aR (bp.later hW).lt))
     clear bp dt cc cq du CP dp dq dr ds d5 df dg dh cb a1
     go_wp2_with fail
     refine wp_region_held_drew (S:=(fun W:World=>W.cell? ⟨w3.heap.size,0,none⟩=some (.string t3)∧W.cell? ⟨w5.heap.size,0,none⟩=some (.string t5))) (by kernel_rfl) (FS.out _ (Below.refl _ _).drew) (fun hHeld=>?_)
     refine sqt 0 ?_
     refine sqt 1 ?_
     refine sqt 2 ?_
     refine sqt 3 ?_
     refine sqt 4 ?_
     refine sqt 5 ?_
     refine sqt 6 ?_
     refine sqt 7 ?_
     refine sqt 8 ?_
     refine sqt 9 ?_
     refine sqt 10 ?_
     refine sqt 11 ?_
     refine sqt 12 ?_
     refine sqt 13 ?_
     refine sqt 16 ?_
     refine sqt 17 ?_
     refine sqr 14 fun K hK=>?_
     go_simp
     (go_at_call 17;refine (dx.out _ (Below.refl _ _).drew).mono ?_;rintro e wC ⟨sC,rfl,hdC,hsC,hbC⟩;have hxC:=(Below.refl w8.heap.size w8).drew.trans hbC;have bq:=hid hxC;have htC:t5=sC.t:=(b8.out.symm.trans (congrArg StaD.t hdC).symm);clear hdC hsC hbC hxC;obtain ⟨tC,⟨maC,mlC,mcC⟩,⟨uaC,ulC,ucC⟩,⟨raC,rlC,rcC⟩,ooC,⟨gaC,glC,gcC⟩⟩:=sC;dsimp only [Sta.v,Sta.cs];obtain rfl:t5=tC:=htC)
     try go_wp2_with fail
     refine hK.out _ _ ?_ (fun hHeld=>?_)
     ·exact FS.out _ bq.out
     clear hK K
     try simp only [Act.put,sqp]
     refine sqt 15 ?_
     refine sqt 18 ?_
     refine sqt 19 ?_
     refine wpAnyH_done (by kernel_rfl) ?_ _
     have HI:=hid (dv.out.later bq.out);have HB:=hid (cr.out.trans (bq.out.mono cr.out.size));have KB:=hid (ct.out.onto bq.out)
     clear FS dx dv cr ct dw bq be
     have bf:=hid (HI.out.state [b] (aR HI.out.lt))
     go_wp2_with fail
     refine bf.out.mono ?_;rintro e w9 ⟨s9,rfl,bg,cl,aq⟩
     obtain ⟨m,hm⟩:∃ m,s9.u.l.length=m:=⟨_,rfl⟩
     have hmu:s8.d.u.length=m:=by rw [← bg,← hm];show (lsP s9.u.l).length=_;rw [aA]
     have d1:m≤16:=by rw [← hmu];exact HM.out.n
     obtain ⟨t9,m9,⟨ua,ul,uc⟩,r9,o9,g9⟩:=s9
     dsimp only at hm
     simp only [Sta.v,Sta.cs]
     rw [hm]
     have bh:=hid (HI.out.later aq)
     have bi:=hid (HB.out.trans (aq.mono HB.out.size))
     have bj:=hid (KB.out.onto aq)
     have a2:=hid hmu
     clear bg cl aq hm hmu bf HI HB KB
     go_wp2
     go_loopw [13] (fun i wr=>∃ (j:Nat) (s:Sta) (rb:Nat) (p:Option Addr) (L:List ByteArray) (Q:List (List Edt)),j≤m∧i=.int .i64 j∧IsEd [] wr b s rb p L∧MidT s8.d s.d Q∧s.d.u.length+j=m∧Below w.heap.size w wr∧Blk wr w5.heap.size s5.cells 31) (fun i _=>m - (intOf i).toNat)
     case atStart=>exact ⟨0,s8,r8,p8,L8,[],Nat.zero_le _,rfl,bh.out,HM.out,a2.out,bi.out,bj.out⟩
     case round =>
      obtain ⟨j,s,rb,p,L,Q,hj,rfl,hi,hq,hlen,hbel,hkb⟩:=hrel
      have j0:(0:Int)≤(j:Int):=by omega
      by_cases hlt:j<m
      ·have j1:(j:Int)<(m:Int):=by omega
       have j2:(j:Int)<20:=by omega
       obtain ⟨e1,st,aj,a3⟩:=hq.undo (by omega)
       have ac:(undoD s.d).1.u.length+(j+1)=m:=by omega
       have ak:=hid (And.intro aj ac);have ae:=hid hbel;have ag:=hid hkb
       have CO:=hid (show Calls Tryz.prog 12 #[.pointer (some ⟨b,0,none⟩),.agg #[.int .i64 5,.int .i64 0,.int .i64 0,.string ⟨#[]⟩]] wr _ from bB hi 5 (do5 s.d) e1)
       clear hi hq hlen hbel hkb e1 aj a3 ac
       go_wp2_with fail
       refine CO.out.mono ?_;rintro e w2 ⟨s2,r2,p2,L2,rfl,ab,af,aa⟩
       have H2:=hid (And.intro ab (And.intro af aa))
       clear ab af aa CO
       go_wp2
       go_roundw
       case rel=>exact ⟨j+1,s2,r2,p2,L2,st::Q,by omega,by go_num,H2.out.1,by rw [H2.out.2.1];exact ak.out.1,by rw [H2.out.2.1];exact ak.out.2,aG ae.out ai.out H2.out.2.2,ag.out.apart H2.out.2.2 (by simpa using aw.out)⟩
       case measure=>simp [intOf];omega
      ·obtain rfl:j=m:=by omega
       have a4:s.d.u.length=0:=by omega
       have a5:=a2;have HQ:=hid hq;have bk:=hid a4;have ae:=hid hbel;have ag:=hid hkb
       have CO:=hid (show Calls Tryz.prog 12 #[.pointer (some ⟨b,0,none⟩),.agg #[.int .i64 5,.int .i64 0,.int .i64 0,.string ⟨#[]⟩]] wr _ from bB hi 5 ((do5 s.d).trans (hq.none a4)) rfl)
       clear hi hq a4 hlen hbel hkb a2 bh bi bj
       go_wp2_with fail
       refine CO.out.mono ?_;rintro e w2 ⟨s2,r2,p2,L2,rfl,ab,af,aa⟩
       have al:=hid ab;have a6:=hid af;have am:=hid (aG ae.out ai.out aa);have au:=hid (ag.out.apart aa (by simpa using aw.out))
       clear ab af aa CO ae ag
       go_wp2
       go_loopw [14] (fun i wr=>∃ (k:Nat) (s:Sta) (rb:Nat) (p:Option Addr) (L:List ByteArray) (Q:List (List Edt)),k≤j∧i=.int .i64 k∧IsEd [] wr b s rb p L∧MidT s8.d s.d Q∧s.d.u.length=k∧Below w.heap.size w wr∧Blk wr w5.heap.size s5.cells 31) (fun i _=>j - (intOf i).toNat)
       case atStart=>exact ⟨0,s2,r2,p2,L2,Q,Nat.zero_le _,rfl,al.out,by rw [show s2.d=s.d from a6.out];exact HQ.out,by rw [show s2.d=s.d from a6.out];exact bk.out,am.out,au.out⟩
       case round =>
        obtain ⟨k,s',rb',p',L',Q',hk,rfl,hi,hq,hlen,hbel,hkb⟩:=hrel
        have k0:(0:Int)≤(k:Int):=by omega
        by_cases hlt2:k<j
        ·have k1:(k:Int)<(j:Int):=by omega
         have k2:(k:Int)<20:=by omega
         obtain ⟨q,Q2,rfl⟩:∃ q Q2,Q'=q::Q2:=by
          cases Q' with
          | nil=>exact absurd hq.whole.2 (by rw [hlen,a5.out];omega)
          | cons q Q2=>exact ⟨q,Q2,rfl⟩
         obtain ⟨e1,aj,a3⟩:=hq.redo
         have ac:(redoD s'.d).1.u.length=k+1:=by omega
         have ak:=hid (And.intro aj ac);have ae:=hid hbel;have ag:=hid hkb
         have CO:=hid (show Calls Tryz.prog 12 #[.pointer (some ⟨b,0,none⟩),.agg #[.int .i64 6,.int .i64 0,.int .i64 0,.string ⟨#[]⟩]] wr _ from bB hi 6 (do6 s'.d) e1)
         clear hi hq hlen hbel hkb e1 aj a3 ac
         go_wp2_with fail
         refine CO.out.mono ?_;rintro e w3 ⟨s3,r3,p3,L3,rfl,bl,av,bm⟩
         have H3:=hid (And.intro bl (And.intro av bm))
         clear bl av bm CO
         go_wp2
         go_roundw
         case rel=>exact ⟨k+1,s3,r3,p3,L3,Q2,by omega,by go_num,H3.out.1,by rw [H3.out.2.1];exact ak.out.1,by rw [H3.out.2.1];exact ak.out.2,aG ae.out ai.out H3.out.2.2,ag.out.apart H3.out.2.2 (by simpa using aw.out)⟩
         case measure=>simp [intOf];omega
        ·obtain rfl:k=j:=by omega
         obtain rfl:Q'=[]:=by
          have h1:=congrArg List.length hq.u
          rw [List.length_append,hlen,a5.out] at h1
          exact List.length_eq_zero_iff.1 (by omega)
         have hw:=hq.whole
         have ht:s'.t=s8.t:=hw.1
         have HI:=hid hi;have HT:=hid (ht.trans b8.out);have cm:=hid hlen;have HB:=hid hbel;have HK:=hid hkb
         have bn:=hid (fun W (hW:Below wr.heap.size wr W)=>(hi.later hW).state [b] (aR (hi.later hW).lt))
         clear hi hq hlen hbel hkb hw ht al a6 am au HQ bk
         go_wp2_with fail
         refine wp_region_held_drew (S:=(fun W:World=>W.cell? ⟨w5.heap.size,0,none⟩=some (.string t5))) (by kernel_rfl) ((HK.out.onto (Below.refl _ _).drew).cell 0 _ (by rw [← ah.out];rfl)) (fun hHeld=>?_)
         refine sqt 0 ?_
         refine sqt 3 ?_
         refine sqt 4 ?_
         refine sqr 1 fun K hK=>?_
         go_simp
         (go_at_call 17;refine (bn.out _ (Below.refl _ _).drew).mono ?_;rintro e wF ⟨sF,rfl,hdF,hsF,hbF⟩;have hxF:=(Below.refl wr.heap.size wr).drew.trans hbF;have ar:=hid hxF;have htF:t5=sF.t:=(HT.out.symm.trans (congrArg StaD.t hdF).symm);clear hdF hsF hbF hxF;obtain ⟨tF,⟨maF,mlF,mcF⟩,⟨uaF,ulF,ucF⟩,⟨raF,rlF,rcF⟩,ooF,⟨gaF,glF,gcF⟩⟩:=sF;dsimp only [Sta.v,Sta.cs];obtain rfl:t5=tF:=htF)
         try go_wp2_with fail
         refine hK.out _ _ ?_ (fun hHeld=>?_)
         ·exact (HK.out.onto ar.out).cell 0 _ (by rw [← ah.out];rfl)
         clear hK K
         try simp only [Act.put,sqp]
         refine sqt 2 ?_
         refine sqt 5 ?_
         refine sqt 6 ?_
         refine sqt 7 ?_
         refine sqt 11 ?_
         refine sqr 8 fun K hK=>?_
         go_simp
         (go_at_call 17;refine (bn.out _ ar.out).mono ?_;rintro e wG ⟨sG,rfl,hdG,hsG,hbG⟩;have a7:=hid (ar.out.trans (hbG.mono ar.out.size));have hlG:sG.u.l.length=k:=(by rw [← aA];exact (congrArg (fun x=>x.u.length) hdG).trans cm.out);clear hdG hsG hbG;obtain ⟨tG,⟨maG,mlG,mcG⟩,⟨uaG,ulG,ucG⟩,⟨raG,rlG,rcG⟩,ooG,⟨gaG,glG,gcG⟩⟩:=sG;dsimp only [Sta.v,Sta.cs];dsimp only at hlG;rw [hlG];clear hlG)
         try go_wp2_with fail
         refine hK.out _ _ ?_ (fun hHeld=>?_)
         ·exact (HK.out.onto a7.out).cell 0 _ (by rw [← ah.out];rfl)
         clear hK K
         try simp only [Act.put,sqp]
         refine sqt 9 ?_
         refine sqt 10 ?_
         refine sqt 12 ?_
         refine sqt 13 ?_
         refine sqt 14 ?_
         refine sqr 15 fun K hK=>?_
         go_simp
         (go_at_call 9;refine (aO _).mono ?_;rintro e wH ⟨rfl,hbH⟩;have bo:=hid (a7.out.trans (hbH.mono a7.out.size));clear hbH)
         try go_wp2_with fail
         refine hK.out _ _ ?_ (fun hHeld=>?_)
         ·exact (HK.out.onto bo.out).cell 0 _ (by rw [← ah.out];rfl)
         clear hK K
         try simp only [Act.put,sqp]
         refine sqt 16 ?_
         refine sqt 17 ?_
         refine wpAnyH_done (by kernel_rfl) ?_ _
         go_wp2
         go_ret
         exact ⟨rfl,HB.out.trans (bo.out.mono HB.out.size)⟩
   ·have hrs:Rs=s2.d:=cf.out hE
    have FS:=hid (fun W (hW:Below w4.heap.size w4 W)=>(⟨(ao.out.onto hW).cell 0 _ rfl,(ao.out.onto hW).cell 1 _ rfl,(ao.out.onto hW).cell 2 _ rfl,(ao.out.onto hW).cell 3 _ rfl,(ao.out.onto hW).cell 4 _ rfl,(ao.out.onto hW).cell 5 _ rfl⟩:(fun W:World=>W.cell? ⟨w3.heap.size,0,none⟩=some (.string s3.t)∧W.cell? ⟨w3.heap.size,1,none⟩=some (.slice s3.m.a s3.m.l.length s3.m.c)∧W.cell? ⟨w3.heap.size,2,none⟩=some (.slice s3.u.a s3.u.l.length s3.u.c)∧W.cell? ⟨w3.heap.size,3,none⟩=some (.slice s3.r.a s3.r.l.length s3.r.c)∧W.cell? ⟨w3.heap.size,4,none⟩=some (.bool s3.o)∧W.cell? ⟨w3.heap.size,5,none⟩=some (.slice s3.g.a s3.g.l.length s3.g.c)) W))
    have bc:=hid (fun W (hW:Below w4.heap.size w4 W)=>(an.later hW).state [b] (aR (an.later hW).lt))
    have bs:s4.d=s3.d:=(b3.out.trans hrs).trans bx.out.symm
    have CQ:=hid (fun (s5:Sta) (hd:s5.d=s4.d) W (hs:StaO [b] W s5) (hW:Below w4.heap.size w4 W)=>(by
     have h1:=jJ s5 s3 W hs.in (ch.out.later hW).in (an.inv.of_d hd).few (an.inv.of_d bs.symm).few
     rw [show s5.d=s3.d from hd.trans bs,lO] at h1
     exact h1:Calls Tryz.prog 16 #[s5.v,.agg #[.string s3.t,.slice s3.m.a s3.m.l.length s3.m.c,.slice s3.u.a s3.u.l.length s3.u.c,.slice s3.r.a s3.r.l.length s3.r.c,.bool s3.o,.slice s3.g.a s3.g.l.length s3.g.c]] W (RetB true W)))
    have hEb:(Re == 0)=false:=beq_eq_false_iff_ne.2 hE
    clear hrs an cg bs cf br b3 ch ao bx
    go_wp2_with fail
    refine wp_region_held_drew (S:=(fun W:World=>W.cell? ⟨w3.heap.size,0,none⟩=some (.string s3.t)∧W.cell? ⟨w3.heap.size,1,none⟩=some (.slice s3.m.a s3.m.l.length s3.m.c)∧W.cell? ⟨w3.heap.size,2,none⟩=some (.slice s3.u.a s3.u.l.length s3.u.c)∧W.cell? ⟨w3.heap.size,3,none⟩=some (.slice s3.r.a s3.r.l.length s3.r.c)∧W.cell? ⟨w3.heap.size,4,none⟩=some (.bool s3.o)∧W.cell? ⟨w3.heap.size,5,none⟩=some (.slice s3.g.a s3.g.l.length s3.g.c))) (by kernel_rfl) (FS.out _ (Below.refl _ _).drew) (fun hHeld=>?_)
    refine sqt 0 ?_
    refine sqt 2 ?_
    refine sqr 1 fun K hK=>?_
    go_simp
    (go_at_call 17;refine (bc.out _ (Below.refl _ _).drew).mono ?_;rintro e w5 ⟨s5,rfl,bd,b5,a0⟩;have cu:=(Below.refl w4.heap.size w4).drew.trans a0;have dy:=hid (CQ.out s5 bd w5 b5 cu);have cv:=hid cu;clear bd b5 a0 cu CQ bc)
    try go_wp2_with fail
    refine hK.out _ _ ?_ (fun hHeld=>?_)
    ·exact FS.out _ cv.out
    clear hK K
    try simp only [Act.put,sqp]
    refine sqr 3 fun K hK=>?_
    go_simp
    (go_at_call 16;refine dy.out.mono ?_;rintro e w6 ⟨rfl,dz⟩;have cx:=hid (cv.out.trans (dz.mono cv.out.size));clear dz dy)
    try go_wp2_with fail
    refine hK.out _ _ ?_ (fun hHeld=>?_)
    ·exact FS.out _ cx.out
    clear hK K
    try simp only [Act.put,sqp]
    refine sqt 4 ?_
    refine sqr 5 fun K hK=>?_
    go_simp
    (go_at_call 9;refine (aO _).mono ?_;rintro e w7 ⟨rfl,ax⟩;have d0:=hid (cx.out.trans (ax.mono cx.out.size));clear ax)
    try go_wp2_with fail
    refine hK.out _ _ ?_ (fun hHeld=>?_)
    ·exact FS.out _ d0.out
    clear hK K
    try simp only [Act.put,sqp]
    refine sqt 6 ?_
    refine sqt 7 ?_
    refine wpAnyH_done (by kernel_rfl) ?_ _
    go_wp2
    go_ret
    exact ⟨rfl,bb.out.trans (d0.out.mono bb.out.size)⟩
theorem editorTurns_walk (a:Option Addr) (l:List Opr) (c:Nat) (x:Opr) (w:World) (hr:Oprs w (·<w.heap.size) a l) (hf:∀ x∈l,x.fits) (hm:l.length≤maxLen) (hx:x.fits) :
 Calls Tryz.prog 6 #[.slice a l.length c,x.v] w fun e w'=>e=.returned (.bool true)∧Below w.heap.size w w':=by
 obtain ⟨xk,xa,xn,xs⟩:=x
 cases hw:fewO l with
 | false=>exact kR a l c _ xk xa xn xs w hr rfl hm hw
 | true =>
  by_cases h1:l.length≤30
  ·by_cases h2:xs.size≤600
   ·by_cases h3:xk=1∨xk=2
    ·rcases h3 with rfl|rfl
     ·exact lN a l c _ xa xn xs w hr hf rfl hw h1 hx.2.1 h2
     ·exact lI a l c _ xa xn xs w hr hf rfl hw h1 hx.2.1 h2
    ·exact kH a l c _ xk xa xn xs w hr rfl hm hw h1 h2 h3
   ·exact kU a l c _ xk xa xn xs w hr rfl hm hw h1 (by omega)
  ·exact kF a l c _ xk xa xn xs w hr rfl hm hw (by omega)
end Go.Proofs.YtfiobemeogaaiaaGreat
