/-
  Joined: EdrRef3, EdrRef4, EdrRef5.
-/
import Derived.Test.YtbagenpobcgjnaaGreatJSq
import Derived.Test.YtbagenpobcgjnaaGreatJEdrMath
import Derived.Test.YtbagenpobcgjnaaGreatMarkRef2
import Derived.Test.YtbagenpobcgjnaaGreatJWeldOf
import Derived.Test.YtbagenpobcgjnaaGreatJStepRef2
variable {t:ByteArray} {fc:Nat}
namespace Go.Proofs.YtbagenpobcgjnaaGreat
open Go.Proofs.Tryz
set_option maxRecDepth 100000
open Lib (hid)
open Go.RowKit
set_option linter.unusedVariables false
set_option linter.unusedSimpArgs false
theorem BF {s:ByteArray} (h:s.size=0):s.toList=[]:=by
 have:s=⟨#[]⟩:=ByteArray.ext (by have:s.data.size=0:=h;exact Array.eq_empty_of_size_eq_zero this)
 rw [this]
 decide +kernel
theorem MO {w:World} {b c:Nat} {x0 x1 x2 x3 x4 x5 y0 y1 y2 y3:Value} {t1 t2:TypeId} (h:Blk w b #[x0,x1,x2,x3,x4,x5] t1) (k:Blk w c #[y0,y1,y2,y3] t2):w.cell? ⟨b,0,none⟩=some x0∧w.cell? ⟨b,1,none⟩=some x1∧w.cell? ⟨b,2,none⟩=some x2∧w.cell? ⟨b,3,none⟩=some x3∧w.cell? ⟨b,4,none⟩=some x4∧w.cell? ⟨b,5,none⟩=some x5∧w.cell? ⟨c,0,none⟩=some y0∧w.cell? ⟨c,1,none⟩=some y1∧w.cell? ⟨c,2,none⟩=some y2∧w.cell? ⟨c,3,none⟩=some y3:=
 ⟨h.cell 0 _ rfl,h.cell 1 _ rfl,h.cell 2 _ rfl,h.cell 3 _ rfl,h.cell 4 _ rfl,h.cell 5 _ rfl,k.cell 0 _ rfl,k.cell 1 _ rfl,k.cell 2 _ rfl,k.cell 3 _ rfl⟩
set_option maxHeartbeats 3200000 in
theorem eG (s:Sta) (S:List Nat) (w:World) (hin:StaO S w s) (hS:InS S w) (h:InvS s.d) (k i n:Int) (x:ByteArray) (hx:x.size≤1000000) (hi:i64P i) (c:Int) (hc:(insE s.t i x≠0∧insE s.t i x≠6∧c=insE s.t i x)∨(insE s.t i x=6∧512<x.size∧c=6)∨(insE s.t i x=6∧¬ 512<x.size∧c=6)∨(insE s.t i x=0∧512<x.size∧c=6)∨(insE s.t i x=0∧x.size=0∧c=0)):Calls prog 45 #[s.v,(.agg #[.int .i64 k,.int .i64 i,.int .i64 n,.string x])] w (RetRD S w (s.d,c)):=by
 have ht:s.t.size≤4096:=h.z
 have ci:=fun W=>uN (s:=s.t) (x:=x) (i:=i) ht hx hi W
 rcases hc with ⟨h1,h2,hc⟩|⟨hE,h2,hc⟩|⟨hE,h2,hc⟩|⟨hE,h2,hc⟩|⟨hE,h2,hc⟩
 case' inl =>
  obtain ⟨E,hE⟩:∃ E,insE s.t i x=E:=⟨_,rfl⟩
  rw [hE] at h1 h2 hc
  have t1:(E == 0)=false:=beq_eq_false_iff_ne.2 h1
  have t2:(E == 6)=false:=beq_eq_false_iff_ne.2 h2
  rw [hE] at ci
  have CI:=hid ci
  have HC:=hid hc
  clear hc hE hi hx
 case' inr.inl =>
  have g1:(512:Int)<(x.size:Int):=by omega
  rw [hE] at ci
  have CI:=hid ci
  have HC:=hid hc
  clear hc hE hi hx
 case' inr.inr.inl =>
  have g1:¬ (512:Int)<(x.size:Int):=by omega
  rw [hE] at ci
  have CI:=hid ci
  have HC:=hid hc
  clear hc hE hi hx
 case' inr.inr.inr.inl =>
  have g1:(512:Int)<(x.size:Int):=by omega
  rw [hE] at ci
  have CI:=hid ci
  have HC:=hid hc
  clear hc hE hi hx
 case' inr.inr.inr.inr =>
  have g1:¬ (512:Int)<(x.size:Int):=by omega
  have x1:x.toList=[]:=BF h2
  have x2:(x.toList == [])=true:=by simp [x1]
  rw [hE] at ci
  have CI:=hid ci
  have HC:=hid hc
  clear hc hE hi hx
 all_goals
  clear h ht ci
  obtain ⟨wX,hwX,kA,kB,kC,rU,inT,bj,hz⟩:=box26 hin hS #[.int .i64 k,.int .i64 i,.int .i64 n,.string x]
  have aa:=hid (kA)
  have ab:=hid (kB)
  have ac:=hid (kC)
  have bk:=hid (rU)
  have ad:=hid (bj)
  have bl:=hid (Nat.le_refl wX.heap.size)
  have INT:=hid inT;have HS:=hid hS
  obtain ⟨ae,af,ag,ah,ai,aj,ak,al,am,an,ao,aq⟩:=aa.out.all6
  obtain ⟨ar,au,av,aw,ax,ay,az,a0⟩:=ab.out.all4
  obtain ⟨a1,a2,a3,a4,a5,a6,a7,a8,a9,ba,bb,bc⟩:=ac.out.all6
  clear kA kB kC rU bj inT hin hS hz
  skip
  go_enter func45,ntmps45
  go_wp2_with fail
  refine (CI.out _).mono ?_;rintro e w1 ⟨rfl,hb⟩
  clear ae af ag ah ai aj ak al am an ao aq ar au av aw ax ay az a0 a1 a2 a3 a4 a5 a6 a7 a8 a9 ba bb bc
  have bm:=hid (aa.out.onto hb)
  have bn:=hid (ab.out.onto hb)
  have bo:=hid (ac.out.onto hb)
  have bp:=hid (bk.out.later hb)
  have bq:=hid (ad.out.trans (hb.mono ad.out.size))
  have cn:=hid (Nat.le_trans bl.out hb.size)
  clear hb CI aa ab ac bk ad bl
  obtain ⟨br,bs,bu,bv,bw,bx,bz,b3,b4,b5,b6,b7⟩:=bm.out.all6
  obtain ⟨b8,b9,ca,cb,cc,cd,ce,cf⟩:=bn.out.all4
  obtain ⟨bd,be,bf,bg,bh,bi,cg,ch,cj,ck,cl,cm⟩:=bo.out.all6
  clear hwX
  go_wp2
  refine bodyPost_ret (v:=.tuple #[s.v,.int .i64 c]) (by rw [HC.out];simp [results,results45,go_sem,bd,be,bf,bg,bh,bi]) rfl ?_
  exact ⟨s,rfl,rfl,fin26 bq.out bp.out⟩
set_option maxHeartbeats 3200000 in
theorem yL (s:Sta) (S:List Nat) (w:World) (hin:StaO S w s) (hS:InS S w) (h:InvS s.d) (k i n:Int) (x:ByteArray) (hx:x.size≤1000000) (hi:i64P i) (hE:insE s.t i x=0) (h1:1≤x.size) (h2:x.size≤512):Calls prog 45 #[s.v,(.agg #[.int .i64 k,.int .i64 i,.int .i64 n,.string x])] w (RetRD S w (editD s.d ⟨i,⟨#[]⟩,x⟩)):=by
 have ht:s.t.size≤4096:=h.z
 have g1:¬ (512:Int)<(x.size:Int):=by omega
 obtain ⟨wX,hwX,kA,kB,kC,rU,inT,ct,hz⟩:=box26 hin hS #[.int .i64 k,.int .i64 i,.int .i64 n,.string x]
 have aa:=hid (kA)
 have ab:=hid (kB)
 have ac:=hid (kC)
 have cu:=hid (rU)
 have ad:=hid (ct)
 have cv:=hid (Nat.le_refl wX.heap.size)
 have INT:=hid inT;have HS:=hid hS
 obtain ⟨ak,al,am,an,ao,aq,ar,au,av,aw,ax,ay⟩:=aa.out.all6
 obtain ⟨az,a0,a1,a2,a3,a4,a5,a6⟩:=ab.out.all4
 obtain ⟨a7,a8,a9,ba,bb,bc,bd,be,bf,bg,bh,bi⟩:=ac.out.all6
 clear kA kB kC rU ct inT hin hS hz
 have ci:=fun W=>uN (s:=s.t) (x:=x) (i:=i) ht hx hi W
 rw [hE] at ci
 have cp:=fun W (hU:StaO (w.heap.size::(w.heap.size+1)::(w.heap.size+1+1)::S) W s) (hI:InS (w.heap.size::(w.heap.size+1)::(w.heap.size+1+1)::S) W)=>nJ s i ⟨#[]⟩ x (w.heap.size::(w.heap.size+1)::(w.heap.size+1+1)::S) W hU hI (by omega) (Nat.zero_le _) (by omega) (Nat.le_trans h.ml (by decide)) (by have:=(qS hE).1;have:=aY.1 this;omega) h.marks (by have h2:(lsP s.u.l).length≤16:=h.ul.1;rw [aC] at h2;omega)
 obtain ⟨R,hR⟩:∃ R,editD s.d ⟨i,⟨#[]⟩,x⟩=R:=⟨_,rfl⟩
 rw [hR] at cp ⊢
 obtain ⟨Rs,Re⟩:=R
 have CP:=hid cp
 clear cp hR
 have x1:¬ x.toList=[]:=iI (by omega)
 have x2:(x.toList == [])=false:=by simpa using x1
 have CI:=hid ci
 clear ci h ht hi hx hE
 go_enter func45,ntmps45
 go_wp2_with fail
 refine (CI.out _).mono ?_;rintro e w1 ⟨rfl,hb⟩
 clear ak al am an ao aq ar au av aw ax ay az a0 a1 a2 a3 a4 a5 a6 a7 a8 a9 ba bb bc bd be bf bg bh bi
 have ae:=hid (aa.out.onto hb)
 have af:=hid (ab.out.onto hb)
 have ag:=hid (ac.out.onto hb)
 have ah:=hid (cu.out.later hb)
 have ai:=hid (ad.out.trans (hb.mono ad.out.size))
 have aj:=hid (Nat.le_trans cv.out hb.size)
 clear hb CI aa ab ac cu ad cv
 obtain ⟨bj,bk,bl,bm,bn,bo,bp,bq,br,bs,bu,bv⟩:=ae.out.all6
 obtain ⟨bw,bx,bz,b3,b4,b5,b6,b7⟩:=af.out.all4
 obtain ⟨b8,b9,ca,cb,cc,cd,ce,cf,cg,ch,cj,ck⟩:=ag.out.all6
 clear hwX
 go_wp2_with fail
 refine (CP.out _ ah.out (fun i hi=>Nat.lt_of_lt_of_le (INT.out i hi) aj.out)).mono ?_;rintro e w2 ⟨s2,rfl,cw,cx,hb⟩
 clear bj bk bl bm bn bo bp bq br bs bu bv bw bx bz b3 b4 b5 b6 b7 b8 b9 ca cb cc cd ce cf cg ch cj ck
 have cy:=hid (ae.out.onto hb)
 have cz:=hid (af.out.onto hb)
 have c3:=hid (ag.out.onto hb)
 have dy:=hid (ah.out.later hb)
 have c4:=hid (ai.out.trans (hb.mono ai.out.size))
 have dz:=hid (Nat.le_trans aj.out hb.size)
 have c5:=hid cw
 clear cw
 have c6:=hid (cx)
 clear hb cx CP ae af ag ah ai aj
 obtain ⟨c7,c8,c9,da,db,dc,dd,de,df,dg,dh,di⟩:=cy.out.all6
 obtain ⟨dj,dk,dl,dm,dn,dp,dq,dr⟩:=cz.out.all4
 obtain ⟨cl,cm,cn,co,cq,cr,ds,dt,du,dv,dw,dx⟩:=c3.out.all6
 go_wp2
 refine bodyPost_ret (v:=.tuple #[s2.v,.int .i64 Re]) (by simp [results,results45,go_sem,cl,cm,cn,co,cq,cr]) rfl ?_
 exact ⟨s2,rfl,c5.out,fin26 c4.out c6.out⟩
set_option maxHeartbeats 3200000 in
theorem jK (s:Sta) (S:List Nat) (w:World) (hin:StaO S w s) (hS:InS S w) (h:InvS s.d) (k i n:Int) (x:ByteArray) (hi:i64P i) (c:Int) (hc:(delE s.t i n≠0∧c=delE s.t i n)∨(delE s.t i n=0∧512<n∧c=6)∨(delE s.t i n=0∧n=0∧c=0)):Calls prog 46 #[s.v,(.agg #[.int .i64 k,.int .i64 i,.int .i64 n,.string x])] w (RetRD S w (s.d,c)):=by
 have ht:s.t.size≤4096:=h.z
 have ci:=fun W=>tQ (s:=s.t) (n:=n) (i:=i) ht hi W
 rcases hc with ⟨h1,hc⟩|⟨hE,h2,hc⟩|⟨hE,h2,hc⟩
 case' inl =>
  obtain ⟨E,hE⟩:∃ E,delE s.t i n=E:=⟨_,rfl⟩
  rw [hE] at h1 hc
  have t1:(E == 0)=false:=beq_eq_false_iff_ne.2 h1
  rw [hE] at ci
  have CI:=hid ci
  have HC:=hid hc
  clear hc hE hi
 case' inr.inl =>
  rw [hE] at ci
  have CI:=hid ci
  have HC:=hid hc
  clear hc hE hi
 case' inr.inr =>
  rw [hE] at ci
  have CI:=hid ci
  have g1:¬ 512<n:=by omega
  have g2:(n == 0)=true:=by rw [h2];rfl
  have HC:=hid hc
  clear hc hE hi h2
 all_goals
  clear h ht ci
  obtain ⟨wX,hwX,kA,kB,kC,rU,inT,bj,hz⟩:=box26 hin hS #[.int .i64 k,.int .i64 i,.int .i64 n,.string x]
  have aa:=hid (kA)
  have ab:=hid (kB)
  have ac:=hid (kC)
  have bk:=hid (rU)
  have ad:=hid (bj)
  have bl:=hid (Nat.le_refl wX.heap.size)
  have INT:=hid inT;have HS:=hid hS
  obtain ⟨ae,af,ag,ah,ai,aj,ak,al,am,an,ao,aq⟩:=aa.out.all6
  obtain ⟨ar,au,av,aw,ax,ay,az,a0⟩:=ab.out.all4
  obtain ⟨a1,a2,a3,a4,a5,a6,a7,a8,a9,ba,bb,bc⟩:=ac.out.all6
  clear kA kB kC rU bj inT hin hS hz
  skip
  go_enter func46,ntmps46
  go_wp2_with fail
  refine (CI.out _).mono ?_;rintro e w1 ⟨rfl,hb⟩
  clear ae af ag ah ai aj ak al am an ao aq ar au av aw ax ay az a0 a1 a2 a3 a4 a5 a6 a7 a8 a9 ba bb bc
  have bm:=hid (aa.out.onto hb)
  have bn:=hid (ab.out.onto hb)
  have bo:=hid (ac.out.onto hb)
  have bp:=hid (bk.out.later hb)
  have bq:=hid (ad.out.trans (hb.mono ad.out.size))
  have cn:=hid (Nat.le_trans bl.out hb.size)
  clear hb CI aa ab ac bk ad bl
  obtain ⟨br,bs,bu,bv,bw,bx,bz,b3,b4,b5,b6,b7⟩:=bm.out.all6
  obtain ⟨b8,b9,ca,cb,cc,cd,ce,cf⟩:=bn.out.all4
  obtain ⟨bd,be,bf,bg,bh,bi,cg,ch,cj,ck,cl,cm⟩:=bo.out.all6
  clear hwX
  go_wp2
  refine bodyPost_ret (v:=.tuple #[s.v,.int .i64 c]) (by rw [HC.out];simp [results,results46,go_sem,bd,be,bf,bg,bh,bi]) rfl ?_
  exact ⟨s,rfl,rfl,fin26 bq.out bp.out⟩
set_option maxHeartbeats 3200000 in
theorem yI (s:Sta) (S:List Nat) (w:World) (hin:StaO S w s) (hS:InS S w) (h:InvS s.d) (k:Int) (i' n':Nat) (x:ByteArray) (hi:i64P (i':Int)) (hE:delE s.t i' n'=0) (hle:i'+n'≤s.t.size) (hn1:1≤n') (hn2:n'≤512):Calls prog 46 #[s.v,(.agg #[.int .i64 k,.int .i64 (i':Int),.int .i64 (n':Int),.string x])] w (RetRD S w (editD s.d ⟨i',s.t.extract i' (i'+n'),⟨#[]⟩⟩)):=by
 have ht:s.t.size≤4096:=h.z
 obtain ⟨wX,hwX,kA,kB,kC,rU,inT,cw,hz⟩:=box26 hin hS #[.int .i64 k,.int .i64 (i':Int),.int .i64 (n':Int),.string x]
 have ae:=hid (kA)
 have af:=hid (kB)
 have ag:=hid (kC)
 have cx:=hid (rU)
 have ah:=hid (cw)
 have cy:=hid (Nat.le_refl wX.heap.size)
 have INT:=hid inT;have HS:=hid hS
 obtain ⟨an,ao,aq,ar,au,av,aw,ax,ay,az,a0,a1⟩:=ae.out.all6
 obtain ⟨a2,a3,a4,a5,a6,a7,a8,a9⟩:=af.out.all4
 obtain ⟨ba,bb,bc,bd,be,bf,bg,bh,bi,bj,bk,bl⟩:=ag.out.all6
 clear kA kB kC rU cw inT hin hS hz
 have ci:=fun W=>tQ (s:=s.t) (n:=(n':Int)) (i:=(i':Int)) ht hi W
 rw [hE] at ci
 have cp:=fun W (hU:StaO (w.heap.size::(w.heap.size+1)::(w.heap.size+1+1)::S) W s) (hI:InS (w.heap.size::(w.heap.size+1)::(w.heap.size+1+1)::S) W)=>nJ s i' (s.t.extract i' (i'+n')) ⟨#[]⟩ (w.heap.size::(w.heap.size+1)::(w.heap.size+1+1)::S) W hU hI (by omega) (by rw [ByteArray.size_extract];omega) (Nat.zero_le _) (Nat.le_trans h.ml (by decide)) (by omega) h.marks (by have h2:(lsP s.u.l).length≤16:=h.ul.1;rw [aC] at h2;omega)
 obtain ⟨R,hR⟩:∃ R,editD s.d ⟨i',s.t.extract i' (i'+n'),⟨#[]⟩⟩=R:=⟨_,rfl⟩
 rw [hR] at cp ⊢
 obtain ⟨Rs,Re⟩:=R
 have CP:=hid cp
 clear cp hR
 have q1:(0:Int)≤(i':Int)+(n':Int):=by omega
 have q2:(i':Int)+(n':Int)≤(s.t.size:Int):=by omega
 have q3:((i':Int)+(n':Int)).toNat=i'+n':=by omega
 have q4:(i':Int)≤(i':Int)+(n':Int):=by omega
 have q5:IntKind.i64.wrap ((i':Int)+(n':Int))=(i':Int)+(n':Int):=IntWalk.i64_in _ (by omega)
 have q6:(0:Int)≤(i':Int):=by omega
 have q7:¬ (512:Int)<(n':Int):=by omega
 have q8:¬ (n':Int)=0:=by omega
 have q9:((n':Int) == 0)=false:=beq_eq_false_iff_ne.2 q8
 have q10:decide ((512:Int)<(n':Int))=false:=decide_eq_false q7
 have CI:=hid ci
 clear ci h ht hi hE hle hn1 hn2
 go_enter func46,ntmps46
 go_wp2_with fail
 refine (CI.out _).mono ?_;rintro e w1 ⟨rfl,hb⟩
 clear an ao aq ar au av aw ax ay az a0 a1 a2 a3 a4 a5 a6 a7 a8 a9 ba bb bc bd be bf bg bh bi bj bk bl
 have aa:=hid (ae.out.onto hb)
 have ab:=hid (af.out.onto hb)
 have ai:=hid (ag.out.onto hb)
 have aj:=hid (cx.out.later hb)
 have ak:=hid (ah.out.trans (hb.mono ah.out.size))
 have al:=hid (Nat.le_trans cy.out hb.size)
 clear hb CI ae af ag cx ah cy
 obtain ⟨bm,bn,bo,bp,bq,br,bs,bu,bv,bw,bx,bz⟩:=aa.out.all6
 obtain ⟨b3,b4,b5,b6,b7,b8,b9,ca⟩:=ab.out.all4
 obtain ⟨cb,cc,cd,ce,cf,cg,ch,cj,ck,cl,cm,cn⟩:=ai.out.all6
 clear hwX
 go_wp2_with fail
 clear bm bn bo bp bq br bs bu bv bw bx bz b3 b4 b5 b6 b7 b8 b9 ca cb cc cd ce cf cg ch cj ck cl cm cn
 refine wp_region_held_drew (S:=(fun W:World=>W.cell? ⟨w.heap.size,0,none⟩=some (.string s.t)∧W.cell? ⟨w.heap.size,1,none⟩=some (.slice s.m.a s.m.l.length s.m.c)∧W.cell? ⟨w.heap.size,2,none⟩=some (.slice s.u.a s.u.l.length s.u.c)∧W.cell? ⟨w.heap.size,3,none⟩=some (.slice s.r.a s.r.l.length s.r.c)∧W.cell? ⟨w.heap.size,4,none⟩=some (.bool s.o)∧W.cell? ⟨w.heap.size,5,none⟩=some (.slice s.g.a s.g.l.length s.g.c)∧W.cell? ⟨w.heap.size+1,0,none⟩=some (.int .i64 k)∧W.cell? ⟨w.heap.size+1,1,none⟩=some (.int .i64 (i':Int))∧W.cell? ⟨w.heap.size+1,2,none⟩=some (.int .i64 (n':Int))∧W.cell? ⟨w.heap.size+1,3,none⟩=some (.string x))) (by kernel_rfl) ⟨(aa.out.drewN 1).cell 0 _ rfl,(aa.out.drewN 1).cell 1 _ rfl,(aa.out.drewN 1).cell 2 _ rfl,(aa.out.drewN 1).cell 3 _ rfl,(aa.out.drewN 1).cell 4 _ rfl,(aa.out.drewN 1).cell 5 _ rfl,(ab.out.drewN 1).cell 0 _ rfl,(ab.out.drewN 1).cell 1 _ rfl,(ab.out.drewN 1).cell 2 _ rfl,(ab.out.drewN 1).cell 3 _ rfl⟩ (fun hHeld=>?_)
 refine sqt 0 ?_
 refine sqt 1 ?_
 refine sqt 2 ?_
 refine sqt 3 ?_
 refine sqt 4 ?_
 refine sqt 5 ?_
 refine sqt 6 ?_
 refine sqt 7 ?_
 refine sqt 8 ?_
 refine sqt 9 ?_
 refine sqt 10 ?_
 refine sqt 11 ?_
 refine sqt 12 ?_
 refine sqt 13 ?_
 refine sqr 14 fun K hK=>?_
 go_simp
 (go_at_call 71;refine (CP.out _ (aj.out.later (Below.refl _ _).drew) (fun i hi=>Nat.lt_of_lt_of_le (INT.out i hi) al.out)).mono ?_;rintro e w2 ⟨s2,rfl,cz,c3,hb⟩;have hb':Below w1.heap.size w1 w2:=(Below.refl _ _).drew.trans hb)
 try go_wp2_with fail
 refine hK.out _ _ ?_ (fun hHeld=>?_)
 ·exact ⟨(aa.out.onto hb').cell 0 _ rfl,(aa.out.onto hb').cell 1 _ rfl,(aa.out.onto hb').cell 2 _ rfl,(aa.out.onto hb').cell 3 _ rfl,(aa.out.onto hb').cell 4 _ rfl,(aa.out.onto hb').cell 5 _ rfl,(ab.out.onto hb').cell 0 _ rfl,(ab.out.onto hb').cell 1 _ rfl,(ab.out.onto hb').cell 2 _ rfl,(ab.out.onto hb').cell 3 _ rfl⟩
 clear hK K
 try simp only [Act.put,sqp]
 have ac:=hid (aa.out.onto hb')
 have ad:=hid (ab.out.onto hb')
 have am:=hid (ai.out.onto hb')
 have c4:=hid (aj.out.later hb')
 have c5:=hid (ak.out.trans (hb'.mono ak.out.size))
 have c6:=hid (Nat.le_trans al.out hb'.size)
 have c9:=hid cz;have c7:=hid c3
 clear cz c3 hb hb' CP aa ab ai aj ak al
 refine sqt 15 ?_
 refine sqt 16 ?_
 obtain ⟨df,dg,dh,di,dj,dk,dl,dm,dn,dp,dq,dr⟩:=ac.out.all6
 obtain ⟨ds,dt,du,dv,dw,dx,dy,dz⟩:=ad.out.all4
 obtain ⟨d0,d1,d2,d3,d4,d5,d6,d7,d8,d9,ea,eb⟩:=am.out.all6
 refine sqr 17 fun K hK=>?_
 go_simp
 skip
 try go_wp2_with fail
 refine hK.out _ _ ?_ (fun hHeld=>?_)
 ·exact MO ((((((ac.out.other ⟨w.heap.size+1+1,0,none⟩ (by show w.heap.size+1+1≠w.heap.size;omega) _).other ⟨w.heap.size+1+1,1,none⟩ (by show w.heap.size+1+1≠w.heap.size;omega) _).other ⟨w.heap.size+1+1,2,none⟩ (by show w.heap.size+1+1≠w.heap.size;omega) _).other ⟨w.heap.size+1+1,3,none⟩ (by show w.heap.size+1+1≠w.heap.size;omega) _).other ⟨w.heap.size+1+1,4,none⟩ (by show w.heap.size+1+1≠w.heap.size;omega) _).other ⟨w.heap.size+1+1,5,none⟩ (by show w.heap.size+1+1≠w.heap.size;omega) _) ((((((ad.out.other ⟨w.heap.size+1+1,0,none⟩ (by show w.heap.size+1+1≠w.heap.size+1;omega) _).other ⟨w.heap.size+1+1,1,none⟩ (by show w.heap.size+1+1≠w.heap.size+1;omega) _).other ⟨w.heap.size+1+1,2,none⟩ (by show w.heap.size+1+1≠w.heap.size+1;omega) _).other ⟨w.heap.size+1+1,3,none⟩ (by show w.heap.size+1+1≠w.heap.size+1;omega) _).other ⟨w.heap.size+1+1,4,none⟩ (by show w.heap.size+1+1≠w.heap.size+1;omega) _).other ⟨w.heap.size+1+1,5,none⟩ (by show w.heap.size+1+1≠w.heap.size+1;omega) _)
 clear hK K
 try simp only [Act.put,sqp]
 refine sqt 18 ?_
 refine wpAnyH_done (by kernel_rfl) ?_ _
 have kC:Blk ((((((w2.setCell ⟨w.heap.size+1+1,0,none⟩ (.string s2.t)).setCell ⟨w.heap.size+1+1,1,none⟩ (.slice s2.m.a s2.m.l.length s2.m.c)).setCell ⟨w.heap.size+1+1,2,none⟩ (.slice s2.u.a s2.u.l.length s2.u.c)).setCell ⟨w.heap.size+1+1,3,none⟩ (.slice s2.r.a s2.r.l.length s2.r.c)).setCell ⟨w.heap.size+1+1,4,none⟩ (.bool s2.o)).setCell ⟨w.heap.size+1+1,5,none⟩ (.slice s2.g.a s2.g.l.length s2.g.c)) (w.heap.size+1+1) #[.string s2.t,.slice s2.m.a s2.m.l.length s2.m.c,.slice s2.u.a s2.u.l.length s2.u.c,.slice s2.r.a s2.r.l.length s2.r.c,.bool s2.o,.slice s2.g.a s2.g.l.length s2.g.c] 26:=((((((am.out.set 0 _).set 1 _).set 2 _).set 3 _).set 4 _).set 5 _)
 have kA:Blk ((((((w2.setCell ⟨w.heap.size+1+1,0,none⟩ (.string s2.t)).setCell ⟨w.heap.size+1+1,1,none⟩ (.slice s2.m.a s2.m.l.length s2.m.c)).setCell ⟨w.heap.size+1+1,2,none⟩ (.slice s2.u.a s2.u.l.length s2.u.c)).setCell ⟨w.heap.size+1+1,3,none⟩ (.slice s2.r.a s2.r.l.length s2.r.c)).setCell ⟨w.heap.size+1+1,4,none⟩ (.bool s2.o)).setCell ⟨w.heap.size+1+1,5,none⟩ (.slice s2.g.a s2.g.l.length s2.g.c)) (w.heap.size) #[.string s.t,.slice s.m.a s.m.l.length s.m.c,.slice s.u.a s.u.l.length s.u.c,.slice s.r.a s.r.l.length s.r.c,.bool s.o,.slice s.g.a s.g.l.length s.g.c] 26:=((((((ac.out.other ⟨w.heap.size+1+1,0,none⟩ (by show w.heap.size+1+1≠w.heap.size;omega) _).other ⟨w.heap.size+1+1,1,none⟩ (by show w.heap.size+1+1≠w.heap.size;omega) _).other ⟨w.heap.size+1+1,2,none⟩ (by show w.heap.size+1+1≠w.heap.size;omega) _).other ⟨w.heap.size+1+1,3,none⟩ (by show w.heap.size+1+1≠w.heap.size;omega) _).other ⟨w.heap.size+1+1,4,none⟩ (by show w.heap.size+1+1≠w.heap.size;omega) _).other ⟨w.heap.size+1+1,5,none⟩ (by show w.heap.size+1+1≠w.heap.size;omega) _)
 have kB:Blk ((((((w2.setCell ⟨w.heap.size+1+1,0,none⟩ (.string s2.t)).setCell ⟨w.heap.size+1+1,1,none⟩ (.slice s2.m.a s2.m.l.length s2.m.c)).setCell ⟨w.heap.size+1+1,2,none⟩ (.slice s2.u.a s2.u.l.length s2.u.c)).setCell ⟨w.heap.size+1+1,3,none⟩ (.slice s2.r.a s2.r.l.length s2.r.c)).setCell ⟨w.heap.size+1+1,4,none⟩ (.bool s2.o)).setCell ⟨w.heap.size+1+1,5,none⟩ (.slice s2.g.a s2.g.l.length s2.g.c)) (w.heap.size+1) #[.int .i64 k,.int .i64 (i':Int),.int .i64 (n':Int),.string x] 50:=((((((ad.out.other ⟨w.heap.size+1+1,0,none⟩ (by show w.heap.size+1+1≠w.heap.size+1;omega) _).other ⟨w.heap.size+1+1,1,none⟩ (by show w.heap.size+1+1≠w.heap.size+1;omega) _).other ⟨w.heap.size+1+1,2,none⟩ (by show w.heap.size+1+1≠w.heap.size+1;omega) _).other ⟨w.heap.size+1+1,3,none⟩ (by show w.heap.size+1+1≠w.heap.size+1;omega) _).other ⟨w.heap.size+1+1,4,none⟩ (by show w.heap.size+1+1≠w.heap.size+1;omega) _).other ⟨w.heap.size+1+1,5,none⟩ (by show w.heap.size+1+1≠w.heap.size+1;omega) _)
 have ap:Apart (w.heap.size::(w.heap.size+1)::(w.heap.size+1+1)::S) w2 ((((((w2.setCell ⟨w.heap.size+1+1,0,none⟩ (.string s2.t)).setCell ⟨w.heap.size+1+1,1,none⟩ (.slice s2.m.a s2.m.l.length s2.m.c)).setCell ⟨w.heap.size+1+1,2,none⟩ (.slice s2.u.a s2.u.l.length s2.u.c)).setCell ⟨w.heap.size+1+1,3,none⟩ (.slice s2.r.a s2.r.l.length s2.r.c)).setCell ⟨w.heap.size+1+1,4,none⟩ (.bool s2.o)).setCell ⟨w.heap.size+1+1,5,none⟩ (.slice s2.g.a s2.g.l.length s2.g.c)):=((((((Apart.refl (w.heap.size::(w.heap.size+1)::(w.heap.size+1+1)::S) w2).setCell (p:=⟨w.heap.size+1+1,0,none⟩) (.inl (by simp)) _).setCell (p:=⟨w.heap.size+1+1,1,none⟩) (.inl (by simp)) _).setCell (p:=⟨w.heap.size+1+1,2,none⟩) (.inl (by simp)) _).setCell (p:=⟨w.heap.size+1+1,3,none⟩) (.inl (by simp)) _).setCell (p:=⟨w.heap.size+1+1,4,none⟩) (.inl (by simp)) _).setCell (p:=⟨w.heap.size+1+1,5,none⟩) (.inl (by simp)) _
 have rU:=c4.out.apart ap
 have rV:=c7.out.apart ap
 have hB:=(((((((c5.out.setCell (p:=⟨w.heap.size+1+1,0,none⟩) (by show w.heap.size≤w.heap.size+1+1;omega) _).setCell (p:=⟨w.heap.size+1+1,1,none⟩) (by show w.heap.size≤w.heap.size+1+1;omega) _).setCell (p:=⟨w.heap.size+1+1,2,none⟩) (by show w.heap.size≤w.heap.size+1+1;omega) _).setCell (p:=⟨w.heap.size+1+1,3,none⟩) (by show w.heap.size≤w.heap.size+1+1;omega) _).setCell (p:=⟨w.heap.size+1+1,4,none⟩) (by show w.heap.size≤w.heap.size+1+1;omega) _).setCell (p:=⟨w.heap.size+1+1,5,none⟩) (by show w.heap.size≤w.heap.size+1+1;omega) _):Below w.heap.size w ((((((w2.setCell ⟨w.heap.size+1+1,0,none⟩ (.string s2.t)).setCell ⟨w.heap.size+1+1,1,none⟩ (.slice s2.m.a s2.m.l.length s2.m.c)).setCell ⟨w.heap.size+1+1,2,none⟩ (.slice s2.u.a s2.u.l.length s2.u.c)).setCell ⟨w.heap.size+1+1,3,none⟩ (.slice s2.r.a s2.r.l.length s2.r.c)).setCell ⟨w.heap.size+1+1,4,none⟩ (.bool s2.o)).setCell ⟨w.heap.size+1+1,5,none⟩ (.slice s2.g.a s2.g.l.length s2.g.c)))
 have hz:((((((w2.setCell ⟨w.heap.size+1+1,0,none⟩ (.string s2.t)).setCell ⟨w.heap.size+1+1,1,none⟩ (.slice s2.m.a s2.m.l.length s2.m.c)).setCell ⟨w.heap.size+1+1,2,none⟩ (.slice s2.u.a s2.u.l.length s2.u.c)).setCell ⟨w.heap.size+1+1,3,none⟩ (.slice s2.r.a s2.r.l.length s2.r.c)).setCell ⟨w.heap.size+1+1,4,none⟩ (.bool s2.o)).setCell ⟨w.heap.size+1+1,5,none⟩ (.slice s2.g.a s2.g.l.length s2.g.c)).heap.size=w2.heap.size:=by simp
 obtain ⟨v3,c8⟩:∃ V,((((((w2.setCell ⟨w.heap.size+1+1,0,none⟩ (.string s2.t)).setCell ⟨w.heap.size+1+1,1,none⟩ (.slice s2.m.a s2.m.l.length s2.m.c)).setCell ⟨w.heap.size+1+1,2,none⟩ (.slice s2.u.a s2.u.l.length s2.u.c)).setCell ⟨w.heap.size+1+1,3,none⟩ (.slice s2.r.a s2.r.l.length s2.r.c)).setCell ⟨w.heap.size+1+1,4,none⟩ (.bool s2.o)).setCell ⟨w.heap.size+1+1,5,none⟩ (.slice s2.g.a s2.g.l.length s2.g.c))=V:=⟨_,rfl⟩
 rw [c8] at kA kB kC rU rV hB hz
 rw [c8]
 have da:=hid kA
 have db:=hid kB
 have dc:=hid kC
 have e6:=hid rU
 have dd:=hid rV
 have de:=hid hB
 have e7:=hid (Nat.le_trans c6.out (Nat.le_of_eq hz.symm))
 clear kA kB kC rU rV hB hz ap ac ad am c4 c7 c5 c6
 obtain ⟨ec,ed,ee,ef,eg,eh,ei,ej,ek,el,em,en⟩:=da.out.all6
 obtain ⟨eo,ep,eq,er,es,et,eu,ev⟩:=db.out.all4
 obtain ⟨co,cq,cr,ct,cu,cv,ew,ey,e0,e3,e4,e5⟩:=dc.out.all6
 go_wp2
 refine bodyPost_ret (v:=.tuple #[s2.v,.int .i64 Re]) (by simp [results,results46,go_sem,co,cq,cr,ct,cu,cv]) rfl ?_
 exact ⟨s2,rfl,c9.out,dd.out.wide (fun i hi=>.inl (by simp [hi])),de.out⟩
set_option maxHeartbeats 3200000 in
theorem lY (s:Sta) (S:List Nat) (w:World) (hin:StaO S w s) (hS:InS S w) (h:InvS s.d) (k i n:Int) (x:ByteArray) (hx:x.size≤maxLen) (c:Int) (hc:(markB x.data.toList=false∧c=7)∨(markB x.data.toList=true∧i<0∧c=3)∨(markB x.data.toList=true∧(s.t.size:Int)<i∧c=3)):Calls prog 47 #[s.v,(.agg #[.int .i64 k,.int .i64 i,.int .i64 n,.string x])] w (RetRD S w (s.d,c)):=by
 have ht:s.t.size≤4096:=h.z
 have cm:=fun W=>bK x hx W
 rcases hc with ⟨h1,hc⟩|⟨h1,h2,hc⟩|⟨h1,h2,hc⟩
 case' inl =>
  rw [h1] at cm
  have CM:=hid cm
  have HC:=hid hc
  clear hc cm h1 hx
 case' inr.inl =>
  have d2:decide (i<0)=true:=decide_eq_true h2
  rw [h1] at cm
  have CM:=hid cm
  have HC:=hid hc
  clear hc cm h1 hx
 case' inr.inr =>
  have g2:¬ i<0:=by omega
  have d2:decide (i<0)=false:=decide_eq_false g2
  rw [h1] at cm
  have CM:=hid cm
  have HC:=hid hc
  clear hc cm h1 hx
 all_goals
  clear h ht
  obtain ⟨wX,hwX,kA,kB,kC,rU,inT,ag,hz⟩:=box26 hin hS #[.int .i64 k,.int .i64 i,.int .i64 n,.string x]
  have ah:=hid (kA)
  have ai:=hid (kB)
  have aj:=hid (kC)
  have ak:=hid (rU)
  have al:=hid (ag)
  have bf:=hid (Nat.le_refl wX.heap.size)
  have INT:=hid inT;have HS:=hid hS
  obtain ⟨am,an,ao,aq,ar,au,av,aw,ax,ay,az,a0⟩:=ah.out.all6
  obtain ⟨a1,a2,a3,a4,a5,a6,a7,a8⟩:=ai.out.all4
  obtain ⟨aa,ab,ac,ad,ae,af,a9,ba,bb,bc,bd,be⟩:=aj.out.all6
  clear kA kB kC rU ag inT hin hS hz
  skip
  go_enter func47,ntmps47
  go_wp2_with fail
  refine (CM.out _).mono ?_;rintro e w1 ⟨rfl,rfl⟩
  go_wp2
  refine bodyPost_ret (v:=.tuple #[s.v,.int .i64 c]) (by rw [HC.out];simp [results,results47,go_sem,aa,ab,ac,ad,ae,af]) rfl ?_
  exact ⟨s,rfl,rfl,fin26 al.out ak.out⟩
set_option maxHeartbeats 1600000 in
theorem xP (s:Sta) (S:List Nat) (w:World) (hin:StaO S w s) (hS:InS S w) (h:InvS s.d) (k i n:Int) (x:ByteArray) (hx:x.size≤maxLen) (h1:markB x.data.toList=true) (h2:0≤i∧i≤s.t.size) (h4:edgeB s.t.data.toList i=false):Calls prog 47 #[s.v,(.agg #[.int .i64 k,.int .i64 i,.int .i64 n,.string x])] w (RetRD S w (s.d,4)):=by
 have ht:s.t.size≤4096:=h.z
 obtain ⟨wX,hwX,kA,kB,kC,rU,inT,ag,hz⟩:=box26 hin hS #[.int .i64 k,.int .i64 i,.int .i64 n,.string x]
 have ah:=hid (kA)
 have ai:=hid (kB)
 have aj:=hid (kC)
 have ak:=hid (rU)
 have al:=hid (ag)
 have bf:=hid (Nat.le_refl wX.heap.size)
 have INT:=hid inT;have HS:=hid hS
 obtain ⟨am,an,ao,aq,ar,au,av,aw,ax,ay,az,a0⟩:=ah.out.all6
 obtain ⟨a1,a2,a3,a4,a5,a6,a7,a8⟩:=ai.out.all4
 obtain ⟨aa,ab,ac,ad,ae,af,a9,ba,bb,bc,bd,be⟩:=aj.out.all6
 clear kA kB kC rU ag inT hin hS hz
 have cm:=fun W=>bK x hx W
 rw [h1] at cm
 have ce:=fun W=>bQ s.t (by unfold maxLen;omega) i W
 rw [h4] at ce
 have CE:=hid ce
 clear ce h4
 have g2:¬ i<0:=by omega
 have d2:decide (i<0)=false:=decide_eq_false g2
 have g3:¬ (s.t.size:Int)<i:=by omega
 have CM:=hid cm
 clear cm h ht h1 hx
 go_enter func47,ntmps47
 go_wp2_with fail
 refine (CM.out _).mono ?_;rintro e w1 ⟨rfl,rfl⟩
 go_wp2_with fail
 refine (CE.out _).mono ?_;rintro e w1 ⟨rfl,rfl⟩
 go_wp2
 refine bodyPost_ret (v:=.tuple #[s.v,.int .i64 4]) (by simp [results,results47,go_sem,aa,ab,ac,ad,ae,af]) rfl ?_
 exact ⟨s,rfl,rfl,fin26 al.out ak.out⟩
set_option maxHeartbeats 1600000 in
theorem JB (s:Sta) (S:List Nat) (w:World) (hin:StaO S w s) (hS:InS S w) (h:InvS s.d) (k i n:Int) (x:ByteArray) (hx:x.size≤maxLen) (h1:markB x.data.toList=true) (h2:0≤i∧i≤s.t.size) (h4:edgeB s.t.data.toList i=true) (h5:(setM s.m.l ⟨x,i⟩).2≠0):Calls prog 47 #[s.v,(.agg #[.int .i64 k,.int .i64 i,.int .i64 n,.string x])] w (RetRD S w (s.d,(setM s.m.l ⟨x,i⟩).2)):=by
 have ht:s.t.size≤4096:=h.z
 obtain ⟨wX,hwX,kA,kB,kC,rU,inT,bl,hz⟩:=box26 hin hS #[.int .i64 k,.int .i64 i,.int .i64 n,.string x]
 have aa:=hid (kA)
 have ab:=hid (kB)
 have ac:=hid (kC)
 have ad:=hid (rU)
 have ae:=hid (bl)
 have af:=hid (Nat.le_refl wX.heap.size)
 have INT:=hid inT;have HS:=hid hS
 obtain ⟨ag,ah,ai,aj,ak,al,am,an,ao,aq,ar,au⟩:=aa.out.all6
 obtain ⟨av,aw,ax,ay,az,a0,a1,a2⟩:=ab.out.all4
 obtain ⟨a3,a4,a5,a6,a7,a8,a9,ba,bb,bc,bd,be⟩:=ac.out.all6
 clear kA kB kC rU bl inT hin hS hz
 have cm:=fun W=>bK x hx W
 rw [h1] at cm
 have ce:=fun W=>bQ s.t (by unfold maxLen;omega) i W
 rw [h4] at ce
 have CE:=hid ce
 clear ce h4
 have cs:=fun W (hW:StaO (w.heap.size::(w.heap.size+1)::(w.heap.size+1+1)::S) W s)=>nI s.m.a s.m.l s.m.c ⟨x,i⟩ (Off (w.heap.size::(w.heap.size+1)::(w.heap.size+1+1)::S) W) W hW.m.row (fun _ h=>h.1) (Nat.le_trans h.ml (by decide)) hx
 obtain ⟨q,hq⟩:∃ q,setM s.m.l ⟨x,i⟩=q:=⟨_,rfl⟩
 rw [hq] at cs h5 ⊢
 obtain ⟨ql,qe⟩:=q
 have CS:=hid cs
 have h5':qe≠0:=h5
 clear cs hq h5
 have h5e:(qe == 0)=false:=beq_eq_false_iff_ne.2 h5'
 have g2:¬ i<0:=by omega
 have d2:decide (i<0)=false:=decide_eq_false g2
 have g3:¬ (s.t.size:Int)<i:=by omega
 have CM:=hid cm
 clear cm h ht h1 hx
 go_enter func47,ntmps47
 go_wp2_with fail
 refine (CM.out _).mono ?_;rintro e w1 ⟨rfl,rfl⟩
 go_wp2_with fail
 refine (CE.out _).mono ?_;rintro e w1 ⟨rfl,rfl⟩
 go_wp2_with fail
 refine (CS.out _ ad.out).mono ?_;rintro e w1 ⟨ma,mc,rfl,hm,hb⟩
 clear ag ah ai aj ak al am an ao aq ar au av aw ax ay az a0 a1 a2 a3 a4 a5 a6 a7 a8 a9 ba bb bc bd be
 have bm:=hid (aa.out.onto hb)
 have bn:=hid (ab.out.onto hb)
 have bo:=hid (ac.out.onto hb)
 have bp:=hid (ad.out.later hb)
 have bq:=hid (ae.out.trans (hb.mono ae.out.size))
 have co:=hid (Nat.le_trans af.out hb.size)
 have cp:=hid (hm.off (S:=(w.heap.size::(w.heap.size+1)::(w.heap.size+1+1)::S)) (fun i hi=>Nat.lt_of_lt_of_le (INT.out i hi) af.out))
 clear hb hm hwX aa ab ac ad ae af
 obtain ⟨br,bs,bu,bv,bw,bx,bz,b3,b4,b5,b6,b7⟩:=bm.out.all6
 obtain ⟨b8,b9,ca,cb,cc,cd,cf,cg⟩:=bn.out.all4
 obtain ⟨bf,bg,bh,bi,bj,bk,ch,ci,cj,ck,cl,cn⟩:=bo.out.all6
 go_wp2
 refine bodyPost_ret (v:=.tuple #[s.v,.int .i64 qe]) (by simp [results,results47,go_sem,bf,bg,bh,bi,bj,bk]) rfl ?_
 exact ⟨s,rfl,rfl,fin26 bq.out bp.out⟩
set_option maxHeartbeats 1600000 in
theorem GF (s:Sta) (S:List Nat) (w:World) (hin:StaO S w s) (hS:InS S w) (h:InvS s.d) (k i n:Int) (x:ByteArray) (hx:x.size≤maxLen) (h1:markB x.data.toList=true) (h2:0≤i∧i≤s.t.size) (h4:edgeB s.t.data.toList i=true) (h5:(setM s.m.l ⟨x,i⟩).2=0):Calls prog 47 #[s.v,(.agg #[.int .i64 k,.int .i64 i,.int .i64 n,.string x])] w (RetRD S w (⟨s.t,(setM s.m.l ⟨x,i⟩).1,lsP s.u.l,lsP s.r.l,s.o,s.g.l⟩,0)):=by
 have ht:s.t.size≤4096:=h.z
 obtain ⟨wX,hwX,kA,kB,kC,rU,inT,bp,hz⟩:=box26 hin hS #[.int .i64 k,.int .i64 i,.int .i64 n,.string x]
 have aa:=hid (kA)
 have ab:=hid (kB)
 have ac:=hid (kC)
 have ad:=hid (rU)
 have ae:=hid (bp)
 have af:=hid (Nat.le_refl wX.heap.size)
 have INT:=hid inT;have HS:=hid hS
 obtain ⟨ak,al,am,an,ao,aq,ar,au,av,aw,ax,ay⟩:=aa.out.all6
 obtain ⟨az,a0,a1,a2,a3,a4,a5,a6⟩:=ab.out.all4
 obtain ⟨a7,a8,a9,ba,bb,bc,bd,be,bf,bg,bh,bi⟩:=ac.out.all6
 clear kA kB kC rU bp inT hin hS hz
 have cm:=fun W=>bK x hx W
 rw [h1] at cm
 have ce:=fun W=>bQ s.t (by unfold maxLen;omega) i W
 rw [h4] at ce
 have CE:=hid ce
 clear ce h4
 have cs:=fun W (hW:StaO (w.heap.size::(w.heap.size+1)::(w.heap.size+1+1)::S) W s)=>nI s.m.a s.m.l s.m.c ⟨x,i⟩ (Off (w.heap.size::(w.heap.size+1)::(w.heap.size+1+1)::S) W) W hW.m.row (fun _ h=>h.1) (Nat.le_trans h.ml (by decide)) hx
 obtain ⟨q,hq⟩:∃ q,setM s.m.l ⟨x,i⟩=q:=⟨_,rfl⟩
 rw [hq] at cs h5 ⊢
 obtain ⟨ql,qe⟩:=q
 have CS:=hid cs
 have h5':qe=0:=h5
 clear cs hq h5
 subst h5'
 have g2:¬ i<0:=by omega
 have d2:decide (i<0)=false:=decide_eq_false g2
 have g3:¬ (s.t.size:Int)<i:=by omega
 have CM:=hid cm
 clear cm h ht h1 hx
 go_enter func47,ntmps47
 go_wp2_with fail
 refine (CM.out _).mono ?_;rintro e w1 ⟨rfl,rfl⟩
 go_wp2_with fail
 refine (CE.out _).mono ?_;rintro e w1 ⟨rfl,rfl⟩
 go_wp2_with fail
 refine (CS.out _ ad.out).mono ?_;rintro e w1 ⟨ma,mc,rfl,hm,hb⟩
 clear ak al am an ao aq ar au av aw ax ay az a0 a1 a2 a3 a4 a5 a6 a7 a8 a9 ba bb bc bd be bf bg bh bi
 have ag:=hid (aa.out.onto hb)
 have ah:=hid (ab.out.onto hb)
 have ai:=hid (ac.out.onto hb)
 have bq:=hid (ad.out.later hb)
 have br:=hid (ae.out.trans (hb.mono ae.out.size))
 have bs:=hid (Nat.le_trans af.out hb.size)
 have bu:=hid (hm.off (S:=(w.heap.size::(w.heap.size+1)::(w.heap.size+1+1)::S)) (fun i hi=>Nat.lt_of_lt_of_le (INT.out i hi) af.out))
 clear hb hm hwX aa ab ac ad ae af
 obtain ⟨b5,b6,b7,b8,b9,ca,cb,cc,cd,cf,cg,ch⟩:=ag.out.all6
 obtain ⟨ci,cj,ck,cl,cn,co,cp,cq⟩:=ah.out.all4
 obtain ⟨cr,ct,cu,cv,cw,cx,cy,cz,c3,c4,c5,c6⟩:=ai.out.all6
 have kA:Blk (w1.setCell ⟨w.heap.size,1,none⟩ (.slice ma ql.length mc)) (w.heap.size) #[.string s.t,.slice ma ql.length mc,.slice s.u.a s.u.l.length s.u.c,.slice s.r.a s.r.l.length s.r.c,.bool s.o,.slice s.g.a s.g.l.length s.g.c] 26:=(ag.out.set 1 _)
 have kB:Blk (w1.setCell ⟨w.heap.size,1,none⟩ (.slice ma ql.length mc)) (w.heap.size+1) #[.int .i64 k,.int .i64 i,.int .i64 n,.string x] 50:=(ah.out.other ⟨w.heap.size,1,none⟩ (by show w.heap.size≠w.heap.size+1;omega) _)
 have kC:Blk (w1.setCell ⟨w.heap.size,1,none⟩ (.slice ma ql.length mc)) (w.heap.size+1+1) #[.string ⟨#[]⟩,.slice none 0 0,.slice none 0 0,.slice none 0 0,.bool false,.slice none 0 0] 26:=(ai.out.other ⟨w.heap.size,1,none⟩ (by show w.heap.size≠w.heap.size+1+1;omega) _)
 have ap:Apart (w.heap.size::(w.heap.size+1)::(w.heap.size+1+1)::S) w1 (w1.setCell ⟨w.heap.size,1,none⟩ (.slice ma ql.length mc)):=(Apart.refl (w.heap.size::(w.heap.size+1)::(w.heap.size+1+1)::S) w1).setCell (p:=⟨w.heap.size,1,none⟩) (.inl (by simp)) _
 have rU:=bq.out.apart ap
 have rM:=bu.out.apart ap
 have hB:=((br.out.setCell (p:=⟨w.heap.size,1,none⟩) (by show w.heap.size≤w.heap.size;omega) _):Below w.heap.size w (w1.setCell ⟨w.heap.size,1,none⟩ (.slice ma ql.length mc)))
 have hz:(w1.setCell ⟨w.heap.size,1,none⟩ (.slice ma ql.length mc)).heap.size=w1.heap.size:=by simp
 obtain ⟨v2,bv⟩:∃ V,(w1.setCell ⟨w.heap.size,1,none⟩ (.slice ma ql.length mc))=V:=⟨_,rfl⟩
 rw [bv] at kA kB kC rU rM hB hz
 have bw:=hid kA
 have bx:=hid kB
 have bz:=hid kC
 have aj:=hid rU
 have b3:=hid rM
 have b4:=hid hB
 have dy:=hid (Nat.le_trans bs.out (Nat.le_of_eq hz.symm))
 clear kA kB kC rU rM hB hz ap ag ah ai bq bu br bs
 obtain ⟨c7,c8,c9,da,db,dc,dd,de,df,dg,dh,di⟩:=bw.out.all6
 obtain ⟨dj,dk,dl,dm,dn,dp,dq,dr⟩:=bx.out.all4
 obtain ⟨bj,bk,bl,bm,bn,bo,ds,dt,du,dv,dw,dx⟩:=bz.out.all6
 go_wp2
 refine bodyPost_ret (v:=.tuple #[(Sta.v ⟨s.t,⟨ma,ql,mc⟩,s.u,s.r,s.o,s.g⟩),.int .i64 0]) (by simp [results,results47,go_sem,bj,bk,bl,bm,bn,bo]) rfl ?_
 exact ⟨⟨s.t,⟨ma,ql,mc⟩,s.u,s.r,s.o,s.g⟩,rfl,rfl,fin26 b4.out ⟨b3.out,aj.out.u,aj.out.r,aj.out.g⟩⟩
set_option maxHeartbeats 800000 in
theorem GH (s:Sta) (S:List Nat) (w:World) (hin:StaO S w s) (hS:InS S w) (h:InvS s.d) (ho:s.o=false):Calls prog 50 #[.agg #[.string s.t,.slice s.m.a s.m.l.length s.m.c,.slice s.u.a s.u.l.length s.u.c,.slice s.r.a s.r.l.length s.r.c,.bool false,.slice s.g.a s.g.l.length s.g.c]] w (RetRD S w (s.d,11)):=by
 have aa:=hid hin
 clear hin hS h
 go_enter func50,ntmps50
 go_wp2
 refine bodyPost_ret (v:=.tuple #[Sta.v ⟨s.t,s.m,s.u,s.r,false,s.g⟩,.int .i64 11]) (by simp [results,results50,go_sem]) rfl ?_
 have hb:=below2 w (.cells #[.string s.t,.slice s.m.a s.m.l.length s.m.c,.slice s.u.a s.u.l.length s.u.c,.slice s.r.a s.r.l.length s.r.c,.bool false,.slice s.g.a s.g.l.length s.g.c] 26) (.cells #[.string s.t,.slice s.m.a s.m.l.length s.m.c,.slice s.u.a s.u.l.length s.u.c,.slice s.r.a s.r.l.length s.r.c,.bool false,.slice s.g.a s.g.l.length s.g.c] 26)
 have h2:=aa.out.later hb
 exact ⟨⟨s.t,s.m,s.u,s.r,false,s.g⟩,rfl,by unfold Sta.d;simp only [ho],⟨h2.m,h2.u,h2.r,h2.g⟩,hb⟩
set_option maxHeartbeats 800000 in
theorem yE (s:Sta) (S:List Nat) (w:World) (hin:StaO S w s) (hS:InS S w) (h:InvS s.d) (ho:s.o=true) (h2:s.g.l.length=0):Calls prog 50 #[.agg #[.string s.t,.slice s.m.a s.m.l.length s.m.c,.slice s.u.a s.u.l.length s.u.c,.slice s.r.a s.r.l.length s.r.c,.bool true,.slice s.g.a s.g.l.length s.g.c]] w (RetRD S w (⟨s.t,s.m.l,lsP s.u.l,lsP s.r.l,false,[]⟩,0)):=by
 have aa:=hid hin
 have c0:¬ (0:Int)<(s.g.l.length:Int):=by omega
 clear hin hS h h2 ho
 go_enter func50,ntmps50
 go_wp2
 refine bodyPost_ret (v:=.tuple #[Sta.v ⟨s.t,s.m,s.u,s.r,false,⟨none,[],0⟩⟩,.int .i64 0]) (by simp [results,results50,go_sem]) rfl ?_
 have hb:=below2 w (.cells #[.string s.t,.slice s.m.a s.m.l.length s.m.c,.slice s.u.a s.u.l.length s.u.c,.slice s.r.a s.r.l.length s.r.c,.bool false,.slice none 0 0] 26) (.cells #[.string s.t,.slice s.m.a s.m.l.length s.m.c,.slice s.u.a s.u.l.length s.u.c,.slice s.r.a s.r.l.length s.r.c,.bool false,.slice none 0 0] 26)
 have h2:=aa.out.later hb
 exact ⟨⟨s.t,s.m,s.u,s.r,false,⟨none,[],0⟩⟩,rfl,rfl,⟨h2.m,h2.u,h2.r,EPo.empty _ _⟩,hb⟩
set_option maxHeartbeats 1600000 in
theorem yM (s:Sta) (S:List Nat) (w:World) (hin:StaO S w s) (hS:InS S w) (h:InvS s.d) (ho:s.o=true) (h2:¬ s.g.l.length=0):Calls prog 50 #[.agg #[.string s.t,.slice s.m.a s.m.l.length s.m.c,.slice s.u.a s.u.l.length s.u.c,.slice s.r.a s.r.l.length s.r.c,.bool true,.slice s.g.a s.g.l.length s.g.c]] w (RetRD S w (⟨s.t,s.m.l,pushL (lsP s.u.l) s.g.l,lsP s.r.l,false,[]⟩,0)):=by
 have ht:s.t.size≤4096:=h.z
 obtain ⟨wX,hwX,kA,kC,ab,hz⟩:=box2 w #[.string s.t,.slice s.m.a s.m.l.length s.m.c,.slice s.u.a s.u.l.length s.u.c,.slice s.r.a s.r.l.length s.r.c,.bool true,.slice s.g.a s.g.l.length s.g.c] #[.string ⟨#[]⟩,.slice none 0 0,.slice none 0 0,.slice none 0 0,.bool false,.slice none 0 0] 26 26
 have inT:∀ i∈(w.heap.size::(w.heap.size+1)::S),i<wX.heap.size:=fun i hi=>by
  simp only [List.mem_cons] at hi
  rcases hi with rfl|rfl|hi
  ·omega
  ·omega
  ·have:=hS i hi;omega
 have rU:StaO (w.heap.size::(w.heap.size+1)::S) wX s:=(hin.wide (S':=(w.heap.size::(w.heap.size+1)::S)) (fun i hi=>by simp only [List.mem_cons] at hi;rcases hi with rfl|rfl|hi;exact .inr (Nat.le_refl _);exact .inr (Nat.le_succ _);exact .inl hi)).later ab
 have ac:=hid (kA)
 have ad:=hid (kC)
 have aa:=hid (rU)
 have ae:=hid (ab)
 have af:=hid (Nat.le_refl wX.heap.size)
 have INT:=hid inT
 obtain ⟨am,an,ao,aq,ar,au,av,aw,ax,ay,az,a0⟩:=ac.out.all6
 obtain ⟨a1,a2,a3,a4,a5,a6,a7,a8,a9,ba,bb,bc⟩:=ad.out.all6
 have cp:=fun W (hW:StaO (w.heap.size::(w.heap.size+1)::S) W s)=>eX s.u.a s.u.l s.u.c s.g W hW.u.in hW.g.in (by have h2:(lsP s.u.l).length≤16:=h.ul.1;rw [aC] at h2;omega)
 obtain ⟨Q,hQ⟩:∃ Q,(s.u.l++[s.g]).drop (s.u.l.length+1 - 16)=Q:=⟨_,rfl⟩
 rw [hQ] at cp
 have CP:=hid cp;have HQ:=hid hQ
 have g1:(0:Int)<(s.g.l.length:Int):=by omega
 clear cp hQ
 clear kA kC rU ab inT hin hS hz ht h
 go_enter func50,ntmps50
 go_wp2_with fail
 refine (CP.out _ aa.out).mono ?_;rintro e w1 ⟨ua,uc,rfl,hr,hb⟩
 clear am an ao aq ar au av aw ax ay az a0 a1 a2 a3 a4 a5 a6 a7 a8 a9 ba bb bc
 have ag:=hid (ac.out.onto hb)
 have ah:=hid (ad.out.onto hb)
 have bj:=hid (aa.out.later hb)
 have bk:=hid (ae.out.trans (hb.mono ae.out.size))
 have bl:=hid (Nat.le_trans af.out hb.size)
 have bm:=hid (hr.off (S:=(w.heap.size::(w.heap.size+1)::S)) (fun i hi=>Nat.lt_of_lt_of_le (INT.out i hi) af.out) (fun y hy=>by
  rw [← HQ.out] at hy
  rcases List.mem_append.1 (List.mem_of_mem_drop hy) with h|h
  ·exact (aa.out.u.all y h).later hb
  ·obtain rfl:=List.mem_singleton.1 h
   exact aa.out.g.later hb))
 clear hb hr hwX ac ad aa ae af
 obtain ⟨b8,b9,ca,cb,cc,cd,ce,cf,cg,ch,ci,cj⟩:=ag.out.all6
 obtain ⟨ck,cl,cm,cn,co,cq,cr,ct,cu,cv,cw,cx⟩:=ah.out.all6
 have kA:Blk (w1.setCell ⟨w.heap.size,2,none⟩ (.slice ua Q.length uc)) (w.heap.size) #[.string s.t,.slice s.m.a s.m.l.length s.m.c,.slice ua Q.length uc,.slice s.r.a s.r.l.length s.r.c,.bool true,.slice s.g.a s.g.l.length s.g.c] 26:=(ag.out.set 2 _)
 have kC:Blk (w1.setCell ⟨w.heap.size,2,none⟩ (.slice ua Q.length uc)) (w.heap.size+1) #[.string ⟨#[]⟩,.slice none 0 0,.slice none 0 0,.slice none 0 0,.bool false,.slice none 0 0] 26:=(ah.out.other ⟨w.heap.size,2,none⟩ (by show w.heap.size≠w.heap.size+1;omega) _)
 have ap:Apart (w.heap.size::(w.heap.size+1)::S) w1 (w1.setCell ⟨w.heap.size,2,none⟩ (.slice ua Q.length uc)):=(Apart.refl (w.heap.size::(w.heap.size+1)::S) w1).setCell (p:=⟨w.heap.size,2,none⟩) (.inl (by simp)) _
 have rU:=bj.out.apart ap
 have rP:=bm.out.apart ap
 have hB:=((bk.out.setCell (p:=⟨w.heap.size,2,none⟩) (by show w.heap.size≤w.heap.size;omega) _):Below w.heap.size w (w1.setCell ⟨w.heap.size,2,none⟩ (.slice ua Q.length uc)))
 have hz:(w1.setCell ⟨w.heap.size,2,none⟩ (.slice ua Q.length uc)).heap.size=w1.heap.size:=by simp
 obtain ⟨v2,bx⟩:∃ V,(w1.setCell ⟨w.heap.size,2,none⟩ (.slice ua Q.length uc))=V:=⟨_,rfl⟩
 rw [bx] at kA kC rU rP hB hz
 have ai:=hid kA
 have aj:=hid kC
 have bn:=hid rU
 have bo:=hid rP
 have bp:=hid hB
 have bq:=hid (Nat.le_trans bl.out (Nat.le_of_eq hz.symm))
 clear kA kC rU rP hB hz ap ag ah bj bm bk bl
 obtain ⟨cy,cz,c3,c4,c5,c6,c7,c8,c9,da,db,dc⟩:=ai.out.all6
 obtain ⟨dd,de,df,dg,dh,di,dj,dk,dl,dm,dn,dp⟩:=aj.out.all6
 have kA:Blk (v2.setCell ⟨w.heap.size,4,none⟩ (.bool false)) (w.heap.size) #[.string s.t,.slice s.m.a s.m.l.length s.m.c,.slice ua Q.length uc,.slice s.r.a s.r.l.length s.r.c,.bool false,.slice s.g.a s.g.l.length s.g.c] 26:=(ai.out.set 4 _)
 have kC:Blk (v2.setCell ⟨w.heap.size,4,none⟩ (.bool false)) (w.heap.size+1) #[.string ⟨#[]⟩,.slice none 0 0,.slice none 0 0,.slice none 0 0,.bool false,.slice none 0 0] 26:=(aj.out.other ⟨w.heap.size,4,none⟩ (by show w.heap.size≠w.heap.size+1;omega) _)
 have ap:Apart (w.heap.size::(w.heap.size+1)::S) v2 (v2.setCell ⟨w.heap.size,4,none⟩ (.bool false)):=(Apart.refl (w.heap.size::(w.heap.size+1)::S) v2).setCell (p:=⟨w.heap.size,4,none⟩) (.inl (by simp)) _
 have rU:=bn.out.apart ap
 have rP:=bo.out.apart ap
 have hB:=((bp.out.setCell (p:=⟨w.heap.size,4,none⟩) (by show w.heap.size≤w.heap.size;omega) _):Below w.heap.size w (v2.setCell ⟨w.heap.size,4,none⟩ (.bool false)))
 have hz:(v2.setCell ⟨w.heap.size,4,none⟩ (.bool false)).heap.size=v2.heap.size:=by simp
 obtain ⟨v3,bz⟩:∃ V,(v2.setCell ⟨w.heap.size,4,none⟩ (.bool false))=V:=⟨_,rfl⟩
 rw [bz] at kA kC rU rP hB hz
 have ak:=hid kA
 have al:=hid kC
 have br:=hid rU
 have bs:=hid rP
 have bu:=hid hB
 have bv:=hid (Nat.le_trans bq.out (Nat.le_of_eq hz.symm))
 clear kA kC rU rP hB hz ap ai aj bn bo bp bq
 obtain ⟨dq,dr,ds,dt,du,dv,dw,dx,dy,dz,d0,d1⟩:=ak.out.all6
 obtain ⟨d2,d3,d4,d5,d6,d7,d8,d9,ea,eb,ec,ed⟩:=al.out.all6
 have kA:Blk (v3.setCell ⟨w.heap.size,5,none⟩ (.slice none 0 0)) (w.heap.size) #[.string s.t,.slice s.m.a s.m.l.length s.m.c,.slice ua Q.length uc,.slice s.r.a s.r.l.length s.r.c,.bool false,.slice none 0 0] 26:=(ak.out.set 5 _)
 have kC:Blk (v3.setCell ⟨w.heap.size,5,none⟩ (.slice none 0 0)) (w.heap.size+1) #[.string ⟨#[]⟩,.slice none 0 0,.slice none 0 0,.slice none 0 0,.bool false,.slice none 0 0] 26:=(al.out.other ⟨w.heap.size,5,none⟩ (by show w.heap.size≠w.heap.size+1;omega) _)
 have ap:Apart (w.heap.size::(w.heap.size+1)::S) v3 (v3.setCell ⟨w.heap.size,5,none⟩ (.slice none 0 0)):=(Apart.refl (w.heap.size::(w.heap.size+1)::S) v3).setCell (p:=⟨w.heap.size,5,none⟩) (.inl (by simp)) _
 have rU:=br.out.apart ap
 have rP:=bs.out.apart ap
 have hB:=((bu.out.setCell (p:=⟨w.heap.size,5,none⟩) (by show w.heap.size≤w.heap.size;omega) _):Below w.heap.size w (v3.setCell ⟨w.heap.size,5,none⟩ (.slice none 0 0)))
 have hz:(v3.setCell ⟨w.heap.size,5,none⟩ (.slice none 0 0)).heap.size=v3.heap.size:=by simp
 obtain ⟨v4,b3⟩:∃ V,(v3.setCell ⟨w.heap.size,5,none⟩ (.slice none 0 0))=V:=⟨_,rfl⟩
 rw [b3] at kA kC rU rP hB hz
 have b4:=hid kA
 have b5:=hid kC
 have bw:=hid rU
 have b6:=hid rP
 have b7:=hid hB
 have ew:=hid (Nat.le_trans bv.out (Nat.le_of_eq hz.symm))
 clear kA kC rU rP hB hz ap ak al br bs bu bv
 obtain ⟨ee,ef,eg,eh,ei,ej,ek,el,em,en,eo,ep⟩:=b4.out.all6
 obtain ⟨bd,be,bf,bg,bh,bi,eq,er,es,et,eu,ev⟩:=b5.out.all6
 go_wp2
 refine bodyPost_ret (v:=.tuple #[(Sta.v ⟨s.t,s.m,⟨ua,Q,uc⟩,s.r,false,⟨none,[],0⟩⟩),.int .i64 0]) (by simp [results,results50,go_sem,bd,be,bf,bg,bh,bi]) rfl ?_
 refine ⟨⟨s.t,s.m,⟨ua,Q,uc⟩,s.r,false,⟨none,[],0⟩⟩,rfl,(by unfold Sta.d;simp only [← HQ.out,gI,eR,pushL,aC];rfl),?_,?_⟩
 ·refine StaO.wide (S:=(w.heap.size::(w.heap.size+1)::S)) (StaO.apart (w:=v4) ⟨bw.out.m,b6.out,bw.out.r,EPo.empty _ _⟩ ?_) (fun i hi=>.inl (by simp [hi]))
  iterate 6 refine Apart.setCell ?_ (.inl (by simp)) _
  exact Apart.refl _ _
 ·iterate 6 refine Below.setCell ?_ (by show w.heap.size≤w.heap.size+1;omega) _
  exact b7.out
theorem uM {w1 wr:World} {n:Nat} {v0 v1 v2 v3 v4 v5:Value} (hb:Below wr.heap.size wr w1):∀ b,b<wr.heap.size→b≠n→((((((w1.setCell ⟨n,0,none⟩ v0).setCell ⟨n,1,none⟩ v1).setCell ⟨n,2,none⟩ v2).setCell ⟨n,3,none⟩ v3).setCell ⟨n,4,none⟩ v4).setCell ⟨n,5,none⟩ v5).heap[b]? = wr.heap[b]? :=fun b h1 h2=>by
 refine (Below.heap_setCell _ _ _ b h2).trans ?_
 refine (Below.heap_setCell _ _ _ b h2).trans ?_
 refine (Below.heap_setCell _ _ _ b h2).trans ?_
 refine (Below.heap_setCell _ _ _ b h2).trans ?_
 refine (Below.heap_setCell _ _ _ b h2).trans ?_
 refine (Below.heap_setCell _ _ _ b h2).trans ?_
 exact hb.block b h1
theorem tV {wr W:World} {ae:Addr} {j n:Nat} {x y z:Value} (hb:ae.block<wr.heap.size) (hne:ae.block≠n) (hW:∀ b,b<wr.heap.size→b≠n→W.heap[b]? = wr.heap[b]?) (q0:wr.cell? (ae.add j)=some x) (q1:wr.cell? ⟨(ae.add j).block,(ae.add j).off+1,none⟩=some y) (q2:wr.cell? ⟨(ae.add j).block,(ae.add j).off+2,none⟩=some z) :
 W.cell? (ae.add j)=some x∧W.cell? ⟨(ae.add j).block,(ae.add j).off+1,none⟩=some y∧W.cell? ⟨(ae.add j).block,(ae.add j).off+2,none⟩=some z:=by
 have e3:(ae.add j).block=ae.block:=by unfold Addr.add;split <;> rfl
 have h3:W.heap[(ae.add j).block]? = wr.heap[(ae.add j).block]? :=by rw [e3];exact hW _ hb hne
 exact ⟨(World.cell?_of_block (w:=wr) h3).trans q0,(World.cell?_of_block (w:=wr) (a:=⟨(ae.add j).block,(ae.add j).off+1,none⟩) h3).trans q1,(World.cell?_of_block (w:=wr) (a:=⟨(ae.add j).block,(ae.add j).off+2,none⟩) h3).trans q2⟩
set_option maxHeartbeats 800000 in
theorem mR {m:KPc} {u ro:SPc} {g:EPc} (S:List Nat) (w:World) (hin:StaO S w ⟨t,m,u,ro,true,g⟩) (hS:InS S w) (h:InvS (Sta.d ⟨t,m,u,ro,true,g⟩)):Calls prog 49 #[Sta.v ⟨t,m,u,ro,true,g⟩,.bool true] w (RetRD S w (Sta.d ⟨t,m,u,ro,true,g⟩,11)):=by
 have aa:=hid hin
 clear hin hS h
 go_enter func49,ntmps49
 go_wp2
 refine bodyPost_ret (v:=.tuple #[Sta.v ⟨t,m,u,ro,true,g⟩,.int .i64 11]) (by simp [results,results49,go_sem]) rfl ?_
 have hb:=below2 w (.cells #[.string t,.slice m.a m.l.length m.c,.slice u.a u.l.length u.c,.slice ro.a ro.l.length ro.c,.bool true,.slice g.a g.l.length g.c] 26) (.cells #[.string t,.slice m.a m.l.length m.c,.slice u.a u.l.length u.c,.slice ro.a ro.l.length ro.c,.bool true,.slice g.a g.l.length g.c] 26)
 have h2:=aa.out.later hb
 exact ⟨⟨t,m,u,ro,true,g⟩,rfl,rfl,⟨h2.m,h2.u,h2.r,h2.g⟩,hb⟩
set_option maxHeartbeats 800000 in
theorem lS {m:KPc} {ro:SPc} {fa:Option Addr} {g:EPc} (S:List Nat) (w:World) (hin:StaO S w ⟨t,m,⟨fa,[],fc⟩,ro,false,g⟩) (hS:InS S w) (h:InvS (Sta.d ⟨t,m,⟨fa,[],fc⟩,ro,false,g⟩)):Calls prog 49 #[Sta.v ⟨t,m,⟨fa,[],fc⟩,ro,false,g⟩,.bool true] w (RetRD S w (Sta.d ⟨t,m,⟨fa,[],fc⟩,ro,false,g⟩,10)):=by
 have aa:=hid hin
 clear hin hS h
 show Calls prog 49 #[.agg #[.string t,.slice m.a m.l.length m.c,.slice fa 0 fc,.slice ro.a ro.l.length ro.c,.bool false,.slice g.a g.l.length g.c],.bool true] w _
 go_enter func49,ntmps49
 go_wp2
 refine bodyPost_ret (v:=.tuple #[.agg #[.string t,.slice m.a m.l.length m.c,.slice fa 0 fc,.slice ro.a ro.l.length ro.c,.bool false,.slice g.a g.l.length g.c],.int .i64 10]) (by simp [results,results49,go_sem]) rfl ?_
 have hb:=below2 w (.cells #[.string t,.slice m.a m.l.length m.c,.slice fa 0 fc,.slice ro.a ro.l.length ro.c,.bool false,.slice g.a g.l.length g.c] 26) (.cells #[.string t,.slice m.a m.l.length m.c,.slice fa 0 fc,.slice ro.a ro.l.length ro.c,.bool false,.slice g.a g.l.length g.c] 26)
 have h2:=aa.out.later hb
 exact ⟨⟨t,m,⟨fa,[],fc⟩,ro,false,g⟩,rfl,rfl,⟨h2.m,h2.u,h2.r,h2.g⟩,hb⟩
theorem mW {m:KPc} {u ro:SPc} {g:EPc} (S:List Nat) (w:World) (hin:StaO S w ⟨t,m,u,ro,false,g⟩) (hS:InS S w) (h:InvS (Sta.d ⟨t,m,u,ro,false,g⟩)) (h0:u.l.length=0):Calls prog 49 #[Sta.v ⟨t,m,u,ro,false,g⟩,.bool true] w (RetRD S w (Sta.d ⟨t,m,u,ro,false,g⟩,10)):=by
 obtain ⟨fa,fl,fc⟩:=u
 obtain rfl:fl=[]:=List.eq_nil_of_length_eq_zero h0
 exact lS S w hin hS h
set_option maxHeartbeats 3200000 in
theorem nZ {m:KPc} {ro:SPc} {ad:Addr} {fl:List EPc} {g:EPc} (S:List Nat) (w:World) (hin:StaO S w ⟨t,m,⟨some ad,fl,fc⟩,ro,false,g⟩) (hS:InS S w) (h:InvS (Sta.d ⟨t,m,⟨some ad,fl,fc⟩,ro,false,g⟩)) (k:Nat) (hk:fl.length=k+1):Calls prog 49 #[Sta.v ⟨t,m,⟨some ad,fl,fc⟩,ro,false,g⟩,.bool true] w (RetRD S w (undoD (Sta.d ⟨t,m,⟨some ad,fl,fc⟩,ro,false,g⟩))):=by
 have hk':(lsP fl).length=k+1:=by rw [aC];exact hk
 have eu:(lsP fl)[k]! = (fl[k]!).l:=cF fl k (by omega)
 obtain ⟨t',hrun,hv,gv⟩:=wQ h rfl hk'
 have hyes:=qD (s:=Sta.d ⟨t,m,⟨some ad,fl,fc⟩,ro,false,g⟩) rfl hk' hrun
 have hw:k≤900:=by have h2:(lsP fl).length≤16:=h.ul.1;omega
 have hlen:=(h.ul.2 _ (cW (L:=lsP fl) (k:=k) (by omega))).2
 have hok:=tI (h.ue _ (cW (L:=lsP fl) (k:=k) (by omega)))
 have htl:ro.l.length≤900:=by
  have h2:(lsP ro.l).length≤16:=h.rl.1
  rw [aC] at h2
  omega
 replace hyes:undoD (Sta.d ⟨t,m,⟨some ad,fl,fc⟩,ro,false,g⟩)=((⟨t',shfL m.l (invL (lsP fl)[k]!),(lsP fl).take k,pushL (lsP ro.l) (lsP fl)[k]!,false,g.l⟩:StaD),0):=hyes
 rw [hyes]
 replace hrun:runE t (invL (lsP fl)[k]!)=(t',0):=hrun
 replace hok:∀ x∈invL (lsP fl)[k]!,okE5 x=true:=hok
 rw [eu] at hrun hlen hok ⊢
 obtain ⟨sl,hsl⟩:∃ sl,(fl[k]!).l=sl:=⟨_,rfl⟩
 rw [hsl] at hrun hlen hok ⊢
 obtain ⟨rl,hrl⟩:∃ rl,invL sl=rl:=⟨_,rfl⟩
 have hrz:rl.length≤32:=by rw [← hrl,aD];exact hlen
 rw [hrl] at hrun hok ⊢
 have hms:=h.shown hrun
 have hez:=h.edz hok
 have hep:=iK (t:=t) h.z hrun
 have ev:m.l.length≤1000000:=Nat.le_trans h.ml (by decide)
 have hvz:vldB t.data.toList=true∧t.size≤4096:=⟨h.v,h.z⟩
 obtain ⟨n,hn⟩:∃ n,fl.length=n:=⟨_,rfl⟩
 have ew:=hid hrun;have gw:=hid hms;have gx:=hid hez;have gy:=hid hep;have gz:=hid ev;have HV:=hid hvz
 have hnk:n=k+1:=by omega
 show Calls prog 49 #[staV t (.slice m.a m.l.length m.c) (.slice (some ad) fl.length fc) (.slice ro.a ro.l.length ro.c) false (.slice g.a g.l.length g.c),.bool true] w _
 rw [hn]
 clear hrun hms hez hep ev hyes hok eu hk' hv hvz gv hk
 obtain ⟨wX,hwX,kA,kC,ey,hz⟩:=box2 w #[.string t,.slice m.a m.l.length m.c,.slice (some ad) n fc,.slice ro.a ro.l.length ro.c,.bool false,.slice g.a g.l.length g.c] #[.string ⟨#[]⟩,.slice none 0 0,.slice none 0 0,.slice none 0 0,.bool false,.slice none 0 0] 26 26
 have inT:∀ i∈(w.heap.size::(w.heap.size+1)::S),i<wX.heap.size:=fun i hi=>by
  simp only [List.mem_cons] at hi
  rcases hi with rfl|rfl|hi
  ·omega
  ·omega
  ·have:=hS i hi;omega
 have rU:StaO (w.heap.size::(w.heap.size+1)::S) wX ⟨t,m,⟨some ad,fl,fc⟩,ro,false,g⟩:=(hin.wide (S':=(w.heap.size::(w.heap.size+1)::S)) (fun i hi=>by simp only [List.mem_cons] at hi;rcases hi with rfl|rfl|hi;exact .inr (Nat.le_refl _);exact .inr (Nat.le_succ _);exact .inl hi)).later ey
 have af:=hid (kA)
 have ag:=hid (kC)
 have bj:=hid (rU)
 have ar:=hid (ey)
 have az:=hid (Nat.le_refl wX.heap.size)
 obtain ⟨ad',e',hab,q0⟩:=rU.u.in.row k (by show k<fl.length;omega)
 obtain rfl:ad=ad':=by injection e'
 have rE:EPo (w.heap.size::(w.heap.size+1)::S) wX fl[k]! :=rU.u.all _ (by rw [epget (show k<fl.length by omega)];exact List.getElem_mem (show k<fl.length by omega))
 obtain ⟨st,hst⟩:∃ st,fl[k]! = st:=⟨_,rfl⟩
 rw [hst] at q0 rE hsl
 obtain ⟨ea,el,ec⟩:=st
 simp only at hsl
 subst hsl
 simp only [EPc.v] at q0
 have bk:=hid rE;have INT:=hid inT
 have hzl:w.heap.size+1<wX.heap.size:=by omega
 have h0:(k:Int)≤(fc:Int):=by have:=rU.u.le;have h3:fl.length≤fc:=this;omega
 have kn1:(n:Int) - 1=(k:Int):=by omega
 have kn2:(0:Int)≤(k:Int):=by omega
 have kn3:(k:Int)<(n:Int):=by omega
 have kn4:¬ (n:Int)=0:=by omega
 have kn5:((n:Int) == 0)=false:=beq_eq_false_iff_ne.2 kn4
 obtain ⟨el',hel'⟩:∃ x,el.length=x:=⟨_,rfl⟩
 have gd:=hid hel'
 have e0:el.length≤32:=hlen
 have g0:=hid e0
 clear e0
 rw [hel'] at q0 hlen
 have HN:=hid hn;have h6:=hid hst
 clear kA kC rU ey inT hin hS hz rE e' hab hn hst h hel' hnk
 obtain ⟨ak,al,am,an,ao,aq,a0,a1,a2,a3,a4,a5⟩:=af.out.all6
 obtain ⟨a6,a7,a8,a9,ba,bb,bc,bd,be,bf,bg,bh⟩:=ag.out.all6
 go_enter func49,ntmps49
 have ht:wX.heap.size≤wX.heap.size:=az.out
 obtain ⟨aa,hwA0,kA,hbA,hzA⟩:=box1 wX #[.slice ea el' ec] 54
 have ah:=hid (af.out.onto hbA)
 have ai:=hid (ag.out.onto hbA)
 have ab:=hid (bj.out.later hbA)
 have ac:=hid (bk.out.later hbA)
 have au:=hid (ar.out.trans (hbA.mono ar.out.size))
 have av:=hid (Nat.le_trans az.out hbA.size)
 have aj:=hid kA
 have e3:wX.heap.size<aa.heap.size:=by omega
 have g1:=hid e3
 clear kA hbA hzA e3 af ag bj bk ar az
 obtain ⟨bn,bo,bp,bq,br,bs,bu,bv,bw,bx,bz,b3⟩:=ah.out.all6
 obtain ⟨b4,b5,b6,b7,b8,b9,cb,cc,cd,ce,cf,cg⟩:=ai.out.all6
 obtain ⟨ch,cj⟩:=aj.out.all1
 replace ab:=hid (ab.out.wide (S':=(w.heap.size::(w.heap.size+1)::aa.heap.size::S)) (fun i hi=>by simp only [List.mem_cons] at hi;rcases hi with rfl|rfl|rfl|hi;exact .inl (by simp);exact .inl (by simp);exact .inr (Nat.le_refl _);exact .inl (by simp [hi])))
 replace ac:=hid (ac.out.wide (S':=(w.heap.size::(w.heap.size+1)::aa.heap.size::S)) (fun i hi=>by simp only [List.mem_cons] at hi;rcases hi with rfl|rfl|rfl|hi;exact .inl (by simp);exact .inl (by simp);exact .inr (Nat.le_refl _);exact .inl (by simp [hi])))
 have hxq:w.heap.size+1<aa.heap.size:=by have:=av.out;omega
 have hu:wX.heap.size≤aa.heap.size:=av.out
 obtain ⟨bi,hwA1,kA,hbA,hzA⟩:=box1 aa #[.slice ea el' ec] 54
 have aw:=hid (ah.out.onto hbA)
 have ax:=hid (ai.out.onto hbA)
 have ay:=hid (aj.out.onto hbA)
 have ck:=hid (ab.out.later hbA)
 have bl:=hid (ac.out.later hbA)
 have bm:=hid (au.out.trans (hbA.mono au.out.size))
 have cl:=hid (Nat.le_trans av.out hbA.size)
 have cn:=hid kA
 have e4:aa.heap.size<bi.heap.size:=by omega
 have g2:=hid e4
 clear kA hbA hzA e4 ah ai aj ab ac au av
 obtain ⟨co,cq,cr,ct,cu,cv,cw,cx,cy,cz,c3,c4⟩:=aw.out.all6
 obtain ⟨c5,c6,c7,c8,c9,da,db,dc,dd,de,df,dg⟩:=ax.out.all6
 obtain ⟨dh,di⟩:=ay.out.all1
 obtain ⟨dz,d0⟩:=cn.out.all1
 have INQ:=hid (show ∀ i∈(w.heap.size::(w.heap.size+1)::aa.heap.size::S),i<bi.heap.size from fun i hi=>by
  have h1:=cl.out;have h2:=g2.out
  simp only [List.mem_cons] at hi
  rcases hi with rfl|rfl|rfl|hi
  ·omega
  ·omega
  ·exact h2
  ·exact Nat.lt_of_lt_of_le (INT.out i (by simp [hi])) h1)
 have HJ:=hid (Nat.le_refl bi.heap.size)
 have ci:=jZ ea el ec bi bl.out.in.row (Nat.le_trans g0.out (by decide))
 rw [hrl] at ci
 have CI:=hid (show Calls prog 40 #[stpV ea el' ec] bi _ by rw [← gd.out];exact ci)
 clear ci
 go_wp2_with fail
 refine (CI.out).mono ?_;rintro e w3 ⟨ra,rc,rfl,hrr,hb⟩
 clear q0 hwX ak al am an ao aq a0 a1 a2 a3 a4 a5 a6 a7 a8 a9 ba bb bc bd be bf bg bh hwA0 bn bo bp bq br bs bu bv bw bx bz b3 b4 b5 b6 b7 b8 b9 cb cc cd ce cf cg ch cj hwA1 co cq cr ct cu cv cw cx cy cz c3 c4 c5 c6 c7 c8 c9 da db dc dd de df dg dh di dz d0
 have ds:=hid (aw.out.onto hb)
 have dt:=hid (ax.out.onto hb)
 have du:=hid (ay.out.onto hb)
 have e5:=hid (cn.out.onto hb)
 have dv:=hid (ck.out.later hb)
 have e6:=hid (bl.out.later hb)
 have d1:=hid (bm.out.trans (hb.mono bm.out.size))
 have e7:=hid (Nat.le_trans cl.out hb.size)
 replace HJ:=hid hb.size
 have gf:=hid (hrr.off (S:=(w.heap.size::(w.heap.size+1)::aa.heap.size::S)) INQ.out)
 clear hb hrr CI aw ax ay cn ck bl bm cl
 obtain ⟨d2,d3,d4,d5,d6,d7,d8,d9,eb,ed,ee,ef⟩:=ds.out.all6
 obtain ⟨dj,dk,dl,dm,dn,dp,eg,eh,ei,ej,ek,em⟩:=dt.out.all6
 obtain ⟨ep,eq⟩:=du.out.all1
 obtain ⟨fh,fi⟩:=e5.out.all1
 have hpq:=g1.out
 have kQ:Blk (w3.setCell ⟨aa.heap.size,0,none⟩ (.slice ra rl.length rc)) (aa.heap.size) #[.slice ra rl.length rc] 54:=(e5.out.set 0 _)
 have kA:Blk (w3.setCell ⟨aa.heap.size,0,none⟩ (.slice ra rl.length rc)) (w.heap.size) #[.string t,.slice m.a m.l.length m.c,.slice (some ad) n fc,.slice ro.a ro.l.length ro.c,.bool false,.slice g.a g.l.length g.c] 26:=(ds.out.other ⟨aa.heap.size,0,none⟩ (by show aa.heap.size≠w.heap.size;omega) _)
 have kC:Blk (w3.setCell ⟨aa.heap.size,0,none⟩ (.slice ra rl.length rc)) (w.heap.size+1) #[.string ⟨#[]⟩,.slice none 0 0,.slice none 0 0,.slice none 0 0,.bool false,.slice none 0 0] 26:=(dt.out.other ⟨aa.heap.size,0,none⟩ (by show aa.heap.size≠w.heap.size+1;omega) _)
 have kP:Blk (w3.setCell ⟨aa.heap.size,0,none⟩ (.slice ra rl.length rc)) (wX.heap.size) #[.slice ea el' ec] 54:=(du.out.other ⟨aa.heap.size,0,none⟩ (by show aa.heap.size≠wX.heap.size;omega) _)
 have ap:Apart (w.heap.size::(w.heap.size+1)::aa.heap.size::S) w3 (w3.setCell ⟨aa.heap.size,0,none⟩ (.slice ra rl.length rc)):=(Apart.refl (w.heap.size::(w.heap.size+1)::aa.heap.size::S) w3).setCell (p:=⟨aa.heap.size,0,none⟩) (.inl (by simp)) _
 have rU:=dv.out.apart ap
 have rE:=e6.out.apart ap
 have rQ:=gf.out.apart ap
 have hB:=((d1.out.setCell (p:=⟨aa.heap.size,0,none⟩) (by show w.heap.size≤aa.heap.size;omega) _):Below w.heap.size w (w3.setCell ⟨aa.heap.size,0,none⟩ (.slice ra rl.length rc)))
 have hz:(w3.setCell ⟨aa.heap.size,0,none⟩ (.slice ra rl.length rc)).heap.size=w3.heap.size:=by simp
 obtain ⟨v4,e8⟩:∃ V,(w3.setCell ⟨aa.heap.size,0,none⟩ (.slice ra rl.length rc))=V:=⟨_,rfl⟩
 rw [e8] at kA kC kP kQ rU rE rQ hB hz
 have gg:=hid kA
 have gh:=hid kC
 have gi:=hid kP
 have gj:=hid kQ
 have gk:=hid rU
 have g3:=hid rE
 have g4:=hid rQ
 have g5:=hid hB
 have h7:=hid (Nat.le_trans e7.out (Nat.le_of_eq hz.symm))
 clear kA kC kP kQ rU rE rQ hB hz ap ds dt du e5 dv e6 gf d1 e7
 obtain ⟨fj,fk,fm,fn,fo,fp,fq,fr,fs,ft,fu,fv⟩:=gg.out.all6
 obtain ⟨fw,fx,fy,fz,f0,f1,f2,f3,f4,f5,f6,f7⟩:=gh.out.all6
 obtain ⟨f8,f9⟩:=gi.out.all1
 obtain ⟨er,ga⟩:=gj.out.all1
 replace HJ:=hid (show bi.heap.size≤v4.heap.size by rw [← e8,World.size_setCell];exact HJ.out)
 obtain ⟨n2,es⟩:∃ x,rl.length=x:=⟨_,rfl⟩
 have gm:=hid es
 have h8:n2≤32:=by omega
 rw [es] at er
 have g6:=hid (show Blk v4 aa.heap.size #[.slice ra n2 rc] 54 by have e:=gj.out;rw [es] at e;exact e)
 clear es
 go_wp2
 clear d2 d3 d4 d5 d6 d7 d8 d9 eb ed ee ef dj dk dl dm dn dp eg eh ei ej ek em ep eq fh fi e8 fj fk fm fn fo fp fq fr fs ft fu fv fw fx fy fz f0 f1 f2 f3 f4 f5 f6 f7 f8 f9 er ga
 go_loopw [10] (fun i wr=>∃ (k2:Nat) (tk:ByteArray) (mk:KPc),k2≤n2∧i=.int .i64 k2∧runE t (rl.take k2)=(tk,0)∧mk.l=shfL m.l (rl.take k2)∧(Blk wr w.heap.size #[.string tk,.slice mk.a mk.l.length mk.c,.slice (some ad) n fc,.slice ro.a ro.l.length ro.c,.bool false,.slice g.a g.l.length g.c] 26∧Blk wr (w.heap.size+1) #[.string ⟨#[]⟩,.slice none 0 0,.slice none 0 0,.slice none 0 0,.bool false,.slice none 0 0] 26∧Blk wr wX.heap.size #[.slice ea el' ec] 54∧Blk wr aa.heap.size #[.slice ra n2 rc] 54)∧StaO (w.heap.size::(w.heap.size+1)::aa.heap.size::S) wr ⟨t,m,⟨some ad,fl,fc⟩,ro,false,g⟩∧KPo (w.heap.size::(w.heap.size+1)::aa.heap.size::S) wr mk∧EPo (w.heap.size::(w.heap.size+1)::aa.heap.size::S) wr ⟨ea,el,ec⟩∧EPo (w.heap.size::(w.heap.size+1)::aa.heap.size::S) wr ⟨ra,rl,rc⟩∧(bi.heap.size≤wr.heap.size∧Below w.heap.size w wr)) (fun i _=>n2 - (intOf i).toNat)
 case atStart=>exact ⟨0,t,m,Nat.zero_le _,rfl,rfl,rfl,⟨gg.out,gh.out,gi.out,g6.out⟩,gk.out,gk.out.m,g3.out,g4.out,HJ.out,g5.out⟩
 case round =>
  obtain ⟨k2,tk,⟨ma,ml,mc⟩,h9,rfl,hrun,hml,hblk,hsu,hkm,hre,hrq,hsz,hbel⟩:=hrel
  dsimp only at hml hblk
  by_cases hlt:k2<n2
  ·have hkl:k2<rl.length:=by rw [gm.out];exact hlt
   obtain ⟨ae,hae,hab,q0,q1,q2⟩:=hrq.row.at k2 hkl
   simp only at hae
   subst hae
   obtain ⟨tv,et,gn⟩:=tJ hkl ew.out hrun
   have sz:=gx.out.at k2 hkl
   have sp:=gy.out (rl[k2]!) (by rw [eget hkl];exact List.getElem_mem hkl)
   have sn:=lF m.l rl k2 hkl
   have sm:∀ y∈shfL m.l (rl.take k2),-2305843009213693952≤y.p∧y.p≤2305843009213693952:=gw.out k2 (Nat.le_of_lt hkl)
   rw [← hml] at sn sm
   have tz:=(jT HV.out.1 HV.out.2 hrun).2.1
   obtain ⟨x,hx⟩:∃ x,rl[k2]! = x:=⟨_,rfl⟩
   rw [hx] at q0 q1 q2 sz sp sn et
   obtain ⟨p,eo,en⟩:=x
   simp only at q0 q1 q2 sz sp sn et
   have af:=hid (hblk.1)
   have ag:=hid (hblk.2.1)
   have cm:=hid (hblk.2.2.1)
   have dw:=hid (hblk.2.2.2)
   have bj:=hid (hsu)
   have dx:=hid (hkm)
   have bk:=hid (hre)
   have gp:=hid (hrq)
   have ar:=hid (hbel)
   have az:=hid (Nat.le_refl wr.heap.size)
   have e9:=hid hsz
   have ca:=fun W (hW:Below wr.heap.size wr W)=>jW ⟨tk,⟨ma,ml,mc⟩,⟨some ad,fl,fc⟩,ro,false,g⟩ p eo en (w.heap.size::(w.heap.size+1)::aa.heap.size::S) W ⟨hkm.later hW,hsu.u.later hW,hsu.r.later hW,hsu.g.later hW⟩ (fun i hi=>Nat.lt_of_lt_of_le (INQ.out i hi) (Nat.le_trans hsz hW.size)) (by show tk.size≤_;omega) sz.1 sz.2 (by show ml.length≤_;rw [hml,oL];exact gz.out) (by omega) sm
   simp only [Sta.v,Sta.cs,et,HN.out] at ca
   obtain ⟨M,hM⟩:∃ M,shfM ml (shiftI p eo.size en.size)=M:=⟨_,rfl⟩
   rw [hM] at ca sn
   have CA:=hid ca;have SN:=hid sn;have g7:=hid gn
   have habn:∀ i∈(w.heap.size::(w.heap.size+1)::aa.heap.size::S),ae.block≠i:=fun i hi g=>hab.2 (by rw [g];exact hi)
   have fa:=habn w.heap.size (by simp)
   have fb:=hab.1
   have hfs:∀ W:World,(∀ b,b<wr.heap.size→b≠w.heap.size→W.heap[b]? = wr.heap[b]?)→W.cell? ⟨aa.heap.size,0,none⟩=some (.slice (some ae) n2 rc)∧W.cell? (ae.add (k2 * 3))=some (.int .i64 p)∧W.cell? ⟨(ae.add (k2 * 3)).block,(ae.add (k2 * 3)).off+1,none⟩=some (.string eo)∧W.cell? ⟨(ae.add (k2 * 3)).block,(ae.add (k2 * 3)).off+2,none⟩=some (.string en):=fun W hW=>⟨(World.cell?_of_block (w:=wr) (hW _ dw.out.lt (by show aa.heap.size≠w.heap.size;omega))).trans (dw.out.cell 0 _ rfl),tV fb fa hW q0 q1 q2⟩
   have FS:=hid hfs
   have b0:(0:Int)≤(k2:Int):=by omega
   have b1:(k2:Int)<(n2:Int):=by omega
   clear hfs ca sn gn et hsu hkm hre hrq hblk hbel hsz hml hrun habn hab fa fb sm sz sp tz hkl hx
   obtain ⟨ak,al,am,an,ao,aq,a0,a1,a2,a3,a4,a5⟩:=af.out.all6
   obtain ⟨a6,a7,a8,a9,ba,bb,bc,bd,be,bf,bg,bh⟩:=ag.out.all6
   obtain ⟨dq,dr⟩:=cm.out.all1
   obtain ⟨gb,gc⟩:=dw.out.all1
   have qa:wr.drew.cell? ⟨w.heap.size,0,none⟩=some (.string tk)∧wr.drew.cell? ⟨w.heap.size,1,none⟩=some (.slice ma ml.length mc)∧wr.drew.cell? ⟨w.heap.size,2,none⟩=some (.slice (some ad) n fc)∧wr.drew.cell? ⟨w.heap.size,3,none⟩=some (.slice ro.a ro.l.length ro.c)∧wr.drew.cell? ⟨w.heap.size,4,none⟩=some (.bool false)∧wr.drew.cell? ⟨w.heap.size,5,none⟩=some (.slice g.a g.l.length g.c):=⟨ak,al,am,an,ao,aq⟩
   obtain ⟨qa0,qa1,qa2,qa3,qa4,qa5⟩:=qa
   go_wp2_with fail
   have g8:=hid (FS.out wr.drew (fun _ _ _=>rfl))
   clear ak al am an ao aq a0 a1 a2 a3 a4 a5 a6 a7 a8 a9 ba bb bc bd be bf bg bh dq dr gb gc
   clear q0 q1 q2
   refine wp_region_held_drew (S:=(fun W:World=>W.cell? ⟨aa.heap.size,0,none⟩=some (.slice (some ae) n2 rc)∧W.cell? (ae.add (k2 * 3))=some (.int .i64 p)∧W.cell? ⟨(ae.add (k2 * 3)).block,(ae.add (k2 * 3)).off+1,none⟩=some (.string eo)∧W.cell? ⟨(ae.add (k2 * 3)).block,(ae.add (k2 * 3)).off+2,none⟩=some (.string en))) (by kernel_rfl) g8.out (fun hHeld=>?_)
   refine sqt 1 ?_
   refine sqt 2 ?_
   refine sqt 3 ?_
   refine sqt 4 ?_
   refine sqt 5 ?_
   refine sqr 0 fun K hK=>?_
   go_simp
   skip
   try go_wp2_with fail
   refine hK.out _ _ ?_ (fun hHeld=>?_)
   ·exact hHeld
   clear hK K
   try simp only [Act.put,sqp]
   refine sqr 6 fun K hK=>?_
   go_simp
   (go_at_call 75;refine (CA.out _ (Below.refl _ _).drew).mono ?_;rintro e w1 ⟨na,nc,rfl,hm,hb⟩;have hb':Below wr.heap.size wr w1:=(Below.refl _ _).drew.trans hb)
   try go_wp2_with fail
   refine hK.out _ _ ?_ (fun hHeld=>?_)
   ·exact FS.out _ (fun b g9 _=>hb'.block b g9)
   clear hK K
   try simp only [Act.put,sqp]
   have ah:=hid (af.out.onto hb')
   have ai:=hid (ag.out.onto hb')
   have aj:=hid (cm.out.onto hb')
   have fd:=hid (dw.out.onto hb')
   have ab:=hid (bj.out.later hb')
   have dy:=hid (dx.out.later hb')
   have ac:=hid (bk.out.later hb')
   have gq:=hid (gp.out.later hb')
   have au:=hid (ar.out.trans (hb'.mono ar.out.size))
   have av:=hid (Nat.le_trans az.out hb'.size)
   have gs:=hid hm;have ha:=hid hb'
   have hc:=hid (Nat.le_trans e9.out hb'.size)
   clear hm hb hb' CA qa0 qa1 qa2 qa3 qa4 qa5 af ag cm dw bj dx bk gp ar az
   obtain ⟨bn,bo,bp,bq,br,bs,bu,bv,bw,bx,bz,b3⟩:=ah.out.all6
   obtain ⟨b4,b5,b6,b7,b8,b9,cb,cc,cd,ce,cf,cg⟩:=ai.out.all6
   obtain ⟨ch,cj⟩:=aj.out.all1
   obtain ⟨hq,hs⟩:=fd.out.all1
   refine sqr 7 fun K hK=>?_
   go_simp
   skip
   try go_wp2_with fail
   refine hK.out _ _ ?_ (fun hHeld=>?_)
   ·exact FS.out _ (uM ha.out)
   clear hK K
   try simp only [Act.put,sqp]
   refine wpAnyH_done (by kernel_rfl) ?_ _
   have kA:Blk ((((((w1.setCell ⟨w.heap.size,0,none⟩ (.string tv)).setCell ⟨w.heap.size,1,none⟩ (.slice na M.length nc)).setCell ⟨w.heap.size,2,none⟩ (.slice (some ad) n fc)).setCell ⟨w.heap.size,3,none⟩ (.slice ro.a ro.l.length ro.c)).setCell ⟨w.heap.size,4,none⟩ (.bool false)).setCell ⟨w.heap.size,5,none⟩ (.slice g.a g.l.length g.c)) (w.heap.size) #[.string tv,.slice na M.length nc,.slice (some ad) n fc,.slice ro.a ro.l.length ro.c,.bool false,.slice g.a g.l.length g.c] 26:=((((((ah.out.set 0 _).set 1 _).set 2 _).set 3 _).set 4 _).set 5 _)
   have kC:Blk ((((((w1.setCell ⟨w.heap.size,0,none⟩ (.string tv)).setCell ⟨w.heap.size,1,none⟩ (.slice na M.length nc)).setCell ⟨w.heap.size,2,none⟩ (.slice (some ad) n fc)).setCell ⟨w.heap.size,3,none⟩ (.slice ro.a ro.l.length ro.c)).setCell ⟨w.heap.size,4,none⟩ (.bool false)).setCell ⟨w.heap.size,5,none⟩ (.slice g.a g.l.length g.c)) (w.heap.size+1) #[.string ⟨#[]⟩,.slice none 0 0,.slice none 0 0,.slice none 0 0,.bool false,.slice none 0 0] 26:=((((((ai.out.other ⟨w.heap.size,0,none⟩ (by show w.heap.size≠w.heap.size+1;omega) _).other ⟨w.heap.size,1,none⟩ (by show w.heap.size≠w.heap.size+1;omega) _).other ⟨w.heap.size,2,none⟩ (by show w.heap.size≠w.heap.size+1;omega) _).other ⟨w.heap.size,3,none⟩ (by show w.heap.size≠w.heap.size+1;omega) _).other ⟨w.heap.size,4,none⟩ (by show w.heap.size≠w.heap.size+1;omega) _).other ⟨w.heap.size,5,none⟩ (by show w.heap.size≠w.heap.size+1;omega) _)
   have kP:Blk ((((((w1.setCell ⟨w.heap.size,0,none⟩ (.string tv)).setCell ⟨w.heap.size,1,none⟩ (.slice na M.length nc)).setCell ⟨w.heap.size,2,none⟩ (.slice (some ad) n fc)).setCell ⟨w.heap.size,3,none⟩ (.slice ro.a ro.l.length ro.c)).setCell ⟨w.heap.size,4,none⟩ (.bool false)).setCell ⟨w.heap.size,5,none⟩ (.slice g.a g.l.length g.c)) (wX.heap.size) #[.slice ea el' ec] 54:=((((((aj.out.other ⟨w.heap.size,0,none⟩ (by show w.heap.size≠wX.heap.size;omega) _).other ⟨w.heap.size,1,none⟩ (by show w.heap.size≠wX.heap.size;omega) _).other ⟨w.heap.size,2,none⟩ (by show w.heap.size≠wX.heap.size;omega) _).other ⟨w.heap.size,3,none⟩ (by show w.heap.size≠wX.heap.size;omega) _).other ⟨w.heap.size,4,none⟩ (by show w.heap.size≠wX.heap.size;omega) _).other ⟨w.heap.size,5,none⟩ (by show w.heap.size≠wX.heap.size;omega) _)
   have kQ:Blk ((((((w1.setCell ⟨w.heap.size,0,none⟩ (.string tv)).setCell ⟨w.heap.size,1,none⟩ (.slice na M.length nc)).setCell ⟨w.heap.size,2,none⟩ (.slice (some ad) n fc)).setCell ⟨w.heap.size,3,none⟩ (.slice ro.a ro.l.length ro.c)).setCell ⟨w.heap.size,4,none⟩ (.bool false)).setCell ⟨w.heap.size,5,none⟩ (.slice g.a g.l.length g.c)) (aa.heap.size) #[.slice (some ae) n2 rc] 54:=((((((fd.out.other ⟨w.heap.size,0,none⟩ (by show w.heap.size≠aa.heap.size;omega) _).other ⟨w.heap.size,1,none⟩ (by show w.heap.size≠aa.heap.size;omega) _).other ⟨w.heap.size,2,none⟩ (by show w.heap.size≠aa.heap.size;omega) _).other ⟨w.heap.size,3,none⟩ (by show w.heap.size≠aa.heap.size;omega) _).other ⟨w.heap.size,4,none⟩ (by show w.heap.size≠aa.heap.size;omega) _).other ⟨w.heap.size,5,none⟩ (by show w.heap.size≠aa.heap.size;omega) _)
   have ap:Apart (w.heap.size::(w.heap.size+1)::aa.heap.size::S) w1 ((((((w1.setCell ⟨w.heap.size,0,none⟩ (.string tv)).setCell ⟨w.heap.size,1,none⟩ (.slice na M.length nc)).setCell ⟨w.heap.size,2,none⟩ (.slice (some ad) n fc)).setCell ⟨w.heap.size,3,none⟩ (.slice ro.a ro.l.length ro.c)).setCell ⟨w.heap.size,4,none⟩ (.bool false)).setCell ⟨w.heap.size,5,none⟩ (.slice g.a g.l.length g.c)):=((((((Apart.refl (w.heap.size::(w.heap.size+1)::aa.heap.size::S) w1).setCell (p:=⟨w.heap.size,0,none⟩) (.inl (by simp)) _).setCell (p:=⟨w.heap.size,1,none⟩) (.inl (by simp)) _).setCell (p:=⟨w.heap.size,2,none⟩) (.inl (by simp)) _).setCell (p:=⟨w.heap.size,3,none⟩) (.inl (by simp)) _).setCell (p:=⟨w.heap.size,4,none⟩) (.inl (by simp)) _).setCell (p:=⟨w.heap.size,5,none⟩) (.inl (by simp)) _
   have rU:=ab.out.apart ap
   have rK:=dy.out.apart ap
   have rE:=ac.out.apart ap
   have rQ:=gq.out.apart ap
   have rM:=gs.out.apart ap
   have hB:=(((((((au.out.setCell (p:=⟨w.heap.size,0,none⟩) (by show w.heap.size≤w.heap.size;omega) _).setCell (p:=⟨w.heap.size,1,none⟩) (by show w.heap.size≤w.heap.size;omega) _).setCell (p:=⟨w.heap.size,2,none⟩) (by show w.heap.size≤w.heap.size;omega) _).setCell (p:=⟨w.heap.size,3,none⟩) (by show w.heap.size≤w.heap.size;omega) _).setCell (p:=⟨w.heap.size,4,none⟩) (by show w.heap.size≤w.heap.size;omega) _).setCell (p:=⟨w.heap.size,5,none⟩) (by show w.heap.size≤w.heap.size;omega) _):Below w.heap.size w ((((((w1.setCell ⟨w.heap.size,0,none⟩ (.string tv)).setCell ⟨w.heap.size,1,none⟩ (.slice na M.length nc)).setCell ⟨w.heap.size,2,none⟩ (.slice (some ad) n fc)).setCell ⟨w.heap.size,3,none⟩ (.slice ro.a ro.l.length ro.c)).setCell ⟨w.heap.size,4,none⟩ (.bool false)).setCell ⟨w.heap.size,5,none⟩ (.slice g.a g.l.length g.c)))
   have hz:((((((w1.setCell ⟨w.heap.size,0,none⟩ (.string tv)).setCell ⟨w.heap.size,1,none⟩ (.slice na M.length nc)).setCell ⟨w.heap.size,2,none⟩ (.slice (some ad) n fc)).setCell ⟨w.heap.size,3,none⟩ (.slice ro.a ro.l.length ro.c)).setCell ⟨w.heap.size,4,none⟩ (.bool false)).setCell ⟨w.heap.size,5,none⟩ (.slice g.a g.l.length g.c)).heap.size=w1.heap.size:=by simp
   obtain ⟨v2,fe⟩:∃ V,((((((w1.setCell ⟨w.heap.size,0,none⟩ (.string tv)).setCell ⟨w.heap.size,1,none⟩ (.slice na M.length nc)).setCell ⟨w.heap.size,2,none⟩ (.slice (some ad) n fc)).setCell ⟨w.heap.size,3,none⟩ (.slice ro.a ro.l.length ro.c)).setCell ⟨w.heap.size,4,none⟩ (.bool false)).setCell ⟨w.heap.size,5,none⟩ (.slice g.a g.l.length g.c))=V:=⟨_,rfl⟩
   rw [fe] at kA kC kP kQ rU rK rE rQ rM hB hz
   rw [fe]
   have aw:=hid kA
   have ax:=hid kC
   have ay:=hid kP
   have cn:=hid kQ
   have ck:=hid rU
   have ff:=hid rK
   have bl:=hid rE
   have hd:=hid rQ
   have he:=hid rM
   have bm:=hid hB
   have cl:=hid (Nat.le_trans av.out (Nat.le_of_eq hz.symm))
   clear kA kC kP kQ rU rK rE rQ rM hB hz ap ah ai aj fd ab dy ac gq gs au av
   obtain ⟨co,cq,cr,ct,cu,cv,cw,cx,cy,cz,c3,c4⟩:=aw.out.all6
   obtain ⟨c5,c6,c7,c8,c9,da,db,dc,dd,de,df,dg⟩:=ax.out.all6
   obtain ⟨dh,di⟩:=ay.out.all1
   obtain ⟨dz,d0⟩:=cn.out.all1
   have hf:=hid (show bi.heap.size≤v2.heap.size by rw [← fe];simp only [World.size_setCell];exact hc.out)
   go_wp2
   go_roundw
   case rel=>exact ⟨k2+1,tv,⟨na,M,nc⟩,by omega,by go_num,g7.out,by show M=_;rw [SN.out],⟨aw.out,ax.out,ay.out,cn.out⟩,ck.out,he.out,bl.out,hd.out,hf.out,bm.out⟩
   case measure=>simp [intOf];omega
  ·obtain rfl:k2=n2:=by omega
   rw [← gm.out,List.take_length] at hrun hml
   obtain rfl:t'=tk:=by rw [ew.out] at hrun;exact congrArg Prod.fst hrun
   have af:=hid (hblk.1)
   have ag:=hid (hblk.2.1)
   have cm:=hid (hblk.2.2.1)
   have bj:=hid (hsu)
   have dx:=hid (hkm)
   have bk:=hid (hre)
   have ar:=hid (hbel)
   have az:=hid (Nat.le_refl wr.heap.size)
   have e9:=hid hsz;have gu:=hid hml
   have hg:wr.cell? ⟨aa.heap.size,0,none⟩=some (.slice ra k2 rc):=hblk.2.2.2.cell 0 _ rfl
   clear hblk hsu hkm hre hrq hbel hsz hml hrun
   obtain ⟨ak,al,am,an,ao,aq,a0,a1,a2,a3,a4,a5⟩:=af.out.all6
   obtain ⟨a6,a7,a8,a9,ba,bb,bc,bd,be,bf,bg,bh⟩:=ag.out.all6
   obtain ⟨dq,dr⟩:=cm.out.all1
   have kA:Blk (wr.setCell ⟨w.heap.size,2,none⟩ (.slice (some ad) k fc)) (w.heap.size) #[.string t',.slice ma ml.length mc,.slice (some ad) k fc,.slice ro.a ro.l.length ro.c,.bool false,.slice g.a g.l.length g.c] 26:=(af.out.set 2 _)
   have kC:Blk (wr.setCell ⟨w.heap.size,2,none⟩ (.slice (some ad) k fc)) (w.heap.size+1) #[.string ⟨#[]⟩,.slice none 0 0,.slice none 0 0,.slice none 0 0,.bool false,.slice none 0 0] 26:=(ag.out.other ⟨w.heap.size,2,none⟩ (by show w.heap.size≠w.heap.size+1;omega) _)
   have kP:Blk (wr.setCell ⟨w.heap.size,2,none⟩ (.slice (some ad) k fc)) (wX.heap.size) #[.slice ea el' ec] 54:=(cm.out.other ⟨w.heap.size,2,none⟩ (by show w.heap.size≠wX.heap.size;omega) _)
   have ap:Apart (w.heap.size::(w.heap.size+1)::aa.heap.size::S) wr (wr.setCell ⟨w.heap.size,2,none⟩ (.slice (some ad) k fc)):=(Apart.refl (w.heap.size::(w.heap.size+1)::aa.heap.size::S) wr).setCell (p:=⟨w.heap.size,2,none⟩) (.inl (by simp)) _
   have rU:=bj.out.apart ap
   have rK:=dx.out.apart ap
   have rE:=bk.out.apart ap
   have hB:=((ar.out.setCell (p:=⟨w.heap.size,2,none⟩) (by show w.heap.size≤w.heap.size;omega) _):Below w.heap.size w (wr.setCell ⟨w.heap.size,2,none⟩ (.slice (some ad) k fc)))
   have hz:(wr.setCell ⟨w.heap.size,2,none⟩ (.slice (some ad) k fc)).heap.size=wr.heap.size:=by simp
   obtain ⟨v1,fg⟩:∃ V,(wr.setCell ⟨w.heap.size,2,none⟩ (.slice (some ad) k fc))=V:=⟨_,rfl⟩
   rw [fg] at kA kC kP rU rK rE hB hz
   have ah:=hid kA
   have ai:=hid kC
   have aj:=hid kP
   have ab:=hid rU
   have dy:=hid rK
   have ac:=hid rE
   have au:=hid hB
   have av:=hid (Nat.le_trans az.out (Nat.le_of_eq hz.symm))
   clear kA kC kP rU rK rE hB hz ap af ag cm bj dx bk ar az
   obtain ⟨bn,bo,bp,bq,br,bs,bu,bv,bw,bx,bz,b3⟩:=ah.out.all6
   obtain ⟨b4,b5,b6,b7,b8,b9,cb,cc,cd,ce,cf,cg⟩:=ai.out.all6
   obtain ⟨ch,cj⟩:=aj.out.all1
   have cp:=eX ro.a ro.l ro.c ⟨ea,el,ec⟩ v1 ab.out.r.in ac.out.in (by omega)
   obtain ⟨Q,hQ⟩:∃ Q,(ro.l++[(⟨ea,el,ec⟩:EPc)]).drop (ro.l.length+1 - 16)=Q:=⟨_,rfl⟩
   rw [hQ] at cp
   have HQ:=hid hQ
   have CP:=hid (show Calls prog 76 #[.slice ro.a ro.l.length ro.c,stpV ea el' ec] v1 _ by rw [← gd.out];exact cp)
   clear cp hQ
   have hj:=hid (show bi.heap.size≤v1.heap.size by rw [← fg];simp only [World.size_setCell];exact e9.out)
   go_wp2_with fail
   refine (CP.out).mono ?_;rintro e w2 ⟨za,zc,rfl,hr,hb⟩
   clear ak al am an ao aq a0 a1 a2 a3 a4 a5 a6 a7 a8 a9 ba bb bc bd be bf bg bh dq dr hg fg bn bo bp bq br bs bu bv bw bx bz b3 b4 b5 b6 b7 b8 b9 cb cc cd ce cf cg ch cj
   have aw:=hid (ah.out.onto hb)
   have ax:=hid (ai.out.onto hb)
   have ay:=hid (aj.out.onto hb)
   have ck:=hid (ab.out.later hb)
   have ff:=hid (dy.out.later hb)
   have bl:=hid (ac.out.later hb)
   have bm:=hid (au.out.trans (hb.mono au.out.size))
   have cl:=hid (Nat.le_trans av.out hb.size)
   have gt:=hid (hr.off (S:=(w.heap.size::(w.heap.size+1)::aa.heap.size::S)) (fun i hi=>Nat.lt_of_lt_of_le (INQ.out i hi) hj.out) (fun y hy=>by
    rw [← HQ.out] at hy
    rcases List.mem_append.1 (List.mem_of_mem_drop hy) with h|h
    ·exact (ab.out.r.all y h).later hb
    ·obtain rfl:=List.mem_singleton.1 h
     exact ac.out.later hb))
   clear hb hr CP ah ai aj ab dy ac au av
   obtain ⟨co,cq,cr,ct,cu,cv,cw,cx,cy,cz,c3,c4⟩:=aw.out.all6
   obtain ⟨c5,c6,c7,c8,c9,da,db,dc,dd,de,df,dg⟩:=ax.out.all6
   obtain ⟨dh,di⟩:=ay.out.all1
   have kA:Blk (w2.setCell ⟨w.heap.size,3,none⟩ (.slice za Q.length zc)) (w.heap.size) #[.string t',.slice ma ml.length mc,.slice (some ad) k fc,.slice za Q.length zc,.bool false,.slice g.a g.l.length g.c] 26:=(aw.out.set 3 _)
   have kC:Blk (w2.setCell ⟨w.heap.size,3,none⟩ (.slice za Q.length zc)) (w.heap.size+1) #[.string ⟨#[]⟩,.slice none 0 0,.slice none 0 0,.slice none 0 0,.bool false,.slice none 0 0] 26:=(ax.out.other ⟨w.heap.size,3,none⟩ (by show w.heap.size≠w.heap.size+1;omega) _)
   have kP:Blk (w2.setCell ⟨w.heap.size,3,none⟩ (.slice za Q.length zc)) (wX.heap.size) #[.slice ea el' ec] 54:=(ay.out.other ⟨w.heap.size,3,none⟩ (by show w.heap.size≠wX.heap.size;omega) _)
   have ap:Apart (w.heap.size::(w.heap.size+1)::aa.heap.size::S) w2 (w2.setCell ⟨w.heap.size,3,none⟩ (.slice za Q.length zc)):=(Apart.refl (w.heap.size::(w.heap.size+1)::aa.heap.size::S) w2).setCell (p:=⟨w.heap.size,3,none⟩) (.inl (by simp)) _
   have rU:=ck.out.apart ap
   have rK:=ff.out.apart ap
   have rE:=bl.out.apart ap
   have rZ:=gt.out.apart ap
   have hB:=((bm.out.setCell (p:=⟨w.heap.size,3,none⟩) (by show w.heap.size≤w.heap.size;omega) _):Below w.heap.size w (w2.setCell ⟨w.heap.size,3,none⟩ (.slice za Q.length zc)))
   have hz:(w2.setCell ⟨w.heap.size,3,none⟩ (.slice za Q.length zc)).heap.size=w2.heap.size:=by simp
   obtain ⟨v3,hl⟩:∃ V,(w2.setCell ⟨w.heap.size,3,none⟩ (.slice za Q.length zc))=V:=⟨_,rfl⟩
   rw [hl] at kA kC kP rU rK rE rZ hB hz
   have ds:=hid kA
   have dt:=hid kC
   have du:=hid kP
   have dv:=hid rU
   have ho:=hid rK
   have e6:=hid rE
   have hp:=hid rZ
   have d1:=hid hB
   have e7:=hid (Nat.le_trans cl.out (Nat.le_of_eq hz.symm))
   clear kA kC kP rU rK rE rZ hB hz ap aw ax ay ck ff bl gt bm cl
   obtain ⟨d2,d3,d4,d5,d6,d7,d8,d9,eb,ed,ee,ef⟩:=ds.out.all6
   obtain ⟨dj,dk,dl,dm,dn,dp,eg,eh,ei,ej,ek,em⟩:=dt.out.all6
   obtain ⟨ep,eq⟩:=du.out.all1
   have htk:(fl.take k).length=k:=by rw [List.length_take,HN.out];omega
   go_wp2
   refine bodyPost_ret (v:=.tuple #[staV t' (.slice ma ml.length mc) (.slice (some ad) k fc) (.slice za Q.length zc) false (.slice g.a g.l.length g.c),.int .i64 0]) (by simp [results,results49,go_sem,dj,dk,dl,dm,dn,dp]) rfl ?_
   refine ⟨⟨t',⟨ma,ml,mc⟩,⟨some ad,fl.take k,fc⟩,⟨za,Q,zc⟩,false,g⟩,by unfold Sta.v Sta.cs;simp only [htk],?_,?_,?_⟩
   ·have h3:ml=shfL m.l rl:=gu.out
    have h4:lsP Q=pushL (lsP ro.l) el:=(by rw [← HQ.out,gI,eR];unfold pushL;rw [aC];rfl)
    have h5:lsP (fl.take k)=(lsP fl).take k:=nY _ _
    show (⟨t',ml,lsP (fl.take k),lsP Q,false,g.l⟩:StaD)=_
    rw [h3,h4,h5]
   ·refine StaO.wide (S:=(w.heap.size::(w.heap.size+1)::aa.heap.size::S)) (StaO.apart (w:=v3) ⟨ho.out,(SPo.take dv.out.u k),hp.out,dv.out.g⟩ ?_) (fun i hi=>.inl (by simp [hi]))
    iterate 6 refine Apart.setCell ?_ (.inl (by simp)) _
    exact Apart.refl _ _
   ·iterate 6 refine Below.setCell ?_ (by show w.heap.size≤w.heap.size+1;omega) _
    exact d1.out
set_option maxHeartbeats 800000 in
theorem mV {m:KPc} {u ro:SPc} {g:EPc} (S:List Nat) (w:World) (hin:StaO S w ⟨t,m,u,ro,true,g⟩) (hS:InS S w) (h:InvS (Sta.d ⟨t,m,u,ro,true,g⟩)):Calls prog 49 #[Sta.v ⟨t,m,u,ro,true,g⟩,.bool false] w (RetRD S w (Sta.d ⟨t,m,u,ro,true,g⟩,11)):=by
 have aa:=hid hin
 clear hin hS h
 go_enter func49,ntmps49
 go_wp2
 refine bodyPost_ret (v:=.tuple #[Sta.v ⟨t,m,u,ro,true,g⟩,.int .i64 11]) (by simp [results,results49,go_sem]) rfl ?_
 have hb:=below2 w (.cells #[.string t,.slice m.a m.l.length m.c,.slice u.a u.l.length u.c,.slice ro.a ro.l.length ro.c,.bool true,.slice g.a g.l.length g.c] 26) (.cells #[.string t,.slice m.a m.l.length m.c,.slice u.a u.l.length u.c,.slice ro.a ro.l.length ro.c,.bool true,.slice g.a g.l.length g.c] 26)
 have h2:=aa.out.later hb
 exact ⟨⟨t,m,u,ro,true,g⟩,rfl,rfl,⟨h2.m,h2.u,h2.r,h2.g⟩,hb⟩
set_option maxHeartbeats 800000 in
theorem lK {m:KPc} {u:SPc} {fa:Option Addr} {g:EPc} (S:List Nat) (w:World) (hin:StaO S w ⟨t,m,u,⟨fa,[],fc⟩,false,g⟩) (hS:InS S w) (h:InvS (Sta.d ⟨t,m,u,⟨fa,[],fc⟩,false,g⟩)):Calls prog 49 #[Sta.v ⟨t,m,u,⟨fa,[],fc⟩,false,g⟩,.bool false] w (RetRD S w (Sta.d ⟨t,m,u,⟨fa,[],fc⟩,false,g⟩,10)):=by
 have aa:=hid hin
 clear hin hS h
 show Calls prog 49 #[.agg #[.string t,.slice m.a m.l.length m.c,.slice u.a u.l.length u.c,.slice fa 0 fc,.bool false,.slice g.a g.l.length g.c],.bool false] w _
 go_enter func49,ntmps49
 go_wp2
 refine bodyPost_ret (v:=.tuple #[.agg #[.string t,.slice m.a m.l.length m.c,.slice u.a u.l.length u.c,.slice fa 0 fc,.bool false,.slice g.a g.l.length g.c],.int .i64 10]) (by simp [results,results49,go_sem]) rfl ?_
 have hb:=below2 w (.cells #[.string t,.slice m.a m.l.length m.c,.slice u.a u.l.length u.c,.slice fa 0 fc,.bool false,.slice g.a g.l.length g.c] 26) (.cells #[.string t,.slice m.a m.l.length m.c,.slice u.a u.l.length u.c,.slice fa 0 fc,.bool false,.slice g.a g.l.length g.c] 26)
 have h2:=aa.out.later hb
 exact ⟨⟨t,m,u,⟨fa,[],fc⟩,false,g⟩,rfl,rfl,⟨h2.m,h2.u,h2.r,h2.g⟩,hb⟩
theorem mU {m:KPc} {u ro:SPc} {g:EPc} (S:List Nat) (w:World) (hin:StaO S w ⟨t,m,u,ro,false,g⟩) (hS:InS S w) (h:InvS (Sta.d ⟨t,m,u,ro,false,g⟩)) (h0:ro.l.length=0):Calls prog 49 #[Sta.v ⟨t,m,u,ro,false,g⟩,.bool false] w (RetRD S w (Sta.d ⟨t,m,u,ro,false,g⟩,10)):=by
 obtain ⟨fa,fl,fc⟩:=ro
 obtain rfl:fl=[]:=List.eq_nil_of_length_eq_zero h0
 exact lK S w hin hS h
set_option maxHeartbeats 3200000 in
theorem oH {m:KPc} {u:SPc} {ad:Addr} {fl:List EPc} {g:EPc} (S:List Nat) (w:World) (hin:StaO S w ⟨t,m,u,⟨some ad,fl,fc⟩,false,g⟩) (hS:InS S w) (h:InvS (Sta.d ⟨t,m,u,⟨some ad,fl,fc⟩,false,g⟩)) (k:Nat) (hk:fl.length=k+1):Calls prog 49 #[Sta.v ⟨t,m,u,⟨some ad,fl,fc⟩,false,g⟩,.bool false] w (RetRD S w (redoD (Sta.d ⟨t,m,u,⟨some ad,fl,fc⟩,false,g⟩))):=by
 have hk':(lsP fl).length=k+1:=by rw [aC];exact hk
 have dr:(lsP fl)[k]! = (fl[k]!).l:=cF fl k (by omega)
 obtain ⟨t',hrun,hv,es⟩:=uW h hk'
 have hyes:=sP (s:=Sta.d ⟨t,m,u,⟨some ad,fl,fc⟩,false,g⟩) rfl hk' hrun
 have ga:k≤900:=by have h2:(lsP fl).length≤16:=h.rl.1;omega
 have hlen:=(h.rl.2 _ (cW (L:=lsP fl) (k:=k) (by omega))).2
 have hok:=h.re _ (cW (L:=lsP fl) (k:=k) (by omega))
 have htl:u.l.length≤900:=by
  have h2:(lsP u.l).length≤16:=h.ul.1
  rw [aC] at h2
  omega
 replace hyes:redoD (Sta.d ⟨t,m,u,⟨some ad,fl,fc⟩,false,g⟩)=((⟨t',shfL m.l (lsP fl)[k]!,pushL (lsP u.l) (lsP fl)[k]!,(lsP fl).take k,false,g.l⟩:StaD),0):=hyes
 rw [hyes]
 replace hrun:runE t ((lsP fl)[k]!)=(t',0):=hrun
 replace hok:∀ x∈(lsP fl)[k]!,okE5 x=true:=hok
 rw [dr] at hrun hlen hok ⊢
 obtain ⟨sl,hsl⟩:∃ sl,(fl[k]!).l=sl:=⟨_,rfl⟩
 rw [hsl] at hrun hlen hok ⊢
 have hms:=h.shown hrun
 have hez:=h.edz hok
 have hep:=iK (t:=t) h.z hrun
 have ds:m.l.length≤1000000:=Nat.le_trans h.ml (by decide)
 have hvz:vldB t.data.toList=true∧t.size≤4096:=⟨h.v,h.z⟩
 obtain ⟨n,hn⟩:∃ n,fl.length=n:=⟨_,rfl⟩
 have dt:=hid hrun;have et:=hid hms;have eu:=hid hez;have ev:=hid hep;have ew:=hid ds;have HV:=hid hvz
 have hnk:n=k+1:=by omega
 show Calls prog 49 #[staV t (.slice m.a m.l.length m.c) (.slice u.a u.l.length u.c) (.slice (some ad) fl.length fc) false (.slice g.a g.l.length g.c),.bool false] w _
 rw [hn]
 clear hrun hms hez hep ds hyes hok dr hk' hv hvz es hk
 obtain ⟨wX,hwX,kA,kC,du,hz⟩:=box2 w #[.string t,.slice m.a m.l.length m.c,.slice u.a u.l.length u.c,.slice (some ad) n fc,.bool false,.slice g.a g.l.length g.c] #[.string ⟨#[]⟩,.slice none 0 0,.slice none 0 0,.slice none 0 0,.bool false,.slice none 0 0] 26 26
 have inT:∀ i∈(w.heap.size::(w.heap.size+1)::S),i<wX.heap.size:=fun i hi=>by
  simp only [List.mem_cons] at hi
  rcases hi with rfl|rfl|hi
  ·omega
  ·omega
  ·have:=hS i hi;omega
 have rU:StaO (w.heap.size::(w.heap.size+1)::S) wX ⟨t,m,u,⟨some ad,fl,fc⟩,false,g⟩:=(hin.wide (S':=(w.heap.size::(w.heap.size+1)::S)) (fun i hi=>by simp only [List.mem_cons] at hi;rcases hi with rfl|rfl|hi;exact .inr (Nat.le_refl _);exact .inr (Nat.le_succ _);exact .inl hi)).later du
 have af:=hid (kA)
 have ag:=hid (kC)
 have bi:=hid (rU)
 have ar:=hid (du)
 have aw:=hid (Nat.le_refl wX.heap.size)
 obtain ⟨ad',e',hab,q0⟩:=rU.r.in.row k (by show k<fl.length;omega)
 obtain rfl:ad=ad':=by injection e'
 have rE:EPo (w.heap.size::(w.heap.size+1)::S) wX fl[k]! :=rU.r.all _ (by rw [epget (show k<fl.length by omega)];exact List.getElem_mem (show k<fl.length by omega))
 obtain ⟨st,hst⟩:∃ st,fl[k]! = st:=⟨_,rfl⟩
 rw [hst] at q0 rE hsl
 obtain ⟨ea,el,ec⟩:=st
 simp only at hsl
 subst hsl
 simp only [EPc.v] at q0
 have bj:=hid rE;have INT:=hid inT
 have hzl:w.heap.size+1<wX.heap.size:=by omega
 have gb:(k:Int)≤(fc:Int):=by have:=rU.r.le;have h3:fl.length≤fc:=this;omega
 have kn1:(n:Int) - 1=(k:Int):=by omega
 have kn2:(0:Int)≤(k:Int):=by omega
 have kn3:(k:Int)<(n:Int):=by omega
 have kn4:¬ (n:Int)=0:=by omega
 have kn5:((n:Int) == 0)=false:=beq_eq_false_iff_ne.2 kn4
 obtain ⟨el',hel'⟩:∃ x,el.length=x:=⟨_,rfl⟩
 have eg:=hid hel'
 have dv:el.length≤32:=hlen
 have gc:=hid dv
 clear dv
 rw [hel'] at q0 hlen
 have HN:=hid hn;have gd:=hid hst
 clear kA kC rU du inT hin hS hz rE e' hab hn hst h hel' hnk
 obtain ⟨ak,al,am,an,ao,aq,ax,ay,az,a0,a1,a2⟩:=af.out.all6
 obtain ⟨a3,a4,a5,a6,a7,a8,a9,ba,bb,bc,bd,be⟩:=ag.out.all6
 go_enter func49,ntmps49
 have f8:wX.heap.size≤wX.heap.size:=aw.out
 obtain ⟨aa,hwA0,kA,hbA,hzA⟩:=box1 wX #[.slice ea el' ec] 54
 have ah:=hid (af.out.onto hbA)
 have ai:=hid (ag.out.onto hbA)
 have ab:=hid (bi.out.later hbA)
 have ac:=hid (bj.out.later hbA)
 have au:=hid (ar.out.trans (hbA.mono ar.out.size))
 have av:=hid (Nat.le_trans aw.out hbA.size)
 have aj:=hid kA
 have dw:wX.heap.size<aa.heap.size:=by omega
 have gf:=hid dw
 clear kA hbA hzA dw af ag bi bj ar aw
 obtain ⟨bk,bl,bm,bn,bo,bp,bq,br,bs,bu,bv,bw⟩:=ah.out.all6
 obtain ⟨bx,bz,b3,b4,b5,b6,b7,b8,b9,cb,cc,cd⟩:=ai.out.all6
 obtain ⟨ce,cf⟩:=aj.out.all1
 replace ab:=hid (ab.out.wide (S':=(w.heap.size::(w.heap.size+1)::aa.heap.size::S)) (fun i hi=>by simp only [List.mem_cons] at hi;rcases hi with rfl|rfl|rfl|hi;exact .inl (by simp);exact .inl (by simp);exact .inr (Nat.le_refl _);exact .inl (by simp [hi])))
 replace ac:=hid (ac.out.wide (S':=(w.heap.size::(w.heap.size+1)::aa.heap.size::S)) (fun i hi=>by simp only [List.mem_cons] at hi;rcases hi with rfl|rfl|rfl|hi;exact .inl (by simp);exact .inl (by simp);exact .inr (Nat.le_refl _);exact .inl (by simp [hi])))
 have hxq:w.heap.size+1<aa.heap.size:=by have:=av.out;omega
 have f9:wX.heap.size≤aa.heap.size:=av.out
 obtain ⟨cj,hwA1,kA,hbA,hzA⟩:=box1 aa #[.slice ea el' ec] 54
 have bf:=hid (ah.out.onto hbA)
 have bg:=hid (ai.out.onto hbA)
 have bh:=hid (aj.out.onto hbA)
 have cg:=hid (ab.out.later hbA)
 have ch:=hid (ac.out.later hbA)
 have ck:=hid (au.out.trans (hbA.mono au.out.size))
 have di:=hid (Nat.le_trans av.out hbA.size)
 have dj:=hid kA
 have dx:aa.heap.size<cj.heap.size:=by omega
 have ey:=hid dx
 clear kA hbA hzA dx ah ai aj ab ac au av
 obtain ⟨cl,cm,cn,co,cq,cr,ct,cu,cv,cw,cx,cy⟩:=bf.out.all6
 obtain ⟨cz,c3,c4,c5,c6,c7,c8,c9,da,db,dc,dd⟩:=bg.out.all6
 obtain ⟨de,df⟩:=bh.out.all1
 obtain ⟨dn,dp⟩:=dj.out.all1
 have INQ:=hid (show ∀ i∈(w.heap.size::(w.heap.size+1)::aa.heap.size::S),i<cj.heap.size from fun i hi=>by
  have h1:=di.out;have h2:=ey.out
  simp only [List.mem_cons] at hi
  rcases hi with rfl|rfl|rfl|hi
  ·omega
  ·omega
  ·exact h2
  ·exact Nat.lt_of_lt_of_le (INT.out i (by simp [hi])) h1)
 have HJ:=hid (Nat.le_refl cj.heap.size)
 obtain ⟨n2,dy⟩:∃ x,el.length=x:=⟨_,rfl⟩
 have eh:=hid dy
 obtain rfl:n2=el':=by rw [← dy];exact eg.out
 have gg:n2≤32:=by omega
 have e0:=hid dj.out
 clear dy
 go_wp2
 clear q0 hwX ak al am an ao aq ax ay az a0 a1 a2 a3 a4 a5 a6 a7 a8 a9 ba bb bc bd be hwA0 bk bl bm bn bo bp bq br bs bu bv bw bx bz b3 b4 b5 b6 b7 b8 b9 cb cc cd ce cf hwA1 cl cm cn co cq cr ct cu cv cw cx cy cz c3 c4 c5 c6 c7 c8 c9 da db dc dd de df dn dp
 go_loopw [10] (fun i wr=>∃ (k2:Nat) (tk:ByteArray) (mk:KPc),k2≤n2∧i=.int .i64 k2∧runE t (el.take k2)=(tk,0)∧mk.l=shfL m.l (el.take k2)∧(Blk wr w.heap.size #[.string tk,.slice mk.a mk.l.length mk.c,.slice u.a u.l.length u.c,.slice (some ad) n fc,.bool false,.slice g.a g.l.length g.c] 26∧Blk wr (w.heap.size+1) #[.string ⟨#[]⟩,.slice none 0 0,.slice none 0 0,.slice none 0 0,.bool false,.slice none 0 0] 26∧Blk wr wX.heap.size #[.slice ea n2 ec] 54∧Blk wr aa.heap.size #[.slice ea n2 ec] 54)∧StaO (w.heap.size::(w.heap.size+1)::aa.heap.size::S) wr ⟨t,m,u,⟨some ad,fl,fc⟩,false,g⟩∧KPo (w.heap.size::(w.heap.size+1)::aa.heap.size::S) wr mk∧EPo (w.heap.size::(w.heap.size+1)::aa.heap.size::S) wr ⟨ea,el,ec⟩∧EPo (w.heap.size::(w.heap.size+1)::aa.heap.size::S) wr ⟨ea,el,ec⟩∧(cj.heap.size≤wr.heap.size∧Below w.heap.size w wr)) (fun i _=>n2 - (intOf i).toNat)
 case atStart=>exact ⟨0,t,m,Nat.zero_le _,rfl,rfl,rfl,⟨bf.out,bg.out,bh.out,e0.out⟩,cg.out,cg.out.m,ch.out,ch.out,HJ.out,ck.out⟩
 case round =>
  obtain ⟨k2,tk,⟨ma,ml,mc⟩,gh,rfl,hrun,hml,hblk,hsu,hkm,hre,hrq,hsz,hbel⟩:=hrel
  dsimp only at hml hblk
  by_cases hlt:k2<n2
  ·have hkl:k2<el.length:=by rw [eh.out];exact hlt
   obtain ⟨ae,hae,hab,q0,q1,q2⟩:=hrq.row.at k2 hkl
   simp only at hae
   subst hae
   obtain ⟨tv,dq,ei⟩:=tJ hkl dt.out hrun
   have sz:=eu.out.at k2 hkl
   have sp:=ev.out (el[k2]!) (by rw [eget hkl];exact List.getElem_mem hkl)
   have sn:=lF m.l el k2 hkl
   have sm:∀ y∈shfL m.l (el.take k2),-2305843009213693952≤y.p∧y.p≤2305843009213693952:=et.out k2 (Nat.le_of_lt hkl)
   rw [← hml] at sn sm
   have tz:=(jT HV.out.1 HV.out.2 hrun).2.1
   obtain ⟨x,hx⟩:∃ x,el[k2]! = x:=⟨_,rfl⟩
   rw [hx] at q0 q1 q2 sz sp sn dq
   obtain ⟨p,eo,en⟩:=x
   simp only at q0 q1 q2 sz sp sn dq
   have af:=hid (hblk.1)
   have ag:=hid (hblk.2.1)
   have ci:=hid (hblk.2.2.1)
   have dk:=hid (hblk.2.2.2)
   have bi:=hid (hsu)
   have dl:=hid (hkm)
   have bj:=hid (hre)
   have ej:=hid (hrq)
   have ar:=hid (hbel)
   have aw:=hid (Nat.le_refl wr.heap.size)
   have dz:=hid hsz
   have ca:=fun W (hW:Below wr.heap.size wr W)=>jW ⟨tk,⟨ma,ml,mc⟩,u,⟨some ad,fl,fc⟩,false,g⟩ p eo en (w.heap.size::(w.heap.size+1)::aa.heap.size::S) W ⟨hkm.later hW,hsu.u.later hW,hsu.r.later hW,hsu.g.later hW⟩ (fun i hi=>Nat.lt_of_lt_of_le (INQ.out i hi) (Nat.le_trans hsz hW.size)) (by show tk.size≤_;omega) sz.1 sz.2 (by show ml.length≤_;rw [hml,oL];exact ew.out) (by omega) sm
   simp only [Sta.v,Sta.cs,dq,HN.out] at ca
   obtain ⟨M,hM⟩:∃ M,shfM ml (shiftI p eo.size en.size)=M:=⟨_,rfl⟩
   rw [hM] at ca sn
   have CA:=hid ca;have SN:=hid sn;have e3:=hid ei
   have habn:∀ i∈(w.heap.size::(w.heap.size+1)::aa.heap.size::S),ae.block≠i:=fun i hi g=>hab.2 (by rw [g];exact hi)
   have d0:=habn w.heap.size (by simp)
   have d1:=hab.1
   have hfs:∀ W:World,(∀ b,b<wr.heap.size→b≠w.heap.size→W.heap[b]? = wr.heap[b]?)→W.cell? ⟨aa.heap.size,0,none⟩=some (.slice (some ae) n2 ec)∧W.cell? (ae.add (k2 * 3))=some (.int .i64 p)∧W.cell? ⟨(ae.add (k2 * 3)).block,(ae.add (k2 * 3)).off+1,none⟩=some (.string eo)∧W.cell? ⟨(ae.add (k2 * 3)).block,(ae.add (k2 * 3)).off+2,none⟩=some (.string en):=fun W hW=>⟨(World.cell?_of_block (w:=wr) (hW _ dk.out.lt (by show aa.heap.size≠w.heap.size;omega))).trans (dk.out.cell 0 _ rfl),tV d1 d0 hW q0 q1 q2⟩
   have FS:=hid hfs
   have b0:(0:Int)≤(k2:Int):=by omega
   have b1:(k2:Int)<(n2:Int):=by omega
   clear hfs ca sn ei dq hsu hkm hre hrq hblk hbel hsz hml hrun habn hab d0 d1 sm sz sp tz hkl hx
   obtain ⟨ak,al,am,an,ao,aq,ax,ay,az,a0,a1,a2⟩:=af.out.all6
   obtain ⟨a3,a4,a5,a6,a7,a8,a9,ba,bb,bc,bd,be⟩:=ag.out.all6
   obtain ⟨dg,dh⟩:=ci.out.all1
   obtain ⟨d6,d7⟩:=dk.out.all1
   have qa:wr.drew.cell? ⟨w.heap.size,0,none⟩=some (.string tk)∧wr.drew.cell? ⟨w.heap.size,1,none⟩=some (.slice ma ml.length mc)∧wr.drew.cell? ⟨w.heap.size,2,none⟩=some (.slice u.a u.l.length u.c)∧wr.drew.cell? ⟨w.heap.size,3,none⟩=some (.slice (some ad) n fc)∧wr.drew.cell? ⟨w.heap.size,4,none⟩=some (.bool false)∧wr.drew.cell? ⟨w.heap.size,5,none⟩=some (.slice g.a g.l.length g.c):=⟨ak,al,am,an,ao,aq⟩
   obtain ⟨qa0,qa1,qa2,qa3,qa4,qa5⟩:=qa
   go_wp2_with fail
   have e4:=hid (FS.out wr.drew (fun _ _ _=>rfl))
   clear ak al am an ao aq ax ay az a0 a1 a2 a3 a4 a5 a6 a7 a8 a9 ba bb bc bd be dg dh d6 d7
   clear q0 q1 q2
   refine wp_region_held_drew (S:=(fun W:World=>W.cell? ⟨aa.heap.size,0,none⟩=some (.slice (some ae) n2 ec)∧W.cell? (ae.add (k2 * 3))=some (.int .i64 p)∧W.cell? ⟨(ae.add (k2 * 3)).block,(ae.add (k2 * 3)).off+1,none⟩=some (.string eo)∧W.cell? ⟨(ae.add (k2 * 3)).block,(ae.add (k2 * 3)).off+2,none⟩=some (.string en))) (by kernel_rfl) e4.out (fun hHeld=>?_)
   refine sqt 1 ?_
   refine sqt 2 ?_
   refine sqt 3 ?_
   refine sqt 4 ?_
   refine sqt 5 ?_
   refine sqr 0 fun K hK=>?_
   go_simp
   skip
   try go_wp2_with fail
   refine hK.out _ _ ?_ (fun hHeld=>?_)
   ·exact hHeld
   clear hK K
   try simp only [Act.put,sqp]
   refine sqr 6 fun K hK=>?_
   go_simp
   (go_at_call 75;refine (CA.out _ (Below.refl _ _).drew).mono ?_;rintro e w1 ⟨na,nc,rfl,hm,hb⟩;have hb':Below wr.heap.size wr w1:=(Below.refl _ _).drew.trans hb)
   try go_wp2_with fail
   refine hK.out _ _ ?_ (fun hHeld=>?_)
   ·exact FS.out _ (fun b e5 _=>hb'.block b e5)
   clear hK K
   try simp only [Act.put,sqp]
   have ah:=hid (af.out.onto hb')
   have ai:=hid (ag.out.onto hb')
   have aj:=hid (ci.out.onto hb')
   have d2:=hid (dk.out.onto hb')
   have ab:=hid (bi.out.later hb')
   have dm:=hid (dl.out.later hb')
   have ac:=hid (bj.out.later hb')
   have ek:=hid (ej.out.later hb')
   have au:=hid (ar.out.trans (hb'.mono ar.out.size))
   have av:=hid (Nat.le_trans aw.out hb'.size)
   have em:=hid hm;have e6:=hid hb'
   have e7:=hid (Nat.le_trans dz.out hb'.size)
   clear hm hb hb' CA qa0 qa1 qa2 qa3 qa4 qa5 af ag ci dk bi dl bj ej ar aw
   obtain ⟨bk,bl,bm,bn,bo,bp,bq,br,bs,bu,bv,bw⟩:=ah.out.all6
   obtain ⟨bx,bz,b3,b4,b5,b6,b7,b8,b9,cb,cc,cd⟩:=ai.out.all6
   obtain ⟨ce,cf⟩:=aj.out.all1
   obtain ⟨fm,fn⟩:=d2.out.all1
   refine sqr 7 fun K hK=>?_
   go_simp
   skip
   try go_wp2_with fail
   refine hK.out _ _ ?_ (fun hHeld=>?_)
   ·exact FS.out _ (uM e6.out)
   clear hK K
   try simp only [Act.put,sqp]
   refine wpAnyH_done (by kernel_rfl) ?_ _
   have kA:Blk ((((((w1.setCell ⟨w.heap.size,0,none⟩ (.string tv)).setCell ⟨w.heap.size,1,none⟩ (.slice na M.length nc)).setCell ⟨w.heap.size,2,none⟩ (.slice u.a u.l.length u.c)).setCell ⟨w.heap.size,3,none⟩ (.slice (some ad) n fc)).setCell ⟨w.heap.size,4,none⟩ (.bool false)).setCell ⟨w.heap.size,5,none⟩ (.slice g.a g.l.length g.c)) (w.heap.size) #[.string tv,.slice na M.length nc,.slice u.a u.l.length u.c,.slice (some ad) n fc,.bool false,.slice g.a g.l.length g.c] 26:=((((((ah.out.set 0 _).set 1 _).set 2 _).set 3 _).set 4 _).set 5 _)
   have kC:Blk ((((((w1.setCell ⟨w.heap.size,0,none⟩ (.string tv)).setCell ⟨w.heap.size,1,none⟩ (.slice na M.length nc)).setCell ⟨w.heap.size,2,none⟩ (.slice u.a u.l.length u.c)).setCell ⟨w.heap.size,3,none⟩ (.slice (some ad) n fc)).setCell ⟨w.heap.size,4,none⟩ (.bool false)).setCell ⟨w.heap.size,5,none⟩ (.slice g.a g.l.length g.c)) (w.heap.size+1) #[.string ⟨#[]⟩,.slice none 0 0,.slice none 0 0,.slice none 0 0,.bool false,.slice none 0 0] 26:=((((((ai.out.other ⟨w.heap.size,0,none⟩ (by show w.heap.size≠w.heap.size+1;omega) _).other ⟨w.heap.size,1,none⟩ (by show w.heap.size≠w.heap.size+1;omega) _).other ⟨w.heap.size,2,none⟩ (by show w.heap.size≠w.heap.size+1;omega) _).other ⟨w.heap.size,3,none⟩ (by show w.heap.size≠w.heap.size+1;omega) _).other ⟨w.heap.size,4,none⟩ (by show w.heap.size≠w.heap.size+1;omega) _).other ⟨w.heap.size,5,none⟩ (by show w.heap.size≠w.heap.size+1;omega) _)
   have kP:Blk ((((((w1.setCell ⟨w.heap.size,0,none⟩ (.string tv)).setCell ⟨w.heap.size,1,none⟩ (.slice na M.length nc)).setCell ⟨w.heap.size,2,none⟩ (.slice u.a u.l.length u.c)).setCell ⟨w.heap.size,3,none⟩ (.slice (some ad) n fc)).setCell ⟨w.heap.size,4,none⟩ (.bool false)).setCell ⟨w.heap.size,5,none⟩ (.slice g.a g.l.length g.c)) (wX.heap.size) #[.slice (some ae) n2 ec] 54:=((((((aj.out.other ⟨w.heap.size,0,none⟩ (by show w.heap.size≠wX.heap.size;omega) _).other ⟨w.heap.size,1,none⟩ (by show w.heap.size≠wX.heap.size;omega) _).other ⟨w.heap.size,2,none⟩ (by show w.heap.size≠wX.heap.size;omega) _).other ⟨w.heap.size,3,none⟩ (by show w.heap.size≠wX.heap.size;omega) _).other ⟨w.heap.size,4,none⟩ (by show w.heap.size≠wX.heap.size;omega) _).other ⟨w.heap.size,5,none⟩ (by show w.heap.size≠wX.heap.size;omega) _)
   have kQ:Blk ((((((w1.setCell ⟨w.heap.size,0,none⟩ (.string tv)).setCell ⟨w.heap.size,1,none⟩ (.slice na M.length nc)).setCell ⟨w.heap.size,2,none⟩ (.slice u.a u.l.length u.c)).setCell ⟨w.heap.size,3,none⟩ (.slice (some ad) n fc)).setCell ⟨w.heap.size,4,none⟩ (.bool false)).setCell ⟨w.heap.size,5,none⟩ (.slice g.a g.l.length g.c)) (aa.heap.size) #[.slice (some ae) n2 ec] 54:=((((((d2.out.other ⟨w.heap.size,0,none⟩ (by show w.heap.size≠aa.heap.size;omega) _).other ⟨w.heap.size,1,none⟩ (by show w.heap.size≠aa.heap.size;omega) _).other ⟨w.heap.size,2,none⟩ (by show w.heap.size≠aa.heap.size;omega) _).other ⟨w.heap.size,3,none⟩ (by show w.heap.size≠aa.heap.size;omega) _).other ⟨w.heap.size,4,none⟩ (by show w.heap.size≠aa.heap.size;omega) _).other ⟨w.heap.size,5,none⟩ (by show w.heap.size≠aa.heap.size;omega) _)
   have ap:Apart (w.heap.size::(w.heap.size+1)::aa.heap.size::S) w1 ((((((w1.setCell ⟨w.heap.size,0,none⟩ (.string tv)).setCell ⟨w.heap.size,1,none⟩ (.slice na M.length nc)).setCell ⟨w.heap.size,2,none⟩ (.slice u.a u.l.length u.c)).setCell ⟨w.heap.size,3,none⟩ (.slice (some ad) n fc)).setCell ⟨w.heap.size,4,none⟩ (.bool false)).setCell ⟨w.heap.size,5,none⟩ (.slice g.a g.l.length g.c)):=((((((Apart.refl (w.heap.size::(w.heap.size+1)::aa.heap.size::S) w1).setCell (p:=⟨w.heap.size,0,none⟩) (.inl (by simp)) _).setCell (p:=⟨w.heap.size,1,none⟩) (.inl (by simp)) _).setCell (p:=⟨w.heap.size,2,none⟩) (.inl (by simp)) _).setCell (p:=⟨w.heap.size,3,none⟩) (.inl (by simp)) _).setCell (p:=⟨w.heap.size,4,none⟩) (.inl (by simp)) _).setCell (p:=⟨w.heap.size,5,none⟩) (.inl (by simp)) _
   have rU:=ab.out.apart ap
   have rK:=dm.out.apart ap
   have rE:=ac.out.apart ap
   have rQ:=ek.out.apart ap
   have rM:=em.out.apart ap
   have hB:=(((((((au.out.setCell (p:=⟨w.heap.size,0,none⟩) (by show w.heap.size≤w.heap.size;omega) _).setCell (p:=⟨w.heap.size,1,none⟩) (by show w.heap.size≤w.heap.size;omega) _).setCell (p:=⟨w.heap.size,2,none⟩) (by show w.heap.size≤w.heap.size;omega) _).setCell (p:=⟨w.heap.size,3,none⟩) (by show w.heap.size≤w.heap.size;omega) _).setCell (p:=⟨w.heap.size,4,none⟩) (by show w.heap.size≤w.heap.size;omega) _).setCell (p:=⟨w.heap.size,5,none⟩) (by show w.heap.size≤w.heap.size;omega) _):Below w.heap.size w ((((((w1.setCell ⟨w.heap.size,0,none⟩ (.string tv)).setCell ⟨w.heap.size,1,none⟩ (.slice na M.length nc)).setCell ⟨w.heap.size,2,none⟩ (.slice u.a u.l.length u.c)).setCell ⟨w.heap.size,3,none⟩ (.slice (some ad) n fc)).setCell ⟨w.heap.size,4,none⟩ (.bool false)).setCell ⟨w.heap.size,5,none⟩ (.slice g.a g.l.length g.c)))
   have hz:((((((w1.setCell ⟨w.heap.size,0,none⟩ (.string tv)).setCell ⟨w.heap.size,1,none⟩ (.slice na M.length nc)).setCell ⟨w.heap.size,2,none⟩ (.slice u.a u.l.length u.c)).setCell ⟨w.heap.size,3,none⟩ (.slice (some ad) n fc)).setCell ⟨w.heap.size,4,none⟩ (.bool false)).setCell ⟨w.heap.size,5,none⟩ (.slice g.a g.l.length g.c)).heap.size=w1.heap.size:=by simp
   obtain ⟨v2,d3⟩:∃ V,((((((w1.setCell ⟨w.heap.size,0,none⟩ (.string tv)).setCell ⟨w.heap.size,1,none⟩ (.slice na M.length nc)).setCell ⟨w.heap.size,2,none⟩ (.slice u.a u.l.length u.c)).setCell ⟨w.heap.size,3,none⟩ (.slice (some ad) n fc)).setCell ⟨w.heap.size,4,none⟩ (.bool false)).setCell ⟨w.heap.size,5,none⟩ (.slice g.a g.l.length g.c))=V:=⟨_,rfl⟩
   rw [d3] at kA kC kP kQ rU rK rE rQ rM hB hz
   rw [d3]
   have bf:=hid kA
   have bg:=hid kC
   have bh:=hid kP
   have dj:=hid kQ
   have cg:=hid rU
   have d4:=hid rK
   have ch:=hid rE
   have e8:=hid rQ
   have e9:=hid rM
   have ck:=hid hB
   have di:=hid (Nat.le_trans av.out (Nat.le_of_eq hz.symm))
   clear kA kC kP kQ rU rK rE rQ rM hB hz ap ah ai aj d2 ab dm ac ek em au av
   obtain ⟨cl,cm,cn,co,cq,cr,ct,cu,cv,cw,cx,cy⟩:=bf.out.all6
   obtain ⟨cz,c3,c4,c5,c6,c7,c8,c9,da,db,dc,dd⟩:=bg.out.all6
   obtain ⟨de,df⟩:=bh.out.all1
   obtain ⟨dn,dp⟩:=dj.out.all1
   have fa:=hid (show cj.heap.size≤v2.heap.size by rw [← d3];simp only [World.size_setCell];exact e7.out)
   go_wp2
   go_roundw
   case rel=>exact ⟨k2+1,tv,⟨na,M,nc⟩,by omega,by go_num,e3.out,by show M=_;rw [SN.out],⟨bf.out,bg.out,bh.out,dj.out⟩,cg.out,e9.out,ch.out,e8.out,fa.out,ck.out⟩
   case measure=>simp [intOf];omega
  ·obtain rfl:k2=n2:=by omega
   rw [← eh.out,List.take_length] at hrun hml
   obtain rfl:t'=tk:=by rw [dt.out] at hrun;exact congrArg Prod.fst hrun
   have af:=hid (hblk.1)
   have ag:=hid (hblk.2.1)
   have ci:=hid (hblk.2.2.1)
   have bi:=hid (hsu)
   have dl:=hid (hkm)
   have bj:=hid (hre)
   have ar:=hid (hbel)
   have aw:=hid (Nat.le_refl wr.heap.size)
   have dz:=hid hsz;have er:=hid hml
   have fb:wr.cell? ⟨aa.heap.size,0,none⟩=some (.slice ea k2 ec):=hblk.2.2.2.cell 0 _ rfl
   clear hblk hsu hkm hre hrq hbel hsz hml hrun
   obtain ⟨ak,al,am,an,ao,aq,ax,ay,az,a0,a1,a2⟩:=af.out.all6
   obtain ⟨a3,a4,a5,a6,a7,a8,a9,ba,bb,bc,bd,be⟩:=ag.out.all6
   obtain ⟨dg,dh⟩:=ci.out.all1
   have kA:Blk (wr.setCell ⟨w.heap.size,3,none⟩ (.slice (some ad) k fc)) (w.heap.size) #[.string t',.slice ma ml.length mc,.slice u.a u.l.length u.c,.slice (some ad) k fc,.bool false,.slice g.a g.l.length g.c] 26:=(af.out.set 3 _)
   have kC:Blk (wr.setCell ⟨w.heap.size,3,none⟩ (.slice (some ad) k fc)) (w.heap.size+1) #[.string ⟨#[]⟩,.slice none 0 0,.slice none 0 0,.slice none 0 0,.bool false,.slice none 0 0] 26:=(ag.out.other ⟨w.heap.size,3,none⟩ (by show w.heap.size≠w.heap.size+1;omega) _)
   have kP:Blk (wr.setCell ⟨w.heap.size,3,none⟩ (.slice (some ad) k fc)) (wX.heap.size) #[.slice ea k2 ec] 54:=(ci.out.other ⟨w.heap.size,3,none⟩ (by show w.heap.size≠wX.heap.size;omega) _)
   have ap:Apart (w.heap.size::(w.heap.size+1)::aa.heap.size::S) wr (wr.setCell ⟨w.heap.size,3,none⟩ (.slice (some ad) k fc)):=(Apart.refl (w.heap.size::(w.heap.size+1)::aa.heap.size::S) wr).setCell (p:=⟨w.heap.size,3,none⟩) (.inl (by simp)) _
   have rU:=bi.out.apart ap
   have rK:=dl.out.apart ap
   have rE:=bj.out.apart ap
   have hB:=((ar.out.setCell (p:=⟨w.heap.size,3,none⟩) (by show w.heap.size≤w.heap.size;omega) _):Below w.heap.size w (wr.setCell ⟨w.heap.size,3,none⟩ (.slice (some ad) k fc)))
   have hz:(wr.setCell ⟨w.heap.size,3,none⟩ (.slice (some ad) k fc)).heap.size=wr.heap.size:=by simp
   obtain ⟨v1,d5⟩:∃ V,(wr.setCell ⟨w.heap.size,3,none⟩ (.slice (some ad) k fc))=V:=⟨_,rfl⟩
   rw [d5] at kA kC kP rU rK rE hB hz
   have ah:=hid kA
   have ai:=hid kC
   have aj:=hid kP
   have ab:=hid rU
   have dm:=hid rK
   have ac:=hid rE
   have au:=hid hB
   have av:=hid (Nat.le_trans aw.out (Nat.le_of_eq hz.symm))
   clear kA kC kP rU rK rE hB hz ap af ag ci bi dl bj ar aw
   obtain ⟨bk,bl,bm,bn,bo,bp,bq,br,bs,bu,bv,bw⟩:=ah.out.all6
   obtain ⟨bx,bz,b3,b4,b5,b6,b7,b8,b9,cb,cc,cd⟩:=ai.out.all6
   obtain ⟨ce,cf⟩:=aj.out.all1
   have cp:=eX u.a u.l u.c ⟨ea,el,ec⟩ v1 ab.out.u.in ac.out.in (by omega)
   obtain ⟨Q,hQ⟩:∃ Q,(u.l++[(⟨ea,el,ec⟩:EPc)]).drop (u.l.length+1 - 16)=Q:=⟨_,rfl⟩
   rw [hQ] at cp
   have HQ:=hid hQ
   have CP:=hid (show Calls prog 76 #[.slice u.a u.l.length u.c,stpV ea k2 ec] v1 _ by rw [← eg.out];exact cp)
   clear cp hQ
   have fd:=hid (show cj.heap.size≤v1.heap.size by rw [← d5];simp only [World.size_setCell];exact dz.out)
   go_wp2_with fail
   refine (CP.out).mono ?_;rintro e w2 ⟨za,zc,rfl,hr,hb⟩
   clear ak al am an ao aq ax ay az a0 a1 a2 a3 a4 a5 a6 a7 a8 a9 ba bb bc bd be dg dh fb d5 bk bl bm bn bo bp bq br bs bu bv bw bx bz b3 b4 b5 b6 b7 b8 b9 cb cc cd ce cf
   have bf:=hid (ah.out.onto hb)
   have bg:=hid (ai.out.onto hb)
   have bh:=hid (aj.out.onto hb)
   have cg:=hid (ab.out.later hb)
   have d4:=hid (dm.out.later hb)
   have ch:=hid (ac.out.later hb)
   have ck:=hid (au.out.trans (hb.mono au.out.size))
   have di:=hid (Nat.le_trans av.out hb.size)
   have ep:=hid (hr.off (S:=(w.heap.size::(w.heap.size+1)::aa.heap.size::S)) (fun i hi=>Nat.lt_of_lt_of_le (INQ.out i hi) fd.out) (fun y hy=>by
    rw [← HQ.out] at hy
    rcases List.mem_append.1 (List.mem_of_mem_drop hy) with h|h
    ·exact (ab.out.u.all y h).later hb
    ·obtain rfl:=List.mem_singleton.1 h
     exact ac.out.later hb))
   clear hb hr CP ah ai aj ab dm ac au av
   obtain ⟨cl,cm,cn,co,cq,cr,ct,cu,cv,cw,cx,cy⟩:=bf.out.all6
   obtain ⟨cz,c3,c4,c5,c6,c7,c8,c9,da,db,dc,dd⟩:=bg.out.all6
   obtain ⟨de,df⟩:=bh.out.all1
   have kA:Blk (w2.setCell ⟨w.heap.size,2,none⟩ (.slice za Q.length zc)) (w.heap.size) #[.string t',.slice ma ml.length mc,.slice za Q.length zc,.slice (some ad) k fc,.bool false,.slice g.a g.l.length g.c] 26:=(bf.out.set 2 _)
   have kC:Blk (w2.setCell ⟨w.heap.size,2,none⟩ (.slice za Q.length zc)) (w.heap.size+1) #[.string ⟨#[]⟩,.slice none 0 0,.slice none 0 0,.slice none 0 0,.bool false,.slice none 0 0] 26:=(bg.out.other ⟨w.heap.size,2,none⟩ (by show w.heap.size≠w.heap.size+1;omega) _)
   have kP:Blk (w2.setCell ⟨w.heap.size,2,none⟩ (.slice za Q.length zc)) (wX.heap.size) #[.slice ea k2 ec] 54:=(bh.out.other ⟨w.heap.size,2,none⟩ (by show w.heap.size≠wX.heap.size;omega) _)
   have ap:Apart (w.heap.size::(w.heap.size+1)::aa.heap.size::S) w2 (w2.setCell ⟨w.heap.size,2,none⟩ (.slice za Q.length zc)):=(Apart.refl (w.heap.size::(w.heap.size+1)::aa.heap.size::S) w2).setCell (p:=⟨w.heap.size,2,none⟩) (.inl (by simp)) _
   have rU:=cg.out.apart ap
   have rK:=d4.out.apart ap
   have rE:=ch.out.apart ap
   have rZ:=ep.out.apart ap
   have hB:=((ck.out.setCell (p:=⟨w.heap.size,2,none⟩) (by show w.heap.size≤w.heap.size;omega) _):Below w.heap.size w (w2.setCell ⟨w.heap.size,2,none⟩ (.slice za Q.length zc)))
   have hz:(w2.setCell ⟨w.heap.size,2,none⟩ (.slice za Q.length zc)).heap.size=w2.heap.size:=by simp
   obtain ⟨v3,fe⟩:∃ V,(w2.setCell ⟨w.heap.size,2,none⟩ (.slice za Q.length zc))=V:=⟨_,rfl⟩
   rw [fe] at kA kC kP rU rK rE rZ hB hz
   have ff:=hid kA
   have fg:=hid kC
   have fh:=hid kP
   have eq:=hid rU
   have fi:=hid rK
   have gi:=hid rE
   have fj:=hid rZ
   have fk:=hid hB
   have gj:=hid (Nat.le_trans di.out (Nat.le_of_eq hz.symm))
   clear kA kC kP rU rK rE rZ hB hz ap bf bg bh cg d4 ch ep ck di
   obtain ⟨fo,fp,fq,fr,fs,ft,fu,fv,fw,fx,fy,fz⟩:=ff.out.all6
   obtain ⟨d8,d9,eb,ed,ee,ef,f0,f1,f2,f3,f4,f5⟩:=fg.out.all6
   obtain ⟨f6,f7⟩:=fh.out.all1
   have htk:(fl.take k).length=k:=by rw [List.length_take,HN.out];omega
   go_wp2
   refine bodyPost_ret (v:=.tuple #[staV t' (.slice ma ml.length mc) (.slice za Q.length zc) (.slice (some ad) k fc) false (.slice g.a g.l.length g.c),.int .i64 0]) (by simp [results,results49,go_sem,d8,d9,eb,ed,ee,ef]) rfl ?_
   refine ⟨⟨t',⟨ma,ml,mc⟩,⟨za,Q,zc⟩,⟨some ad,fl.take k,fc⟩,false,g⟩,by unfold Sta.v Sta.cs;simp only [htk],?_,?_,?_⟩
   ·have h3:ml=shfL m.l el:=er.out
    have h4:lsP Q=pushL (lsP u.l) el:=(by rw [← HQ.out,gI,eR];unfold pushL;rw [aC];rfl)
    have h5:lsP (fl.take k)=(lsP fl).take k:=nY _ _
    show (⟨t',ml,lsP Q,lsP (fl.take k),false,g.l⟩:StaD)=_
    rw [h3,h4,h5]
   ·refine StaO.wide (S:=(w.heap.size::(w.heap.size+1)::aa.heap.size::S)) (StaO.apart (w:=v3) ⟨fi.out,fj.out,(SPo.take eq.out.r k),eq.out.g⟩ ?_) (fun i hi=>.inl (by simp [hi]))
    iterate 6 refine Apart.setCell ?_ (.inl (by simp)) _
    exact Apart.refl _ _
   ·iterate 6 refine Below.setCell ?_ (by show w.heap.size≤w.heap.size+1;omega) _
    exact fk.out
theorem below3 (w:World) (a b c:Obj):Below w.heap.size w (((w.alloc a).alloc b).alloc c):=(below2 w a b).alloc (by simp;omega) c
abbrev Sub26 (s:Sta) (S:List Nat) (w:World) (R:StaD×Int) (f:FuncId) (v:Array Value):Prop:=∀ W,StaO (w.heap.size::(w.heap.size+1)::(w.heap.size+1+1)::S) W s→InS (w.heap.size::(w.heap.size+1)::(w.heap.size+1+1)::S) W→Calls prog f v W (RetRD (w.heap.size::(w.heap.size+1)::(w.heap.size+1+1)::S) W R)
set_option maxHeartbeats 3200000 in
theorem gE (s:Sta) (S:List Nat) (w:World) (hin:StaO S w s) (hS:InS S w) (k i n:Int) (x:ByteArray) {R:StaD×Int} (hc:(k=1∧Sub26 s S w R 45 #[s.v,(.agg #[.int .i64 k,.int .i64 i,.int .i64 n,.string x])])∨(k=2∧Sub26 s S w R 46 #[s.v,(.agg #[.int .i64 k,.int .i64 i,.int .i64 n,.string x])])∨(k=3∧Sub26 s S w R 47 #[s.v,(.agg #[.int .i64 k,.int .i64 i,.int .i64 n,.string x])])∨(k=5∧Sub26 s S w R 49 #[s.v,.bool true])∨(k=6∧Sub26 s S w R 49 #[s.v,.bool false])∨(k=8∧Sub26 s S w R 50 #[s.v])) :
 Calls prog 22 #[s.v,(.agg #[.int .i64 k,.int .i64 i,.int .i64 n,.string x])] w (RetRD S w R):=by
 obtain ⟨Rs,Re⟩:=R
 rcases hc with ⟨hk,hc⟩|⟨hk,hc⟩|⟨hk,hc⟩|⟨hk,hc⟩|⟨hk,hc⟩|⟨hk,hc⟩
 all_goals
  have q1:=congrArg (fun x:Int=>x == 1) hk
  have q2:=congrArg (fun x:Int=>x == 2) hk
  have q3:=congrArg (fun x:Int=>x == 3) hk
  have q4:=congrArg (fun x:Int=>x == 4) hk
  have q5:=congrArg (fun x:Int=>x == 5) hk
  have q6:=congrArg (fun x:Int=>x == 6) hk
  have q7:=congrArg (fun x:Int=>x == 7) hk
  have q8:=congrArg (fun x:Int=>x == 8) hk
  simp only [Int.reduceBEq] at q1 q2 q3 q4 q5 q6 q7 q8
  clear hk
  obtain ⟨wX,hwX,kA,kB,kC,rU,inT,bl,hz⟩:=box26 hin hS #[.int .i64 k,.int .i64 i,.int .i64 n,.string x]
  have aa:=hid (kA)
  have ab:=hid (kB)
  have ac:=hid (kC)
  have ad:=hid (rU)
  have ae:=hid (bl)
  have af:=hid (Nat.le_refl wX.heap.size)
  have INT:=hid inT;have HS:=hid hS
  obtain ⟨ag,ah,ai,aj,ak,al,am,an,ao,aq,ar,au⟩:=aa.out.all6
  obtain ⟨av,aw,ax,ay,az,a0,a1,a2⟩:=ab.out.all4
  obtain ⟨a3,a4,a5,a6,a7,a8,a9,ba,bb,bc,bd,be⟩:=ac.out.all6
  clear kA kB kC rU bl inT hin hS hz
  have HC:=hid hc
  clear hc
  go_enter func22,ntmps22
  go_wp2_with fail
  refine (HC.out _ ad.out (fun i hi=>Nat.lt_of_lt_of_le (INT.out i hi) af.out)).mono ?_;rintro e w1 ⟨s2,rfl,bm,bn,hb⟩
  clear ag ah ai aj ak al am an ao aq ar au av aw ax ay az a0 a1 a2 a3 a4 a5 a6 a7 a8 a9 ba bb bc bd be
  have bo:=hid (aa.out.onto hb)
  have bp:=hid (ab.out.onto hb)
  have bq:=hid (ac.out.onto hb)
  have cp:=hid (ad.out.later hb)
  have br:=hid (ae.out.trans (hb.mono ae.out.size))
  have cq:=hid (Nat.le_trans af.out hb.size)
  have bs:=hid bm
  clear bm
  have bu:=hid (bn)
  clear hb bn HC hwX aa ab ac ad ae af
  obtain ⟨bv,bw,bx,bz,b3,b4,b5,b6,b7,b8,b9,ca⟩:=bo.out.all6
  obtain ⟨cb,cc,cd,ce,cf,cg,ch,ci⟩:=bp.out.all4
  obtain ⟨bf,bg,bh,bi,bj,bk,cj,ck,cl,cm,cn,co⟩:=bq.out.all6
  go_wp2
  refine bodyPost_ret (v:=.tuple #[s2.v,.int .i64 Re]) (by simp [results,results22,go_sem,bf,bg,bh,bi,bj,bk]) rfl ?_
  exact ⟨s2,rfl,bs.out,fin26 br.out bu.out⟩
set_option maxHeartbeats 1600000 in
theorem GE (s:Sta) (S:List Nat) (w:World) (hin:StaO S w s) (hS:InS S w) (i n:Int) (x:ByteArray) (hm:s.m.l.length≤1000000) (h5:(drpM s.m.l x).2≠0):Calls prog 22 #[s.v,(.agg #[.int .i64 4,.int .i64 i,.int .i64 n,.string x])] w (RetRD S w (s.d,(drpM s.m.l x).2)):=by
 obtain ⟨wX,hwX,kA,kB,kC,rU,inT,bl,hz⟩:=box26 hin hS #[.int .i64 4,.int .i64 i,.int .i64 n,.string x]
 have aa:=hid (kA)
 have ab:=hid (kB)
 have ac:=hid (kC)
 have ad:=hid (rU)
 have ae:=hid (bl)
 have af:=hid (Nat.le_refl wX.heap.size)
 have INT:=hid inT;have HS:=hid hS
 obtain ⟨ag,ah,ai,aj,ak,al,am,an,ao,aq,ar,au⟩:=aa.out.all6
 obtain ⟨av,aw,ax,ay,az,a0,a1,a2⟩:=ab.out.all4
 obtain ⟨a3,a4,a5,a6,a7,a8,a9,ba,bb,bc,bd,be⟩:=ac.out.all6
 clear kA kB kC rU bl inT hin hS hz
 have cs:=fun W (hW:StaO (w.heap.size::(w.heap.size+1)::(w.heap.size+1+1)::S) W s)=>gQ s.m.a s.m.l s.m.c x (Off (w.heap.size::(w.heap.size+1)::(w.heap.size+1+1)::S) W) W hW.m.row (fun _ h=>h.1) hm
 obtain ⟨q,hq⟩:∃ q,drpM s.m.l x=q:=⟨_,rfl⟩
 rw [hq] at cs h5 ⊢
 obtain ⟨ql,qe⟩:=q
 have CS:=hid cs
 have h5':qe≠0:=h5
 clear cs hq h5
 have h5e:(qe == 0)=false:=beq_eq_false_iff_ne.2 h5'
 go_enter func22,ntmps22
 go_wp2_with fail
 refine (CS.out _ ad.out).mono ?_;rintro e w1 ⟨ma,mc,rfl,hmm,hb⟩
 clear ag ah ai aj ak al am an ao aq ar au av aw ax ay az a0 a1 a2 a3 a4 a5 a6 a7 a8 a9 ba bb bc bd be
 have bm:=hid (aa.out.onto hb)
 have bn:=hid (ab.out.onto hb)
 have bo:=hid (ac.out.onto hb)
 have bp:=hid (ad.out.later hb)
 have bq:=hid (ae.out.trans (hb.mono ae.out.size))
 have cm:=hid (Nat.le_trans af.out hb.size)
 have cn:=hid (hmm.off (S:=(w.heap.size::(w.heap.size+1)::(w.heap.size+1+1)::S)) (fun i hi=>Nat.lt_of_lt_of_le (INT.out i hi) af.out))
 clear hb hmm hwX aa ab ac ad ae af
 obtain ⟨br,bs,bu,bv,bw,bx,bz,b3,b4,b5,b6,b7⟩:=bm.out.all6
 obtain ⟨b8,b9,ca,cb,cc,cd,ce,cf⟩:=bn.out.all4
 obtain ⟨bf,bg,bh,bi,bj,bk,cg,ch,ci,cj,ck,cl⟩:=bo.out.all6
 go_wp2
 refine bodyPost_ret (v:=.tuple #[s.v,.int .i64 qe]) (by simp [results,results22,go_sem,bf,bg,bh,bi,bj,bk]) rfl ?_
 exact ⟨s,rfl,rfl,fin26 bq.out bp.out⟩
set_option maxHeartbeats 1600000 in
theorem BN (s:Sta) (S:List Nat) (w:World) (hin:StaO S w s) (hS:InS S w) (i n:Int) (x:ByteArray) (hm:s.m.l.length≤1000000) (h5:(drpM s.m.l x).2=0):Calls prog 22 #[s.v,(.agg #[.int .i64 4,.int .i64 i,.int .i64 n,.string x])] w (RetRD S w (⟨s.t,(drpM s.m.l x).1,lsP s.u.l,lsP s.r.l,s.o,s.g.l⟩,0)):=by
 obtain ⟨wX,hwX,kA,kB,kC,rU,inT,bp,hz⟩:=box26 hin hS #[.int .i64 4,.int .i64 i,.int .i64 n,.string x]
 have aa:=hid (kA)
 have ab:=hid (kB)
 have ac:=hid (kC)
 have ad:=hid (rU)
 have ae:=hid (bp)
 have af:=hid (Nat.le_refl wX.heap.size)
 have INT:=hid inT;have HS:=hid hS
 obtain ⟨ak,al,am,an,ao,aq,ar,au,av,aw,ax,ay⟩:=aa.out.all6
 obtain ⟨az,a0,a1,a2,a3,a4,a5,a6⟩:=ab.out.all4
 obtain ⟨a7,a8,a9,ba,bb,bc,bd,be,bf,bg,bh,bi⟩:=ac.out.all6
 clear kA kB kC rU bp inT hin hS hz
 have cs:=fun W (hW:StaO (w.heap.size::(w.heap.size+1)::(w.heap.size+1+1)::S) W s)=>gQ s.m.a s.m.l s.m.c x (Off (w.heap.size::(w.heap.size+1)::(w.heap.size+1+1)::S) W) W hW.m.row (fun _ h=>h.1) hm
 obtain ⟨q,hq⟩:∃ q,drpM s.m.l x=q:=⟨_,rfl⟩
 rw [hq] at cs h5 ⊢
 obtain ⟨ql,qe⟩:=q
 have CS:=hid cs
 have h5':qe=0:=h5
 clear cs hq h5
 subst h5'
 go_enter func22,ntmps22
 go_wp2_with fail
 refine (CS.out _ ad.out).mono ?_;rintro e w1 ⟨ma,mc,rfl,hmm,hb⟩
 clear ak al am an ao aq ar au av aw ax ay az a0 a1 a2 a3 a4 a5 a6 a7 a8 a9 ba bb bc bd be bf bg bh bi
 have ag:=hid (aa.out.onto hb)
 have ah:=hid (ab.out.onto hb)
 have ai:=hid (ac.out.onto hb)
 have bq:=hid (ad.out.later hb)
 have br:=hid (ae.out.trans (hb.mono ae.out.size))
 have bs:=hid (Nat.le_trans af.out hb.size)
 have bu:=hid (hmm.off (S:=(w.heap.size::(w.heap.size+1)::(w.heap.size+1+1)::S)) (fun i hi=>Nat.lt_of_lt_of_le (INT.out i hi) af.out))
 clear hb hmm hwX aa ab ac ad ae af
 obtain ⟨b5,b6,b7,b8,b9,ca,cb,cc,cd,ce,cf,cg⟩:=ag.out.all6
 obtain ⟨ch,ci,cj,ck,cl,cm,cn,co⟩:=ah.out.all4
 obtain ⟨cp,cq,cr,ct,cu,cv,cw,cx,cy,cz,c3,c4⟩:=ai.out.all6
 have kA:Blk (w1.setCell ⟨w.heap.size,1,none⟩ (.slice ma ql.length mc)) (w.heap.size) #[.string s.t,.slice ma ql.length mc,.slice s.u.a s.u.l.length s.u.c,.slice s.r.a s.r.l.length s.r.c,.bool s.o,.slice s.g.a s.g.l.length s.g.c] 26:=(ag.out.set 1 _)
 have kB:Blk (w1.setCell ⟨w.heap.size,1,none⟩ (.slice ma ql.length mc)) (w.heap.size+1) #[.int .i64 4,.int .i64 i,.int .i64 n,.string x] 50:=(ah.out.other ⟨w.heap.size,1,none⟩ (by show w.heap.size≠w.heap.size+1;omega) _)
 have kC:Blk (w1.setCell ⟨w.heap.size,1,none⟩ (.slice ma ql.length mc)) (w.heap.size+1+1) #[.string ⟨#[]⟩,.slice none 0 0,.slice none 0 0,.slice none 0 0,.bool false,.slice none 0 0] 26:=(ai.out.other ⟨w.heap.size,1,none⟩ (by show w.heap.size≠w.heap.size+1+1;omega) _)
 have ap:Apart (w.heap.size::(w.heap.size+1)::(w.heap.size+1+1)::S) w1 (w1.setCell ⟨w.heap.size,1,none⟩ (.slice ma ql.length mc)):=(Apart.refl (w.heap.size::(w.heap.size+1)::(w.heap.size+1+1)::S) w1).setCell (p:=⟨w.heap.size,1,none⟩) (.inl (by simp)) _
 have rU:=bq.out.apart ap
 have rM:=bu.out.apart ap
 have hB:=((br.out.setCell (p:=⟨w.heap.size,1,none⟩) (by show w.heap.size≤w.heap.size;omega) _):Below w.heap.size w (w1.setCell ⟨w.heap.size,1,none⟩ (.slice ma ql.length mc)))
 have hz:(w1.setCell ⟨w.heap.size,1,none⟩ (.slice ma ql.length mc)).heap.size=w1.heap.size:=by simp
 obtain ⟨v2,bv⟩:∃ V,(w1.setCell ⟨w.heap.size,1,none⟩ (.slice ma ql.length mc))=V:=⟨_,rfl⟩
 rw [bv] at kA kB kC rU rM hB hz
 have bw:=hid kA
 have bx:=hid kB
 have bz:=hid kC
 have aj:=hid rU
 have b3:=hid rM
 have b4:=hid hB
 have dw:=hid (Nat.le_trans bs.out (Nat.le_of_eq hz.symm))
 clear kA kB kC rU rM hB hz ap ag ah ai bq bu br bs
 obtain ⟨c5,c6,c7,c8,c9,da,db,dc,dd,de,df,dg⟩:=bw.out.all6
 obtain ⟨dh,di,dj,dk,dl,dm,dn,dp⟩:=bx.out.all4
 obtain ⟨bj,bk,bl,bm,bn,bo,dq,dr,ds,dt,du,dv⟩:=bz.out.all6
 go_wp2
 refine bodyPost_ret (v:=.tuple #[(Sta.v ⟨s.t,⟨ma,ql,mc⟩,s.u,s.r,s.o,s.g⟩),.int .i64 0]) (by simp [results,results22,go_sem,bj,bk,bl,bm,bn,bo]) rfl ?_
 exact ⟨⟨s.t,⟨ma,ql,mc⟩,s.u,s.r,s.o,s.g⟩,rfl,rfl,fin26 b4.out ⟨b3.out,aj.out.u,aj.out.r,aj.out.g⟩⟩
set_option maxHeartbeats 800000 in
theorem EZ {m:KPc} {u ro:SPc} {g:EPc} (S:List Nat) (w:World) (hin:StaO S w ⟨t,m,u,ro,true,g⟩) (k i n:Int) (x:ByteArray) :
 Calls prog 22 #[Sta.v ⟨t,m,u,ro,true,g⟩,(.agg #[.int .i64 7,.int .i64 i,.int .i64 n,.string x])] w (RetRD S w (Sta.d ⟨t,m,u,ro,true,g⟩,11)):=by
 have aa:=hid hin
 clear hin
 go_enter func22,ntmps22
 go_wp2
 refine bodyPost_ret (v:=.tuple #[Sta.v ⟨t,m,u,ro,true,g⟩,.int .i64 11]) (by simp [results,results22,go_sem]) rfl ?_
 have hb:=fun a b c=>below3 w a b c
 refine ⟨⟨t,m,u,ro,true,g⟩,rfl,rfl,?_,below3 _ _ _ _⟩
 have h2:=aa.out.later (below3 w (.cells #[.string t,.slice m.a m.l.length m.c,.slice u.a u.l.length u.c,.slice ro.a ro.l.length ro.c,.bool true,.slice g.a g.l.length g.c] 26) (.cells #[.int .i64 7,.int .i64 i,.int .i64 n,.string x] 50) (.cells #[.string t,.slice m.a m.l.length m.c,.slice u.a u.l.length u.c,.slice ro.a ro.l.length ro.c,.bool true,.slice g.a g.l.length g.c] 26))
 exact ⟨h2.m,h2.u,h2.r,h2.g⟩
set_option maxHeartbeats 800000 in
theorem BP {m:KPc} {u ro:SPc} {g:EPc} (S:List Nat) (w:World) (hin:StaO S w ⟨t,m,u,ro,false,g⟩) (k i n:Int) (x:ByteArray) :
 Calls prog 22 #[Sta.v ⟨t,m,u,ro,false,g⟩,(.agg #[.int .i64 7,.int .i64 i,.int .i64 n,.string x])] w (RetRD S w (⟨t,m.l,lsP u.l,lsP ro.l,true,g.l⟩,0)):=by
 have aa:=hid hin
 clear hin
 go_enter func22,ntmps22
 go_wp2
 refine bodyPost_ret (v:=.tuple #[Sta.v ⟨t,m,u,ro,true,g⟩,.int .i64 0]) (by simp [results,results22,go_sem]) rfl ?_
 have hb:=fun a b c=>below3 w a b c
 refine ⟨⟨t,m,u,ro,true,g⟩,rfl,rfl,?_,below3 _ _ _ _⟩
 have h2:=aa.out.later (below3 w (.cells #[.string t,.slice m.a m.l.length m.c,.slice u.a u.l.length u.c,.slice ro.a ro.l.length ro.c,.bool true,.slice g.a g.l.length g.c] 26) (.cells #[.int .i64 7,.int .i64 i,.int .i64 n,.string x] 50) (.cells #[.string t,.slice m.a m.l.length m.c,.slice u.a u.l.length u.c,.slice ro.a ro.l.length ro.c,.bool true,.slice g.a g.l.length g.c] 26))
 exact ⟨h2.m,h2.u,h2.r,h2.g⟩
set_option maxHeartbeats 800000 in
theorem KZ {m:KPc} {u ro:SPc} {g:EPc} {so:Bool} (S:List Nat) (w:World) (hin:StaO S w ⟨t,m,u,ro,so,g⟩) (k i n:Int) (x:ByteArray) (hk:¬ (1≤k∧k≤8)) :
 Calls prog 22 #[Sta.v ⟨t,m,u,ro,so,g⟩,(.agg #[.int .i64 k,.int .i64 i,.int .i64 n,.string x])] w (RetRD S w (Sta.d ⟨t,m,u,ro,so,g⟩,2)):=by
 have aa:=hid hin
 clear hin
 have q1:(k == 1)=false:=beq_eq_false_iff_ne.2 (by omega)
 have q2:(k == 2)=false:=beq_eq_false_iff_ne.2 (by omega)
 have q3:(k == 3)=false:=beq_eq_false_iff_ne.2 (by omega)
 have q4:(k == 4)=false:=beq_eq_false_iff_ne.2 (by omega)
 have q5:(k == 5)=false:=beq_eq_false_iff_ne.2 (by omega)
 have q6:(k == 6)=false:=beq_eq_false_iff_ne.2 (by omega)
 have q7:(k == 7)=false:=beq_eq_false_iff_ne.2 (by omega)
 have q8:(k == 8)=false:=beq_eq_false_iff_ne.2 (by omega)
 clear hk
 go_enter func22,ntmps22
 go_wp2
 refine bodyPost_ret (v:=.tuple #[Sta.v ⟨t,m,u,ro,so,g⟩,.int .i64 2]) (by simp [results,results22,go_sem]) rfl ?_
 have hb:=fun a b c=>below3 w a b c
 refine ⟨⟨t,m,u,ro,so,g⟩,rfl,rfl,?_,below3 _ _ _ _⟩
 have h2:=aa.out.later (below3 w (.cells #[.string t,.slice m.a m.l.length m.c,.slice u.a u.l.length u.c,.slice ro.a ro.l.length ro.c,.bool so,.slice g.a g.l.length g.c] 26) (.cells #[.int .i64 k,.int .i64 i,.int .i64 n,.string x] 50) (.cells #[.string t,.slice m.a m.l.length m.c,.slice u.a u.l.length u.c,.slice ro.a ro.l.length ro.c,.bool so,.slice g.a g.l.length g.c] 26))
 exact ⟨h2.m,h2.u,h2.r,h2.g⟩
theorem InvS.mz {s:Sta} (h:InvS s.d):s.m.l.length≤1000000:=Nat.le_trans h.ml (by decide)
theorem IG (s:Sta) (S:List Nat) (w:World) (hin:StaO S w s) (hS:InS S w) (h:InvS s.d) (k i n:Int) (x:ByteArray) (hi:i64P i) (hx:x.size≤1000000) :
 Calls prog 22 #[s.v,(.agg #[.int .i64 k,.int .i64 i,.int .i64 n,.string x])] w (RetRD S w (doD s.d k i n x)):=by
 by_cases hk:1≤k∧k≤8
 case neg =>
  have e:doD s.d k i n x=(s.d,2):=by
   unfold doD
   rw [if_neg (by omega),if_neg (by omega),if_neg (by omega),if_neg (by omega),if_neg (by omega),if_neg (by omega),if_neg (by omega),if_neg (by omega)]
  rw [e]
  exact KZ S w hin k i n x hk
 have hxm:x.size≤maxLen:=by unfold maxLen;omega
 rcases (show k=1∨k=2∨k=3∨k=4∨k=5∨k=6∨k=7∨k=8 by omega) with rfl|rfl|rfl|rfl|rfl|rfl|rfl|rfl
 ·show Calls _ _ _ w (RetRD S w (insD _ i x))
  refine gE s S w hin hS 1 i n x (.inl ⟨rfl,fun W hU hI=>?_⟩)
  unfold insD
  by_cases h1:insE s.t i x=0
  ·rw [if_neg (show ¬ insE s.d.t i x≠0 from fun g=>g h1)]
   by_cases h2:512<x.size
   ·rw [if_pos h2];exact eG s _ W hU hI h 1 i n x hx hi 6 (.inr (.inr (.inr (.inl ⟨h1,h2,rfl⟩))))
   rw [if_neg h2]
   by_cases h3:x.size=0
   ·rw [if_pos h3]
    exact eG s _ W hU hI h 1 i n x hx hi 0 (.inr (.inr (.inr (.inr ⟨h1,h3,rfl⟩))))
   ·rw [if_neg h3];exact yL s _ W hU hI h 1 i n x hx hi h1 (by omega) (by omega)
  ·rw [if_pos (show insE s.d.t i x≠0 from h1)]
   by_cases h6:insE s.t i x=6
   ·rw [show insE s.d.t i x=6 from h6]
    by_cases h2:512<x.size
    ·exact eG s _ W hU hI h 1 i n x hx hi 6 (.inr (.inl ⟨h6,h2,rfl⟩))
    ·exact eG s _ W hU hI h 1 i n x hx hi 6 (.inr (.inr (.inl ⟨h6,h2,rfl⟩)))
   ·exact eG s _ W hU hI h 1 i n x hx hi _ (.inl ⟨h1,h6,rfl⟩)
 ·show Calls _ _ _ w (RetRD S w (delD _ i n))
  refine gE s S w hin hS 2 i n x (.inr (.inl ⟨rfl,fun W hU hI=>?_⟩))
  unfold delD
  by_cases h1:delE s.t i n=0
  ·rw [if_neg (show ¬ delE s.d.t i n≠0 from fun g=>g h1)]
   by_cases h2:512<n
   ·rw [if_pos h2];exact jK s _ W hU hI h 2 i n x hi 6 (.inr (.inl ⟨h1,h2,rfl⟩))
   rw [if_neg h2]
   by_cases h3:n=0
   ·rw [if_pos h3];exact jK s _ W hU hI h 2 i n x hi 0 (.inr (.inr ⟨h1,h3,rfl⟩))
   ·rw [if_neg h3]
    have hst:=aY.1 (hP h1).1
    obtain ⟨i',rfl⟩:=Int.eq_ofNat_of_zero_le hst.1
    obtain ⟨n',rfl⟩:=Int.eq_ofNat_of_zero_le hst.2.1
    have hdx:delX s.d.t (i':Int) (n':Int)=⟨i',s.t.extract i' (i'+n'),⟨#[]⟩⟩:=by show (⟨_,s.t.extract _ _,_⟩:Edt)=_;congr 1
    rw [hdx]
    exact yI s _ W hU hI h 2 i' n' x hi h1 (by omega) (by omega) (by omega)
  ·rw [if_pos (show delE s.d.t i n≠0 from h1)]
   exact jK s _ W hU hI h 2 i n x hi _ (.inl ⟨h1,rfl⟩)
 ·show Calls _ _ _ w (RetRD S w (markD _ i x))
  refine gE s S w hin hS 3 i n x (.inr (.inr (.inl ⟨rfl,fun W hU hI=>?_⟩)))
  unfold markD
  by_cases h1:markB x.data.toList=false
  ·rw [if_pos h1];exact lY s _ W hU hI h 3 i n x hxm 7 (.inl ⟨h1,rfl⟩)
  rw [if_neg h1]
  have h1:=aL h1
  by_cases h2:i<0∨(s.t.size:Int)<i
  ·rw [if_pos (show i<0∨(s.d.t.size:Int)<i from h2)]
   rcases h2 with h2|h2
   ·exact lY s _ W hU hI h 3 i n x hxm 3 (.inr (.inl ⟨h1,h2,rfl⟩))
   ·exact lY s _ W hU hI h 3 i n x hxm 3 (.inr (.inr ⟨h1,h2,rfl⟩))
  rw [if_neg (show ¬ (i<0∨(s.d.t.size:Int)<i) from h2)]
  have h3:0≤i∧i≤s.t.size:=by omega
  by_cases h4:edgeB s.t.data.toList i=false
  ·rw [if_pos (show edgeB s.d.t.data.toList i=false from h4)];exact xP s _ W hU hI h 3 i n x hxm h1 h3 h4
  rw [if_neg (show ¬ edgeB s.d.t.data.toList i=false from h4)]
  have h4:=aL h4
  unfold withMk
  by_cases h5:(setM s.m.l ⟨x,i⟩).2=0
  ·have e:(setM s.d.m ⟨x,i⟩).2=0:=h5
   rw [if_pos e,e]
   exact GF s _ W hU hI h 3 i n x hxm h1 h3 h4 h5
  ·rw [if_neg (show ¬ (setM s.d.m ⟨x,i⟩).2=0 from h5)]
   exact JB s _ W hU hI h 3 i n x hxm h1 h3 h4 h5
 ·show Calls _ _ _ w (RetRD S w (unmarkD _ x))
  unfold unmarkD withMk
  by_cases h5:(drpM s.m.l x).2=0
  ·have e:(drpM s.d.m x).2=0:=h5
   rw [if_pos e,e]
   exact BN s S w hin hS i n x h.mz h5
  ·rw [if_neg (show ¬ (drpM s.d.m x).2=0 from h5)]
   exact GE s S w hin hS i n x h.mz h5
 ·refine gE s S w hin hS 5 i n x (.inr (.inr (.inr (.inl ⟨rfl,fun W hU hI=>?_⟩))))
  obtain ⟨t,m,u,ro,so,g⟩:=s
  show Calls _ _ _ W (RetRD _ W (undoD _))
  cases so with
  | true =>
   have e:undoD (Sta.d ⟨t,m,u,ro,true,g⟩)=(Sta.d ⟨t,m,u,ro,true,g⟩,11):=by unfold undoD;exact if_pos rfl
   rw [e]
   exact mR _ W hU hI h
  | false =>
   cases hn:u.l.length with
   | zero =>
    have e:undoD (Sta.d ⟨t,m,u,ro,false,g⟩)=(Sta.d ⟨t,m,u,ro,false,g⟩,10):=by unfold undoD;exact (if_neg (fun h=>by cases h)).trans (if_pos (show (lsP u.l).length=0 by rw [aC];exact hn))
    rw [e]
    exact mW _ W hU hI h hn
   | succ q =>
    obtain ⟨ua,ul,uc⟩:=u
    obtain ⟨ad,e,-⟩:=hU.u.in.row 0 (by show 0<ul.length;have hn:ul.length=q+1:=hn;omega)
    have e:ua=some ad:=e
    subst e
    exact nZ _ W hU hI h q hn
 ·refine gE s S w hin hS 6 i n x (.inr (.inr (.inr (.inr (.inl ⟨rfl,fun W hU hI=>?_⟩)))))
  obtain ⟨t,m,u,ro,so,g⟩:=s
  show Calls _ _ _ W (RetRD _ W (redoD _))
  cases so with
  | true =>
   have e:redoD (Sta.d ⟨t,m,u,ro,true,g⟩)=(Sta.d ⟨t,m,u,ro,true,g⟩,11):=by unfold redoD;exact if_pos rfl
   rw [e]
   exact mV _ W hU hI h
  | false =>
   cases hn:ro.l.length with
   | zero =>
    have e:redoD (Sta.d ⟨t,m,u,ro,false,g⟩)=(Sta.d ⟨t,m,u,ro,false,g⟩,10):=by unfold redoD;exact (if_neg (fun h=>by cases h)).trans (if_pos (show (lsP ro.l).length=0 by rw [aC];exact hn))
    rw [e]
    exact mU _ W hU hI h hn
   | succ q =>
    obtain ⟨ra,rl,rc⟩:=ro
    obtain ⟨ad,e,-⟩:=hU.r.in.row 0 (by show 0<rl.length;have hn:rl.length=q+1:=hn;omega)
    have e:ra=some ad:=e
    subst e
    exact oH _ W hU hI h q hn
 ·show Calls _ _ _ w (RetRD S w (beginD _))
  obtain ⟨t,m,u,ro,so,g⟩:=s
  cases so with
  | true=>exact EZ S w hin 7 i n x
  | false=>exact BP S w hin 7 i n x
 ·show Calls _ _ _ w (RetRD S w (endD _))
  refine gE s S w hin hS 8 i n x (.inr (.inr (.inr (.inr (.inr ⟨rfl,fun W hU hI=>?_⟩)))))
  obtain ⟨t,m,u,ro,so,g⟩:=s
  cases so with
  | false=>exact GH ⟨t,m,u,ro,false,g⟩ _ W hU hI h rfl
  | true =>
   by_cases hg:g.l.length=0
   ·have e:endD (Sta.d ⟨t,m,u,ro,true,g⟩)=(⟨t,m.l,lsP u.l,lsP ro.l,false,[]⟩,0):=by unfold endD;rw [if_neg (fun h=>by cases h),show (Sta.d ⟨t,m,u,ro,true,g⟩).g.length=0 from hg];rfl
    rw [e]
    exact yE ⟨t,m,u,ro,true,g⟩ _ W hU hI h rfl hg
   ·have e:endD (Sta.d ⟨t,m,u,ro,true,g⟩)=(⟨t,m.l,pushL (lsP u.l) g.l,lsP ro.l,false,[]⟩,0):=by unfold endD;rw [if_neg (fun h=>by cases h),if_neg (show ¬ (Sta.d ⟨t,m,u,ro,true,g⟩).g.length=0 from hg)];rfl
    rw [e]
    exact yM ⟨t,m,u,ro,true,g⟩ _ W hU hI h rfl hg
end Go.Proofs.YtbagenpobcgjnaaGreat
